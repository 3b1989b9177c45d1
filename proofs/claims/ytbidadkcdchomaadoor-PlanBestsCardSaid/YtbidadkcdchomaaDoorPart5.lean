/- Part 5 of the contracts: PEnter. -/
import Derived.Test.YtbidadkcdchomaaDoorPart4

/- package plan: enter. (By gen_penter.py.) -/
set_option linter.unusedVariables false
set_option linter.unusedSimpArgs false
namespace Go.Proofs.YtbidadkcdchomaaDoor
open Go.RowKit

def moreN (m : Nat) (r : List Nat) : Nat → Nat
  | 0 => m
  | q + 1 => moreN m r q &&& r[q]!
theorem entR_get : ∀ (r : List Nat) (m q : Nat), q < r.length → (entR m r)[q]! = r[q]! ||| moreN m r q
  | [], _, _, h => absurd h (Nat.not_lt_zero _)
  | x :: r, m, 0, _ => rfl
  | x :: r, m, q + 1, h => by
    have ih := entR_get r (m &&& x) q (by simpa using h)
    have e : ∀ j, moreN (m &&& x) r j = moreN m (x :: r) (j + 1) := fun j => by
      induction j with
      | zero => rfl
      | succ j ihj =>
        show moreN (m &&& x) r j &&& r[j]! = moreN m (x :: r) (j + 1) &&& (x :: r)[j + 1]!
        rw [ihj, get_cons]
    show (entR (m &&& x) r)[q]! = _
    rw [ih, e, get_cons]
theorem more_lt {m : Nat} {r : List Nat} (h : m < 2 ^ 64) : ∀ q, moreN m r q < 2 ^ 64
  | 0 => h
  | q + 1 => Nat.lt_of_le_of_lt Nat.and_le_left (more_lt h q)
theorem enter_get {C : List Nat} (h : C.length = 24) (ms : Nat → Nat) (s : Nat) {k q : Nat} (hk : k < 3) (hq : q < 8) : (enterN ms s C)[8 * k + q]! = C[8 * k + q]! ||| moreN (shlN (ms k) s) (rowN C k) q := by
  rw [← row_get (enter_len h ms s) hk hq, enter_row h ms s hk, entR_get _ _ _ (by rw [row_len h hk]; exact hq), row_get h hk hq]
theorem enter_lt {C : List Nat} (h : C.length = 24) (hc : ∀ i, i < 24 → C[i]! < 2 ^ 64) (ms : Nat → Nat) (s : Nat) : ∀ i, i < 24 → (enterN ms s C)[i]! < 2 ^ 64 := by
  intro i hi
  obtain ⟨k, q, hk, hq, rfl⟩ : ∃ k q, k < 3 ∧ q < 8 ∧ i = 8 * k + q := ⟨i / 8, i % 8, by omega, by omega, by omega⟩
  rw [enter_get h ms s hk hq]
  exact Nat.or_lt_two_pow (hc _ hi) (more_lt (shl_lt _ _) q)
theorem same24 {A B : List Nat} (ha : A.length = 24) (hb : B.length = 24) (h : ∀ i, i < 24 → A[i]! = B[i]!) : A = B := by
  refine List.ext_getElem (by omega) fun i h1 h2 => ?_
  have := h i (by omega)
  rwa [getElem!_pos A i h1, getElem!_pos B i h2] at this
theorem set_get {l : List Nat} {i j x : Nat} (hj : j < l.length) : (l.set i x)[j]! = if i = j then x else l[j]! := by
  rw [getElem!_pos _ j (by simpa using hj), getElem!_pos l j hj, List.getElem_set]

set_option maxRecDepth 100000 in
set_option maxHeartbeats 16000000 in
theorem enter_any (B : Nat) (va : Option Addr) (vl vc gj jl jc : Nat) (o : Value) (vn : List Nat) (js : List JobN) (st : List Int) (C : List Nat) (jb : JobN) (i s : Nat) (W : World) (hjb : jb = js[i]!) (h : SrR W B va vl vc gj jl jc o vn js st C) (hi : i < jl) (hs : s ≤ 30) (hjl : jl ≤ 5) :
    Calls Tryd.prog 47 #[.pointer (some ⟨B, 0, none⟩), .int .i64 (i : Int), .int .i64 (s : Int)] W fun e w' => e = .returned (.tuple #[]) ∧ SrR w' B va vl vc gj jl jc o vn js st (enterN jb.ms s C) ∧ W.grownBy w' (some B) ∧ w'.heap.size = W.heap.size := by
  have HR := Lib.hid h
  have HJB := Lib.hid hjb
  have m1 := h.m.head.2.1
  have hij : i < js.length := by rw [h.ljs]; exact hi
  have k0 := h.j.mask hij (show 0 < 3 by omega)
  have k1 := h.j.mask hij (show 1 < 3 by omega)
  have k2 := h.j.mask hij (show 2 < 3 by omega)
  have l0 := h.jms i hi 0
  have l1 := h.jms i hi 1
  have l2 := h.jms i hi 2
  rw [← hjb] at k0 k1 k2 l0 l1 l2
  obtain ⟨n0, hn0⟩ : ∃ n, n = jb.ms 0 := ⟨_, rfl⟩
  obtain ⟨n1, hn1⟩ : ∃ n, n = jb.ms 1 := ⟨_, rfl⟩
  obtain ⟨n2, hn2⟩ : ∃ n, n = jb.ms 2 := ⟨_, rfl⟩
  rw [← hn0] at k0 l0
  rw [← hn1] at k1 l1
  rw [← hn2] at k2 l2
  have N0 := Lib.hid hn0
  have N1 := Lib.hid hn1
  have N2 := Lib.hid hn2
  have w0 : (0 : Int) ≤ (i : Int) := by omega
  have w1 : (i : Int) < (jl : Int) := by omega
  have t3 : (0 : Int) ≤ (s : Int) := by omega
  have t4 : (s : Int) < 64 := by omega
  have hLC := Lib.hid h.m.lc
  have HCL := Lib.hid h.cl
  have k0' : W.cell? ⟨gj, i * 5 + 2, none⟩ = some (.int .u64 ((n0 : Nat) : Int)) := k0
  obtain ⟨E, hE⟩ : ∃ E, E = enterN jb.ms s C := ⟨_, rfl⟩
  have HEE := Lib.hid hE
  rw [← hE]
  clear h hjb hij hn0 hn1 hn2 k0 hE
  go_enter Tryd.func47, Tryd.ntmps47
  go_wp2
  clear m1 k0' k1 k2
  go_loopg [19] 3 (fun gg s19 wr => ∃ (k : Nat) (D : List Nat), s19 = .int .i64 (k : Int) ∧ k ≤ 3 ∧ 3 - k ≤ gg ∧ Hid (SrM wr B (.slice va vl vc) (.slice (some ⟨gj, 0, none⟩) jl jc) o st D) ∧ Hid (∀ i, i < 24 → D[i]! = if i < 8 * k then E[i]! else C[i]!) ∧ Hid (W.grownBy wr (some B) ∧ wr.heap.size = W.heap.size))
  case atStart => exact ⟨0, C, rfl, by omega, by omega, Lib.hid HR.out.m, Lib.hid (fun i hi => by simp), Lib.hid ⟨grownBy_refl _ _, rfl⟩⟩
  case round =>
    obtain ⟨k, D, rfl, hk, hgg, HM, HD, HG⟩ := hrel
    have hk4 : k = 0 ∨ k = 1 ∨ k = 2 ∨ k = 3 := by omega
    rcases hk4 with rfl | rfl | rfl | rfl
    · have sh := shl_spell n0 s
      have ix : ∀ w, (Instr.index 68 (.agg #[.int .u64 (n0 : Int), .int .u64 (n1 : Int), .int .u64 (n2 : Int)]) (.int .i64 0)).run Tryd.prog w = .ok (.int .u64 (n0 : Int)) w := fun _ => by kernel_rfl
      rw [show ((0 : Nat) : Int) = 0 from rfl]
      have c0 : wr.cell? ⟨B, 8, none⟩ = some (.int .u64 ((D[0]! : Nat) : Int)) := HM.out.crowd (i := 0) (by omega)
      have d0 : D[0]! = C[0]! := by rw [HD.out 0 (by omega), if_neg (by omega)]
      rw [d0] at c0
      have b0 := HCL.out 0 (by omega)
      obtain ⟨r0, hr0⟩ : ∃ r, r = C[0]! := ⟨_, rfl⟩
      rw [← hr0] at c0 b0
      have R0 := Lib.hid hr0
      have c1 : wr.cell? ⟨B, 9, none⟩ = some (.int .u64 ((D[1]! : Nat) : Int)) := HM.out.crowd (i := 1) (by omega)
      have d1 : D[1]! = C[1]! := by rw [HD.out 1 (by omega), if_neg (by omega)]
      rw [d1] at c1
      have b1 := HCL.out 1 (by omega)
      obtain ⟨r1, hr1⟩ : ∃ r, r = C[1]! := ⟨_, rfl⟩
      rw [← hr1] at c1 b1
      have R1 := Lib.hid hr1
      have c2 : wr.cell? ⟨B, 10, none⟩ = some (.int .u64 ((D[2]! : Nat) : Int)) := HM.out.crowd (i := 2) (by omega)
      have d2 : D[2]! = C[2]! := by rw [HD.out 2 (by omega), if_neg (by omega)]
      rw [d2] at c2
      have b2 := HCL.out 2 (by omega)
      obtain ⟨r2, hr2⟩ : ∃ r, r = C[2]! := ⟨_, rfl⟩
      rw [← hr2] at c2 b2
      have R2 := Lib.hid hr2
      have c3 : wr.cell? ⟨B, 11, none⟩ = some (.int .u64 ((D[3]! : Nat) : Int)) := HM.out.crowd (i := 3) (by omega)
      have d3 : D[3]! = C[3]! := by rw [HD.out 3 (by omega), if_neg (by omega)]
      rw [d3] at c3
      have b3 := HCL.out 3 (by omega)
      obtain ⟨r3, hr3⟩ : ∃ r, r = C[3]! := ⟨_, rfl⟩
      rw [← hr3] at c3 b3
      have R3 := Lib.hid hr3
      have c4 : wr.cell? ⟨B, 12, none⟩ = some (.int .u64 ((D[4]! : Nat) : Int)) := HM.out.crowd (i := 4) (by omega)
      have d4 : D[4]! = C[4]! := by rw [HD.out 4 (by omega), if_neg (by omega)]
      rw [d4] at c4
      have b4 := HCL.out 4 (by omega)
      obtain ⟨r4, hr4⟩ : ∃ r, r = C[4]! := ⟨_, rfl⟩
      rw [← hr4] at c4 b4
      have R4 := Lib.hid hr4
      have c5 : wr.cell? ⟨B, 13, none⟩ = some (.int .u64 ((D[5]! : Nat) : Int)) := HM.out.crowd (i := 5) (by omega)
      have d5 : D[5]! = C[5]! := by rw [HD.out 5 (by omega), if_neg (by omega)]
      rw [d5] at c5
      have b5 := HCL.out 5 (by omega)
      obtain ⟨r5, hr5⟩ : ∃ r, r = C[5]! := ⟨_, rfl⟩
      rw [← hr5] at c5 b5
      have R5 := Lib.hid hr5
      have c6 : wr.cell? ⟨B, 14, none⟩ = some (.int .u64 ((D[6]! : Nat) : Int)) := HM.out.crowd (i := 6) (by omega)
      have d6 : D[6]! = C[6]! := by rw [HD.out 6 (by omega), if_neg (by omega)]
      rw [d6] at c6
      have b6 := HCL.out 6 (by omega)
      obtain ⟨r6, hr6⟩ : ∃ r, r = C[6]! := ⟨_, rfl⟩
      rw [← hr6] at c6 b6
      have R6 := Lib.hid hr6
      have c7 : wr.cell? ⟨B, 15, none⟩ = some (.int .u64 ((D[7]! : Nat) : Int)) := HM.out.crowd (i := 7) (by omega)
      have d7 : D[7]! = C[7]! := by rw [HD.out 7 (by omega), if_neg (by omega)]
      rw [d7] at c7
      have b7 := HCL.out 7 (by omega)
      obtain ⟨r7, hr7⟩ : ∃ r, r = C[7]! := ⟨_, rfl⟩
      rw [← hr7] at c7 b7
      have R7 := Lib.hid hr7
      clear d0 hr0 d1 hr1 d2 hr2 d3 hr3 d4 hr4 d5 hr5 d6 hr6 d7 hr7
      go_wp2
      clear c0 c1 c2 c3 c4 c5 c6 c7 sh
      go_loopg [8, 32] 8 (fun gg s8 s32 wq => ∃ (q : Nat) (F : List Nat) (mq : Nat), s32 = .int .i64 (q : Int) ∧ s8 = .int .u64 ((mq : Nat) : Int) ∧ q ≤ 8 ∧ 8 - q ≤ gg ∧ mq < 2 ^ 64 ∧ Hid (mq = moreN (shlN (jb.ms 0) s) (rowN C 0) q) ∧ Hid (SrM wq B (.slice va vl vc) (.slice (some ⟨gj, 0, none⟩) jl jc) o st F) ∧ Hid (∀ i, i < 24 → F[i]! = if i < 0 + q then E[i]! else C[i]!) ∧ Hid (W.grownBy wq (some B) ∧ wq.heap.size = W.heap.size))
      case atStart => exact ⟨0, D, shlN n0 s, rfl, rfl, by omega, by omega, shl_lt _ _, Lib.hid (by rw [N0.out]; rfl), HM, Lib.hid (fun i hi => by have := HD.out i hi; simpa using this), HG⟩
      case round =>
        obtain ⟨q, F, mq, rfl, rfl, hq, hgg2, hmq, HMQ, HMM, HF, HG2⟩ := hrel
        have hq9 : q = 0 ∨ q = 1 ∨ q = 2 ∨ q = 3 ∨ q = 4 ∨ q = 5 ∨ q = 6 ∨ q = 7 ∨ q = 8 := by omega
        rcases hq9 with rfl | rfl | rfl | rfl | rfl | rfl | rfl | rfl | rfl
        · have iq : ∀ w, (Instr.index 64 (.agg #[.int .u64 (r0 : Int), .int .u64 (r1 : Int), .int .u64 (r2 : Int), .int .u64 (r3 : Int), .int .u64 (r4 : Int), .int .u64 (r5 : Int), .int .u64 (r6 : Int), .int .u64 (r7 : Int)]) (.int .i64 0)).run Tryd.prog w = .ok (.int .u64 (r0 : Int)) w := fun _ => by kernel_rfl
          rw [show ((0 : Nat) : Int) = 0 from rfl]
          have e1 := or_spell r0 mq b0 hmq
          have e2 := and_spell mq r0 hmq b0
          have x0 := HMM.out.crowd (i := 0) (by omega)
          have x1 : wr.cell? ⟨B, 8, none⟩ = some (.int .u64 ((F[0]! : Nat) : Int)) := x0
          have f0 := HMM.out.free 8
          have HV : Hid (r0 ||| mq = E[0]!) := Lib.hid (by rw [HEE.out, HMQ.out, R0.out]; exact (enter_get hLC.out jb.ms s (k := 0) (q := 0) (by omega) (by omega)).symm)
          clear x0
          go_wp2
          go_roundg (8 - (0 + 1))
          case measure => omega
          case rel => exact ⟨0 + 1, F.set 0 (r0 ||| mq), mq &&& r0, rfl, rfl, by omega, by omega, Nat.lt_of_le_of_lt Nat.and_le_left hmq, Lib.hid (by
              show mq &&& r0 = moreN _ _ 0 &&& (rowN C 0)[0]!
              rw [← HMQ.out, row_get hLC.out (by omega) (by omega), R0.out]), Lib.hid (HMM.out.setCrowd (i := 0) (by omega) _), Lib.hid (fun i hi => by
              rw [set_get (by rw [HMM.out.lc]; exact hi), HF.out i hi, HV.out]
              by_cases hx : 0 = i
              · subst hx; rw [if_pos rfl, if_pos (by omega)]
              · rw [if_neg hx]
                by_cases hy : i < 0 + 0
                · rw [if_pos hy, if_pos (by omega)]
                · rw [if_neg hy, if_neg (by omega)]), Lib.hid ⟨grownBy_trans HG2.out.1 (grownBy_set _ _ _ _), by have := HG2.out.2; simpa using this⟩⟩
        · have iq : ∀ w, (Instr.index 64 (.agg #[.int .u64 (r0 : Int), .int .u64 (r1 : Int), .int .u64 (r2 : Int), .int .u64 (r3 : Int), .int .u64 (r4 : Int), .int .u64 (r5 : Int), .int .u64 (r6 : Int), .int .u64 (r7 : Int)]) (.int .i64 1)).run Tryd.prog w = .ok (.int .u64 (r1 : Int)) w := fun _ => by kernel_rfl
          rw [show ((1 : Nat) : Int) = 1 from rfl]
          have e1 := or_spell r1 mq b1 hmq
          have e2 := and_spell mq r1 hmq b1
          have x0 := HMM.out.crowd (i := 1) (by omega)
          have x1 : wr.cell? ⟨B, 9, none⟩ = some (.int .u64 ((F[1]! : Nat) : Int)) := x0
          have f0 := HMM.out.free 9
          have HV : Hid (r1 ||| mq = E[1]!) := Lib.hid (by rw [HEE.out, HMQ.out, R1.out]; exact (enter_get hLC.out jb.ms s (k := 0) (q := 1) (by omega) (by omega)).symm)
          clear x0
          go_wp2
          go_roundg (8 - (1 + 1))
          case measure => omega
          case rel => exact ⟨1 + 1, F.set 1 (r1 ||| mq), mq &&& r1, rfl, rfl, by omega, by omega, Nat.lt_of_le_of_lt Nat.and_le_left hmq, Lib.hid (by
              show mq &&& r1 = moreN _ _ 1 &&& (rowN C 0)[1]!
              rw [← HMQ.out, row_get hLC.out (by omega) (by omega), R1.out]), Lib.hid (HMM.out.setCrowd (i := 1) (by omega) _), Lib.hid (fun i hi => by
              rw [set_get (by rw [HMM.out.lc]; exact hi), HF.out i hi, HV.out]
              by_cases hx : 1 = i
              · subst hx; rw [if_pos rfl, if_pos (by omega)]
              · rw [if_neg hx]
                by_cases hy : i < 0 + 1
                · rw [if_pos hy, if_pos (by omega)]
                · rw [if_neg hy, if_neg (by omega)]), Lib.hid ⟨grownBy_trans HG2.out.1 (grownBy_set _ _ _ _), by have := HG2.out.2; simpa using this⟩⟩
        · have iq : ∀ w, (Instr.index 64 (.agg #[.int .u64 (r0 : Int), .int .u64 (r1 : Int), .int .u64 (r2 : Int), .int .u64 (r3 : Int), .int .u64 (r4 : Int), .int .u64 (r5 : Int), .int .u64 (r6 : Int), .int .u64 (r7 : Int)]) (.int .i64 2)).run Tryd.prog w = .ok (.int .u64 (r2 : Int)) w := fun _ => by kernel_rfl
          rw [show ((2 : Nat) : Int) = 2 from rfl]
          have e1 := or_spell r2 mq b2 hmq
          have e2 := and_spell mq r2 hmq b2
          have x0 := HMM.out.crowd (i := 2) (by omega)
          have x1 : wr.cell? ⟨B, 10, none⟩ = some (.int .u64 ((F[2]! : Nat) : Int)) := x0
          have f0 := HMM.out.free 10
          have HV : Hid (r2 ||| mq = E[2]!) := Lib.hid (by rw [HEE.out, HMQ.out, R2.out]; exact (enter_get hLC.out jb.ms s (k := 0) (q := 2) (by omega) (by omega)).symm)
          clear x0
          go_wp2
          go_roundg (8 - (2 + 1))
          case measure => omega
          case rel => exact ⟨2 + 1, F.set 2 (r2 ||| mq), mq &&& r2, rfl, rfl, by omega, by omega, Nat.lt_of_le_of_lt Nat.and_le_left hmq, Lib.hid (by
              show mq &&& r2 = moreN _ _ 2 &&& (rowN C 0)[2]!
              rw [← HMQ.out, row_get hLC.out (by omega) (by omega), R2.out]), Lib.hid (HMM.out.setCrowd (i := 2) (by omega) _), Lib.hid (fun i hi => by
              rw [set_get (by rw [HMM.out.lc]; exact hi), HF.out i hi, HV.out]
              by_cases hx : 2 = i
              · subst hx; rw [if_pos rfl, if_pos (by omega)]
              · rw [if_neg hx]
                by_cases hy : i < 0 + 2
                · rw [if_pos hy, if_pos (by omega)]
                · rw [if_neg hy, if_neg (by omega)]), Lib.hid ⟨grownBy_trans HG2.out.1 (grownBy_set _ _ _ _), by have := HG2.out.2; simpa using this⟩⟩
        · have iq : ∀ w, (Instr.index 64 (.agg #[.int .u64 (r0 : Int), .int .u64 (r1 : Int), .int .u64 (r2 : Int), .int .u64 (r3 : Int), .int .u64 (r4 : Int), .int .u64 (r5 : Int), .int .u64 (r6 : Int), .int .u64 (r7 : Int)]) (.int .i64 3)).run Tryd.prog w = .ok (.int .u64 (r3 : Int)) w := fun _ => by kernel_rfl
          rw [show ((3 : Nat) : Int) = 3 from rfl]
          have e1 := or_spell r3 mq b3 hmq
          have e2 := and_spell mq r3 hmq b3
          have x0 := HMM.out.crowd (i := 3) (by omega)
          have x1 : wr.cell? ⟨B, 11, none⟩ = some (.int .u64 ((F[3]! : Nat) : Int)) := x0
          have f0 := HMM.out.free 11
          have HV : Hid (r3 ||| mq = E[3]!) := Lib.hid (by rw [HEE.out, HMQ.out, R3.out]; exact (enter_get hLC.out jb.ms s (k := 0) (q := 3) (by omega) (by omega)).symm)
          clear x0
          go_wp2
          go_roundg (8 - (3 + 1))
          case measure => omega
          case rel => exact ⟨3 + 1, F.set 3 (r3 ||| mq), mq &&& r3, rfl, rfl, by omega, by omega, Nat.lt_of_le_of_lt Nat.and_le_left hmq, Lib.hid (by
              show mq &&& r3 = moreN _ _ 3 &&& (rowN C 0)[3]!
              rw [← HMQ.out, row_get hLC.out (by omega) (by omega), R3.out]), Lib.hid (HMM.out.setCrowd (i := 3) (by omega) _), Lib.hid (fun i hi => by
              rw [set_get (by rw [HMM.out.lc]; exact hi), HF.out i hi, HV.out]
              by_cases hx : 3 = i
              · subst hx; rw [if_pos rfl, if_pos (by omega)]
              · rw [if_neg hx]
                by_cases hy : i < 0 + 3
                · rw [if_pos hy, if_pos (by omega)]
                · rw [if_neg hy, if_neg (by omega)]), Lib.hid ⟨grownBy_trans HG2.out.1 (grownBy_set _ _ _ _), by have := HG2.out.2; simpa using this⟩⟩
        · have iq : ∀ w, (Instr.index 64 (.agg #[.int .u64 (r0 : Int), .int .u64 (r1 : Int), .int .u64 (r2 : Int), .int .u64 (r3 : Int), .int .u64 (r4 : Int), .int .u64 (r5 : Int), .int .u64 (r6 : Int), .int .u64 (r7 : Int)]) (.int .i64 4)).run Tryd.prog w = .ok (.int .u64 (r4 : Int)) w := fun _ => by kernel_rfl
          rw [show ((4 : Nat) : Int) = 4 from rfl]
          have e1 := or_spell r4 mq b4 hmq
          have e2 := and_spell mq r4 hmq b4
          have x0 := HMM.out.crowd (i := 4) (by omega)
          have x1 : wr.cell? ⟨B, 12, none⟩ = some (.int .u64 ((F[4]! : Nat) : Int)) := x0
          have f0 := HMM.out.free 12
          have HV : Hid (r4 ||| mq = E[4]!) := Lib.hid (by rw [HEE.out, HMQ.out, R4.out]; exact (enter_get hLC.out jb.ms s (k := 0) (q := 4) (by omega) (by omega)).symm)
          clear x0
          go_wp2
          go_roundg (8 - (4 + 1))
          case measure => omega
          case rel => exact ⟨4 + 1, F.set 4 (r4 ||| mq), mq &&& r4, rfl, rfl, by omega, by omega, Nat.lt_of_le_of_lt Nat.and_le_left hmq, Lib.hid (by
              show mq &&& r4 = moreN _ _ 4 &&& (rowN C 0)[4]!
              rw [← HMQ.out, row_get hLC.out (by omega) (by omega), R4.out]), Lib.hid (HMM.out.setCrowd (i := 4) (by omega) _), Lib.hid (fun i hi => by
              rw [set_get (by rw [HMM.out.lc]; exact hi), HF.out i hi, HV.out]
              by_cases hx : 4 = i
              · subst hx; rw [if_pos rfl, if_pos (by omega)]
              · rw [if_neg hx]
                by_cases hy : i < 0 + 4
                · rw [if_pos hy, if_pos (by omega)]
                · rw [if_neg hy, if_neg (by omega)]), Lib.hid ⟨grownBy_trans HG2.out.1 (grownBy_set _ _ _ _), by have := HG2.out.2; simpa using this⟩⟩
        · have iq : ∀ w, (Instr.index 64 (.agg #[.int .u64 (r0 : Int), .int .u64 (r1 : Int), .int .u64 (r2 : Int), .int .u64 (r3 : Int), .int .u64 (r4 : Int), .int .u64 (r5 : Int), .int .u64 (r6 : Int), .int .u64 (r7 : Int)]) (.int .i64 5)).run Tryd.prog w = .ok (.int .u64 (r5 : Int)) w := fun _ => by kernel_rfl
          rw [show ((5 : Nat) : Int) = 5 from rfl]
          have e1 := or_spell r5 mq b5 hmq
          have e2 := and_spell mq r5 hmq b5
          have x0 := HMM.out.crowd (i := 5) (by omega)
          have x1 : wr.cell? ⟨B, 13, none⟩ = some (.int .u64 ((F[5]! : Nat) : Int)) := x0
          have f0 := HMM.out.free 13
          have HV : Hid (r5 ||| mq = E[5]!) := Lib.hid (by rw [HEE.out, HMQ.out, R5.out]; exact (enter_get hLC.out jb.ms s (k := 0) (q := 5) (by omega) (by omega)).symm)
          clear x0
          go_wp2
          go_roundg (8 - (5 + 1))
          case measure => omega
          case rel => exact ⟨5 + 1, F.set 5 (r5 ||| mq), mq &&& r5, rfl, rfl, by omega, by omega, Nat.lt_of_le_of_lt Nat.and_le_left hmq, Lib.hid (by
              show mq &&& r5 = moreN _ _ 5 &&& (rowN C 0)[5]!
              rw [← HMQ.out, row_get hLC.out (by omega) (by omega), R5.out]), Lib.hid (HMM.out.setCrowd (i := 5) (by omega) _), Lib.hid (fun i hi => by
              rw [set_get (by rw [HMM.out.lc]; exact hi), HF.out i hi, HV.out]
              by_cases hx : 5 = i
              · subst hx; rw [if_pos rfl, if_pos (by omega)]
              · rw [if_neg hx]
                by_cases hy : i < 0 + 5
                · rw [if_pos hy, if_pos (by omega)]
                · rw [if_neg hy, if_neg (by omega)]), Lib.hid ⟨grownBy_trans HG2.out.1 (grownBy_set _ _ _ _), by have := HG2.out.2; simpa using this⟩⟩
        · have iq : ∀ w, (Instr.index 64 (.agg #[.int .u64 (r0 : Int), .int .u64 (r1 : Int), .int .u64 (r2 : Int), .int .u64 (r3 : Int), .int .u64 (r4 : Int), .int .u64 (r5 : Int), .int .u64 (r6 : Int), .int .u64 (r7 : Int)]) (.int .i64 6)).run Tryd.prog w = .ok (.int .u64 (r6 : Int)) w := fun _ => by kernel_rfl
          rw [show ((6 : Nat) : Int) = 6 from rfl]
          have e1 := or_spell r6 mq b6 hmq
          have e2 := and_spell mq r6 hmq b6
          have x0 := HMM.out.crowd (i := 6) (by omega)
          have x1 : wr.cell? ⟨B, 14, none⟩ = some (.int .u64 ((F[6]! : Nat) : Int)) := x0
          have f0 := HMM.out.free 14
          have HV : Hid (r6 ||| mq = E[6]!) := Lib.hid (by rw [HEE.out, HMQ.out, R6.out]; exact (enter_get hLC.out jb.ms s (k := 0) (q := 6) (by omega) (by omega)).symm)
          clear x0
          go_wp2
          go_roundg (8 - (6 + 1))
          case measure => omega
          case rel => exact ⟨6 + 1, F.set 6 (r6 ||| mq), mq &&& r6, rfl, rfl, by omega, by omega, Nat.lt_of_le_of_lt Nat.and_le_left hmq, Lib.hid (by
              show mq &&& r6 = moreN _ _ 6 &&& (rowN C 0)[6]!
              rw [← HMQ.out, row_get hLC.out (by omega) (by omega), R6.out]), Lib.hid (HMM.out.setCrowd (i := 6) (by omega) _), Lib.hid (fun i hi => by
              rw [set_get (by rw [HMM.out.lc]; exact hi), HF.out i hi, HV.out]
              by_cases hx : 6 = i
              · subst hx; rw [if_pos rfl, if_pos (by omega)]
              · rw [if_neg hx]
                by_cases hy : i < 0 + 6
                · rw [if_pos hy, if_pos (by omega)]
                · rw [if_neg hy, if_neg (by omega)]), Lib.hid ⟨grownBy_trans HG2.out.1 (grownBy_set _ _ _ _), by have := HG2.out.2; simpa using this⟩⟩
        · have iq : ∀ w, (Instr.index 64 (.agg #[.int .u64 (r0 : Int), .int .u64 (r1 : Int), .int .u64 (r2 : Int), .int .u64 (r3 : Int), .int .u64 (r4 : Int), .int .u64 (r5 : Int), .int .u64 (r6 : Int), .int .u64 (r7 : Int)]) (.int .i64 7)).run Tryd.prog w = .ok (.int .u64 (r7 : Int)) w := fun _ => by kernel_rfl
          rw [show ((7 : Nat) : Int) = 7 from rfl]
          have e1 := or_spell r7 mq b7 hmq
          have e2 := and_spell mq r7 hmq b7
          have x0 := HMM.out.crowd (i := 7) (by omega)
          have x1 : wr.cell? ⟨B, 15, none⟩ = some (.int .u64 ((F[7]! : Nat) : Int)) := x0
          have f0 := HMM.out.free 15
          have HV : Hid (r7 ||| mq = E[7]!) := Lib.hid (by rw [HEE.out, HMQ.out, R7.out]; exact (enter_get hLC.out jb.ms s (k := 0) (q := 7) (by omega) (by omega)).symm)
          clear x0
          go_wp2
          go_roundg (8 - (7 + 1))
          case measure => omega
          case rel => exact ⟨7 + 1, F.set 7 (r7 ||| mq), mq &&& r7, rfl, rfl, by omega, by omega, Nat.lt_of_le_of_lt Nat.and_le_left hmq, Lib.hid (by
              show mq &&& r7 = moreN _ _ 7 &&& (rowN C 0)[7]!
              rw [← HMQ.out, row_get hLC.out (by omega) (by omega), R7.out]), Lib.hid (HMM.out.setCrowd (i := 7) (by omega) _), Lib.hid (fun i hi => by
              rw [set_get (by rw [HMM.out.lc]; exact hi), HF.out i hi, HV.out]
              by_cases hx : 7 = i
              · subst hx; rw [if_pos rfl, if_pos (by omega)]
              · rw [if_neg hx]
                by_cases hy : i < 0 + 7
                · rw [if_pos hy, if_pos (by omega)]
                · rw [if_neg hy, if_neg (by omega)]), Lib.hid ⟨grownBy_trans HG2.out.1 (grownBy_set _ _ _ _), by have := HG2.out.2; simpa using this⟩⟩
        · rw [show ((8 : Nat) : Int) = 8 from rfl]
          go_wp2
          go_roundg (3 - (0 + 1))
          case measure => omega
          case rel => exact ⟨0 + 1, F, rfl, by omega, by omega, HMM, Lib.hid (fun i hi => by have := HF.out i hi; simpa using this), HG2⟩
    · have sh := shl_spell n1 s
      have ix : ∀ w, (Instr.index 68 (.agg #[.int .u64 (n0 : Int), .int .u64 (n1 : Int), .int .u64 (n2 : Int)]) (.int .i64 1)).run Tryd.prog w = .ok (.int .u64 (n1 : Int)) w := fun _ => by kernel_rfl
      rw [show ((1 : Nat) : Int) = 1 from rfl]
      have c0 : wr.cell? ⟨B, 16, none⟩ = some (.int .u64 ((D[8]! : Nat) : Int)) := HM.out.crowd (i := 8) (by omega)
      have d0 : D[8]! = C[8]! := by rw [HD.out 8 (by omega), if_neg (by omega)]
      rw [d0] at c0
      have b0 := HCL.out 8 (by omega)
      obtain ⟨r0, hr0⟩ : ∃ r, r = C[8]! := ⟨_, rfl⟩
      rw [← hr0] at c0 b0
      have R0 := Lib.hid hr0
      have c1 : wr.cell? ⟨B, 17, none⟩ = some (.int .u64 ((D[9]! : Nat) : Int)) := HM.out.crowd (i := 9) (by omega)
      have d1 : D[9]! = C[9]! := by rw [HD.out 9 (by omega), if_neg (by omega)]
      rw [d1] at c1
      have b1 := HCL.out 9 (by omega)
      obtain ⟨r1, hr1⟩ : ∃ r, r = C[9]! := ⟨_, rfl⟩
      rw [← hr1] at c1 b1
      have R1 := Lib.hid hr1
      have c2 : wr.cell? ⟨B, 18, none⟩ = some (.int .u64 ((D[10]! : Nat) : Int)) := HM.out.crowd (i := 10) (by omega)
      have d2 : D[10]! = C[10]! := by rw [HD.out 10 (by omega), if_neg (by omega)]
      rw [d2] at c2
      have b2 := HCL.out 10 (by omega)
      obtain ⟨r2, hr2⟩ : ∃ r, r = C[10]! := ⟨_, rfl⟩
      rw [← hr2] at c2 b2
      have R2 := Lib.hid hr2
      have c3 : wr.cell? ⟨B, 19, none⟩ = some (.int .u64 ((D[11]! : Nat) : Int)) := HM.out.crowd (i := 11) (by omega)
      have d3 : D[11]! = C[11]! := by rw [HD.out 11 (by omega), if_neg (by omega)]
      rw [d3] at c3
      have b3 := HCL.out 11 (by omega)
      obtain ⟨r3, hr3⟩ : ∃ r, r = C[11]! := ⟨_, rfl⟩
      rw [← hr3] at c3 b3
      have R3 := Lib.hid hr3
      have c4 : wr.cell? ⟨B, 20, none⟩ = some (.int .u64 ((D[12]! : Nat) : Int)) := HM.out.crowd (i := 12) (by omega)
      have d4 : D[12]! = C[12]! := by rw [HD.out 12 (by omega), if_neg (by omega)]
      rw [d4] at c4
      have b4 := HCL.out 12 (by omega)
      obtain ⟨r4, hr4⟩ : ∃ r, r = C[12]! := ⟨_, rfl⟩
      rw [← hr4] at c4 b4
      have R4 := Lib.hid hr4
      have c5 : wr.cell? ⟨B, 21, none⟩ = some (.int .u64 ((D[13]! : Nat) : Int)) := HM.out.crowd (i := 13) (by omega)
      have d5 : D[13]! = C[13]! := by rw [HD.out 13 (by omega), if_neg (by omega)]
      rw [d5] at c5
      have b5 := HCL.out 13 (by omega)
      obtain ⟨r5, hr5⟩ : ∃ r, r = C[13]! := ⟨_, rfl⟩
      rw [← hr5] at c5 b5
      have R5 := Lib.hid hr5
      have c6 : wr.cell? ⟨B, 22, none⟩ = some (.int .u64 ((D[14]! : Nat) : Int)) := HM.out.crowd (i := 14) (by omega)
      have d6 : D[14]! = C[14]! := by rw [HD.out 14 (by omega), if_neg (by omega)]
      rw [d6] at c6
      have b6 := HCL.out 14 (by omega)
      obtain ⟨r6, hr6⟩ : ∃ r, r = C[14]! := ⟨_, rfl⟩
      rw [← hr6] at c6 b6
      have R6 := Lib.hid hr6
      have c7 : wr.cell? ⟨B, 23, none⟩ = some (.int .u64 ((D[15]! : Nat) : Int)) := HM.out.crowd (i := 15) (by omega)
      have d7 : D[15]! = C[15]! := by rw [HD.out 15 (by omega), if_neg (by omega)]
      rw [d7] at c7
      have b7 := HCL.out 15 (by omega)
      obtain ⟨r7, hr7⟩ : ∃ r, r = C[15]! := ⟨_, rfl⟩
      rw [← hr7] at c7 b7
      have R7 := Lib.hid hr7
      clear d0 hr0 d1 hr1 d2 hr2 d3 hr3 d4 hr4 d5 hr5 d6 hr6 d7 hr7
      go_wp2
      clear c0 c1 c2 c3 c4 c5 c6 c7 sh
      go_loopg [8, 32] 8 (fun gg s8 s32 wq => ∃ (q : Nat) (F : List Nat) (mq : Nat), s32 = .int .i64 (q : Int) ∧ s8 = .int .u64 ((mq : Nat) : Int) ∧ q ≤ 8 ∧ 8 - q ≤ gg ∧ mq < 2 ^ 64 ∧ Hid (mq = moreN (shlN (jb.ms 1) s) (rowN C 1) q) ∧ Hid (SrM wq B (.slice va vl vc) (.slice (some ⟨gj, 0, none⟩) jl jc) o st F) ∧ Hid (∀ i, i < 24 → F[i]! = if i < 8 + q then E[i]! else C[i]!) ∧ Hid (W.grownBy wq (some B) ∧ wq.heap.size = W.heap.size))
      case atStart => exact ⟨0, D, shlN n1 s, rfl, rfl, by omega, by omega, shl_lt _ _, Lib.hid (by rw [N1.out]; rfl), HM, Lib.hid (fun i hi => by have := HD.out i hi; simpa using this), HG⟩
      case round =>
        obtain ⟨q, F, mq, rfl, rfl, hq, hgg2, hmq, HMQ, HMM, HF, HG2⟩ := hrel
        have hq9 : q = 0 ∨ q = 1 ∨ q = 2 ∨ q = 3 ∨ q = 4 ∨ q = 5 ∨ q = 6 ∨ q = 7 ∨ q = 8 := by omega
        rcases hq9 with rfl | rfl | rfl | rfl | rfl | rfl | rfl | rfl | rfl
        · have iq : ∀ w, (Instr.index 64 (.agg #[.int .u64 (r0 : Int), .int .u64 (r1 : Int), .int .u64 (r2 : Int), .int .u64 (r3 : Int), .int .u64 (r4 : Int), .int .u64 (r5 : Int), .int .u64 (r6 : Int), .int .u64 (r7 : Int)]) (.int .i64 0)).run Tryd.prog w = .ok (.int .u64 (r0 : Int)) w := fun _ => by kernel_rfl
          rw [show ((0 : Nat) : Int) = 0 from rfl]
          have e1 := or_spell r0 mq b0 hmq
          have e2 := and_spell mq r0 hmq b0
          have x0 := HMM.out.crowd (i := 8) (by omega)
          have x1 : wr.cell? ⟨B, 16, none⟩ = some (.int .u64 ((F[8]! : Nat) : Int)) := x0
          have f0 := HMM.out.free 16
          have HV : Hid (r0 ||| mq = E[8]!) := Lib.hid (by rw [HEE.out, HMQ.out, R0.out]; exact (enter_get hLC.out jb.ms s (k := 1) (q := 0) (by omega) (by omega)).symm)
          clear x0
          go_wp2
          go_roundg (8 - (0 + 1))
          case measure => omega
          case rel => exact ⟨0 + 1, F.set 8 (r0 ||| mq), mq &&& r0, rfl, rfl, by omega, by omega, Nat.lt_of_le_of_lt Nat.and_le_left hmq, Lib.hid (by
              show mq &&& r0 = moreN _ _ 0 &&& (rowN C 1)[0]!
              rw [← HMQ.out, row_get hLC.out (by omega) (by omega), R0.out]), Lib.hid (HMM.out.setCrowd (i := 8) (by omega) _), Lib.hid (fun i hi => by
              rw [set_get (by rw [HMM.out.lc]; exact hi), HF.out i hi, HV.out]
              by_cases hx : 8 = i
              · subst hx; rw [if_pos rfl, if_pos (by omega)]
              · rw [if_neg hx]
                by_cases hy : i < 8 + 0
                · rw [if_pos hy, if_pos (by omega)]
                · rw [if_neg hy, if_neg (by omega)]), Lib.hid ⟨grownBy_trans HG2.out.1 (grownBy_set _ _ _ _), by have := HG2.out.2; simpa using this⟩⟩
        · have iq : ∀ w, (Instr.index 64 (.agg #[.int .u64 (r0 : Int), .int .u64 (r1 : Int), .int .u64 (r2 : Int), .int .u64 (r3 : Int), .int .u64 (r4 : Int), .int .u64 (r5 : Int), .int .u64 (r6 : Int), .int .u64 (r7 : Int)]) (.int .i64 1)).run Tryd.prog w = .ok (.int .u64 (r1 : Int)) w := fun _ => by kernel_rfl
          rw [show ((1 : Nat) : Int) = 1 from rfl]
          have e1 := or_spell r1 mq b1 hmq
          have e2 := and_spell mq r1 hmq b1
          have x0 := HMM.out.crowd (i := 9) (by omega)
          have x1 : wr.cell? ⟨B, 17, none⟩ = some (.int .u64 ((F[9]! : Nat) : Int)) := x0
          have f0 := HMM.out.free 17
          have HV : Hid (r1 ||| mq = E[9]!) := Lib.hid (by rw [HEE.out, HMQ.out, R1.out]; exact (enter_get hLC.out jb.ms s (k := 1) (q := 1) (by omega) (by omega)).symm)
          clear x0
          go_wp2
          go_roundg (8 - (1 + 1))
          case measure => omega
          case rel => exact ⟨1 + 1, F.set 9 (r1 ||| mq), mq &&& r1, rfl, rfl, by omega, by omega, Nat.lt_of_le_of_lt Nat.and_le_left hmq, Lib.hid (by
              show mq &&& r1 = moreN _ _ 1 &&& (rowN C 1)[1]!
              rw [← HMQ.out, row_get hLC.out (by omega) (by omega), R1.out]), Lib.hid (HMM.out.setCrowd (i := 9) (by omega) _), Lib.hid (fun i hi => by
              rw [set_get (by rw [HMM.out.lc]; exact hi), HF.out i hi, HV.out]
              by_cases hx : 9 = i
              · subst hx; rw [if_pos rfl, if_pos (by omega)]
              · rw [if_neg hx]
                by_cases hy : i < 8 + 1
                · rw [if_pos hy, if_pos (by omega)]
                · rw [if_neg hy, if_neg (by omega)]), Lib.hid ⟨grownBy_trans HG2.out.1 (grownBy_set _ _ _ _), by have := HG2.out.2; simpa using this⟩⟩
        · have iq : ∀ w, (Instr.index 64 (.agg #[.int .u64 (r0 : Int), .int .u64 (r1 : Int), .int .u64 (r2 : Int), .int .u64 (r3 : Int), .int .u64 (r4 : Int), .int .u64 (r5 : Int), .int .u64 (r6 : Int), .int .u64 (r7 : Int)]) (.int .i64 2)).run Tryd.prog w = .ok (.int .u64 (r2 : Int)) w := fun _ => by kernel_rfl
          rw [show ((2 : Nat) : Int) = 2 from rfl]
          have e1 := or_spell r2 mq b2 hmq
          have e2 := and_spell mq r2 hmq b2
          have x0 := HMM.out.crowd (i := 10) (by omega)
          have x1 : wr.cell? ⟨B, 18, none⟩ = some (.int .u64 ((F[10]! : Nat) : Int)) := x0
          have f0 := HMM.out.free 18
          have HV : Hid (r2 ||| mq = E[10]!) := Lib.hid (by rw [HEE.out, HMQ.out, R2.out]; exact (enter_get hLC.out jb.ms s (k := 1) (q := 2) (by omega) (by omega)).symm)
          clear x0
          go_wp2
          go_roundg (8 - (2 + 1))
          case measure => omega
          case rel => exact ⟨2 + 1, F.set 10 (r2 ||| mq), mq &&& r2, rfl, rfl, by omega, by omega, Nat.lt_of_le_of_lt Nat.and_le_left hmq, Lib.hid (by
              show mq &&& r2 = moreN _ _ 2 &&& (rowN C 1)[2]!
              rw [← HMQ.out, row_get hLC.out (by omega) (by omega), R2.out]), Lib.hid (HMM.out.setCrowd (i := 10) (by omega) _), Lib.hid (fun i hi => by
              rw [set_get (by rw [HMM.out.lc]; exact hi), HF.out i hi, HV.out]
              by_cases hx : 10 = i
              · subst hx; rw [if_pos rfl, if_pos (by omega)]
              · rw [if_neg hx]
                by_cases hy : i < 8 + 2
                · rw [if_pos hy, if_pos (by omega)]
                · rw [if_neg hy, if_neg (by omega)]), Lib.hid ⟨grownBy_trans HG2.out.1 (grownBy_set _ _ _ _), by have := HG2.out.2; simpa using this⟩⟩
        · have iq : ∀ w, (Instr.index 64 (.agg #[.int .u64 (r0 : Int), .int .u64 (r1 : Int), .int .u64 (r2 : Int), .int .u64 (r3 : Int), .int .u64 (r4 : Int), .int .u64 (r5 : Int), .int .u64 (r6 : Int), .int .u64 (r7 : Int)]) (.int .i64 3)).run Tryd.prog w = .ok (.int .u64 (r3 : Int)) w := fun _ => by kernel_rfl
          rw [show ((3 : Nat) : Int) = 3 from rfl]
          have e1 := or_spell r3 mq b3 hmq
          have e2 := and_spell mq r3 hmq b3
          have x0 := HMM.out.crowd (i := 11) (by omega)
          have x1 : wr.cell? ⟨B, 19, none⟩ = some (.int .u64 ((F[11]! : Nat) : Int)) := x0
          have f0 := HMM.out.free 19
          have HV : Hid (r3 ||| mq = E[11]!) := Lib.hid (by rw [HEE.out, HMQ.out, R3.out]; exact (enter_get hLC.out jb.ms s (k := 1) (q := 3) (by omega) (by omega)).symm)
          clear x0
          go_wp2
          go_roundg (8 - (3 + 1))
          case measure => omega
          case rel => exact ⟨3 + 1, F.set 11 (r3 ||| mq), mq &&& r3, rfl, rfl, by omega, by omega, Nat.lt_of_le_of_lt Nat.and_le_left hmq, Lib.hid (by
              show mq &&& r3 = moreN _ _ 3 &&& (rowN C 1)[3]!
              rw [← HMQ.out, row_get hLC.out (by omega) (by omega), R3.out]), Lib.hid (HMM.out.setCrowd (i := 11) (by omega) _), Lib.hid (fun i hi => by
              rw [set_get (by rw [HMM.out.lc]; exact hi), HF.out i hi, HV.out]
              by_cases hx : 11 = i
              · subst hx; rw [if_pos rfl, if_pos (by omega)]
              · rw [if_neg hx]
                by_cases hy : i < 8 + 3
                · rw [if_pos hy, if_pos (by omega)]
                · rw [if_neg hy, if_neg (by omega)]), Lib.hid ⟨grownBy_trans HG2.out.1 (grownBy_set _ _ _ _), by have := HG2.out.2; simpa using this⟩⟩
        · have iq : ∀ w, (Instr.index 64 (.agg #[.int .u64 (r0 : Int), .int .u64 (r1 : Int), .int .u64 (r2 : Int), .int .u64 (r3 : Int), .int .u64 (r4 : Int), .int .u64 (r5 : Int), .int .u64 (r6 : Int), .int .u64 (r7 : Int)]) (.int .i64 4)).run Tryd.prog w = .ok (.int .u64 (r4 : Int)) w := fun _ => by kernel_rfl
          rw [show ((4 : Nat) : Int) = 4 from rfl]
          have e1 := or_spell r4 mq b4 hmq
          have e2 := and_spell mq r4 hmq b4
          have x0 := HMM.out.crowd (i := 12) (by omega)
          have x1 : wr.cell? ⟨B, 20, none⟩ = some (.int .u64 ((F[12]! : Nat) : Int)) := x0
          have f0 := HMM.out.free 20
          have HV : Hid (r4 ||| mq = E[12]!) := Lib.hid (by rw [HEE.out, HMQ.out, R4.out]; exact (enter_get hLC.out jb.ms s (k := 1) (q := 4) (by omega) (by omega)).symm)
          clear x0
          go_wp2
          go_roundg (8 - (4 + 1))
          case measure => omega
          case rel => exact ⟨4 + 1, F.set 12 (r4 ||| mq), mq &&& r4, rfl, rfl, by omega, by omega, Nat.lt_of_le_of_lt Nat.and_le_left hmq, Lib.hid (by
              show mq &&& r4 = moreN _ _ 4 &&& (rowN C 1)[4]!
              rw [← HMQ.out, row_get hLC.out (by omega) (by omega), R4.out]), Lib.hid (HMM.out.setCrowd (i := 12) (by omega) _), Lib.hid (fun i hi => by
              rw [set_get (by rw [HMM.out.lc]; exact hi), HF.out i hi, HV.out]
              by_cases hx : 12 = i
              · subst hx; rw [if_pos rfl, if_pos (by omega)]
              · rw [if_neg hx]
                by_cases hy : i < 8 + 4
                · rw [if_pos hy, if_pos (by omega)]
                · rw [if_neg hy, if_neg (by omega)]), Lib.hid ⟨grownBy_trans HG2.out.1 (grownBy_set _ _ _ _), by have := HG2.out.2; simpa using this⟩⟩
        · have iq : ∀ w, (Instr.index 64 (.agg #[.int .u64 (r0 : Int), .int .u64 (r1 : Int), .int .u64 (r2 : Int), .int .u64 (r3 : Int), .int .u64 (r4 : Int), .int .u64 (r5 : Int), .int .u64 (r6 : Int), .int .u64 (r7 : Int)]) (.int .i64 5)).run Tryd.prog w = .ok (.int .u64 (r5 : Int)) w := fun _ => by kernel_rfl
          rw [show ((5 : Nat) : Int) = 5 from rfl]
          have e1 := or_spell r5 mq b5 hmq
          have e2 := and_spell mq r5 hmq b5
          have x0 := HMM.out.crowd (i := 13) (by omega)
          have x1 : wr.cell? ⟨B, 21, none⟩ = some (.int .u64 ((F[13]! : Nat) : Int)) := x0
          have f0 := HMM.out.free 21
          have HV : Hid (r5 ||| mq = E[13]!) := Lib.hid (by rw [HEE.out, HMQ.out, R5.out]; exact (enter_get hLC.out jb.ms s (k := 1) (q := 5) (by omega) (by omega)).symm)
          clear x0
          go_wp2
          go_roundg (8 - (5 + 1))
          case measure => omega
          case rel => exact ⟨5 + 1, F.set 13 (r5 ||| mq), mq &&& r5, rfl, rfl, by omega, by omega, Nat.lt_of_le_of_lt Nat.and_le_left hmq, Lib.hid (by
              show mq &&& r5 = moreN _ _ 5 &&& (rowN C 1)[5]!
              rw [← HMQ.out, row_get hLC.out (by omega) (by omega), R5.out]), Lib.hid (HMM.out.setCrowd (i := 13) (by omega) _), Lib.hid (fun i hi => by
              rw [set_get (by rw [HMM.out.lc]; exact hi), HF.out i hi, HV.out]
              by_cases hx : 13 = i
              · subst hx; rw [if_pos rfl, if_pos (by omega)]
              · rw [if_neg hx]
                by_cases hy : i < 8 + 5
                · rw [if_pos hy, if_pos (by omega)]
                · rw [if_neg hy, if_neg (by omega)]), Lib.hid ⟨grownBy_trans HG2.out.1 (grownBy_set _ _ _ _), by have := HG2.out.2; simpa using this⟩⟩
        · have iq : ∀ w, (Instr.index 64 (.agg #[.int .u64 (r0 : Int), .int .u64 (r1 : Int), .int .u64 (r2 : Int), .int .u64 (r3 : Int), .int .u64 (r4 : Int), .int .u64 (r5 : Int), .int .u64 (r6 : Int), .int .u64 (r7 : Int)]) (.int .i64 6)).run Tryd.prog w = .ok (.int .u64 (r6 : Int)) w := fun _ => by kernel_rfl
          rw [show ((6 : Nat) : Int) = 6 from rfl]
          have e1 := or_spell r6 mq b6 hmq
          have e2 := and_spell mq r6 hmq b6
          have x0 := HMM.out.crowd (i := 14) (by omega)
          have x1 : wr.cell? ⟨B, 22, none⟩ = some (.int .u64 ((F[14]! : Nat) : Int)) := x0
          have f0 := HMM.out.free 22
          have HV : Hid (r6 ||| mq = E[14]!) := Lib.hid (by rw [HEE.out, HMQ.out, R6.out]; exact (enter_get hLC.out jb.ms s (k := 1) (q := 6) (by omega) (by omega)).symm)
          clear x0
          go_wp2
          go_roundg (8 - (6 + 1))
          case measure => omega
          case rel => exact ⟨6 + 1, F.set 14 (r6 ||| mq), mq &&& r6, rfl, rfl, by omega, by omega, Nat.lt_of_le_of_lt Nat.and_le_left hmq, Lib.hid (by
              show mq &&& r6 = moreN _ _ 6 &&& (rowN C 1)[6]!
              rw [← HMQ.out, row_get hLC.out (by omega) (by omega), R6.out]), Lib.hid (HMM.out.setCrowd (i := 14) (by omega) _), Lib.hid (fun i hi => by
              rw [set_get (by rw [HMM.out.lc]; exact hi), HF.out i hi, HV.out]
              by_cases hx : 14 = i
              · subst hx; rw [if_pos rfl, if_pos (by omega)]
              · rw [if_neg hx]
                by_cases hy : i < 8 + 6
                · rw [if_pos hy, if_pos (by omega)]
                · rw [if_neg hy, if_neg (by omega)]), Lib.hid ⟨grownBy_trans HG2.out.1 (grownBy_set _ _ _ _), by have := HG2.out.2; simpa using this⟩⟩
        · have iq : ∀ w, (Instr.index 64 (.agg #[.int .u64 (r0 : Int), .int .u64 (r1 : Int), .int .u64 (r2 : Int), .int .u64 (r3 : Int), .int .u64 (r4 : Int), .int .u64 (r5 : Int), .int .u64 (r6 : Int), .int .u64 (r7 : Int)]) (.int .i64 7)).run Tryd.prog w = .ok (.int .u64 (r7 : Int)) w := fun _ => by kernel_rfl
          rw [show ((7 : Nat) : Int) = 7 from rfl]
          have e1 := or_spell r7 mq b7 hmq
          have e2 := and_spell mq r7 hmq b7
          have x0 := HMM.out.crowd (i := 15) (by omega)
          have x1 : wr.cell? ⟨B, 23, none⟩ = some (.int .u64 ((F[15]! : Nat) : Int)) := x0
          have f0 := HMM.out.free 23
          have HV : Hid (r7 ||| mq = E[15]!) := Lib.hid (by rw [HEE.out, HMQ.out, R7.out]; exact (enter_get hLC.out jb.ms s (k := 1) (q := 7) (by omega) (by omega)).symm)
          clear x0
          go_wp2
          go_roundg (8 - (7 + 1))
          case measure => omega
          case rel => exact ⟨7 + 1, F.set 15 (r7 ||| mq), mq &&& r7, rfl, rfl, by omega, by omega, Nat.lt_of_le_of_lt Nat.and_le_left hmq, Lib.hid (by
              show mq &&& r7 = moreN _ _ 7 &&& (rowN C 1)[7]!
              rw [← HMQ.out, row_get hLC.out (by omega) (by omega), R7.out]), Lib.hid (HMM.out.setCrowd (i := 15) (by omega) _), Lib.hid (fun i hi => by
              rw [set_get (by rw [HMM.out.lc]; exact hi), HF.out i hi, HV.out]
              by_cases hx : 15 = i
              · subst hx; rw [if_pos rfl, if_pos (by omega)]
              · rw [if_neg hx]
                by_cases hy : i < 8 + 7
                · rw [if_pos hy, if_pos (by omega)]
                · rw [if_neg hy, if_neg (by omega)]), Lib.hid ⟨grownBy_trans HG2.out.1 (grownBy_set _ _ _ _), by have := HG2.out.2; simpa using this⟩⟩
        · rw [show ((8 : Nat) : Int) = 8 from rfl]
          go_wp2
          go_roundg (3 - (1 + 1))
          case measure => omega
          case rel => exact ⟨1 + 1, F, rfl, by omega, by omega, HMM, Lib.hid (fun i hi => by have := HF.out i hi; simpa using this), HG2⟩
    · have sh := shl_spell n2 s
      have ix : ∀ w, (Instr.index 68 (.agg #[.int .u64 (n0 : Int), .int .u64 (n1 : Int), .int .u64 (n2 : Int)]) (.int .i64 2)).run Tryd.prog w = .ok (.int .u64 (n2 : Int)) w := fun _ => by kernel_rfl
      rw [show ((2 : Nat) : Int) = 2 from rfl]
      have c0 : wr.cell? ⟨B, 24, none⟩ = some (.int .u64 ((D[16]! : Nat) : Int)) := HM.out.crowd (i := 16) (by omega)
      have d0 : D[16]! = C[16]! := by rw [HD.out 16 (by omega), if_neg (by omega)]
      rw [d0] at c0
      have b0 := HCL.out 16 (by omega)
      obtain ⟨r0, hr0⟩ : ∃ r, r = C[16]! := ⟨_, rfl⟩
      rw [← hr0] at c0 b0
      have R0 := Lib.hid hr0
      have c1 : wr.cell? ⟨B, 25, none⟩ = some (.int .u64 ((D[17]! : Nat) : Int)) := HM.out.crowd (i := 17) (by omega)
      have d1 : D[17]! = C[17]! := by rw [HD.out 17 (by omega), if_neg (by omega)]
      rw [d1] at c1
      have b1 := HCL.out 17 (by omega)
      obtain ⟨r1, hr1⟩ : ∃ r, r = C[17]! := ⟨_, rfl⟩
      rw [← hr1] at c1 b1
      have R1 := Lib.hid hr1
      have c2 : wr.cell? ⟨B, 26, none⟩ = some (.int .u64 ((D[18]! : Nat) : Int)) := HM.out.crowd (i := 18) (by omega)
      have d2 : D[18]! = C[18]! := by rw [HD.out 18 (by omega), if_neg (by omega)]
      rw [d2] at c2
      have b2 := HCL.out 18 (by omega)
      obtain ⟨r2, hr2⟩ : ∃ r, r = C[18]! := ⟨_, rfl⟩
      rw [← hr2] at c2 b2
      have R2 := Lib.hid hr2
      have c3 : wr.cell? ⟨B, 27, none⟩ = some (.int .u64 ((D[19]! : Nat) : Int)) := HM.out.crowd (i := 19) (by omega)
      have d3 : D[19]! = C[19]! := by rw [HD.out 19 (by omega), if_neg (by omega)]
      rw [d3] at c3
      have b3 := HCL.out 19 (by omega)
      obtain ⟨r3, hr3⟩ : ∃ r, r = C[19]! := ⟨_, rfl⟩
      rw [← hr3] at c3 b3
      have R3 := Lib.hid hr3
      have c4 : wr.cell? ⟨B, 28, none⟩ = some (.int .u64 ((D[20]! : Nat) : Int)) := HM.out.crowd (i := 20) (by omega)
      have d4 : D[20]! = C[20]! := by rw [HD.out 20 (by omega), if_neg (by omega)]
      rw [d4] at c4
      have b4 := HCL.out 20 (by omega)
      obtain ⟨r4, hr4⟩ : ∃ r, r = C[20]! := ⟨_, rfl⟩
      rw [← hr4] at c4 b4
      have R4 := Lib.hid hr4
      have c5 : wr.cell? ⟨B, 29, none⟩ = some (.int .u64 ((D[21]! : Nat) : Int)) := HM.out.crowd (i := 21) (by omega)
      have d5 : D[21]! = C[21]! := by rw [HD.out 21 (by omega), if_neg (by omega)]
      rw [d5] at c5
      have b5 := HCL.out 21 (by omega)
      obtain ⟨r5, hr5⟩ : ∃ r, r = C[21]! := ⟨_, rfl⟩
      rw [← hr5] at c5 b5
      have R5 := Lib.hid hr5
      have c6 : wr.cell? ⟨B, 30, none⟩ = some (.int .u64 ((D[22]! : Nat) : Int)) := HM.out.crowd (i := 22) (by omega)
      have d6 : D[22]! = C[22]! := by rw [HD.out 22 (by omega), if_neg (by omega)]
      rw [d6] at c6
      have b6 := HCL.out 22 (by omega)
      obtain ⟨r6, hr6⟩ : ∃ r, r = C[22]! := ⟨_, rfl⟩
      rw [← hr6] at c6 b6
      have R6 := Lib.hid hr6
      have c7 : wr.cell? ⟨B, 31, none⟩ = some (.int .u64 ((D[23]! : Nat) : Int)) := HM.out.crowd (i := 23) (by omega)
      have d7 : D[23]! = C[23]! := by rw [HD.out 23 (by omega), if_neg (by omega)]
      rw [d7] at c7
      have b7 := HCL.out 23 (by omega)
      obtain ⟨r7, hr7⟩ : ∃ r, r = C[23]! := ⟨_, rfl⟩
      rw [← hr7] at c7 b7
      have R7 := Lib.hid hr7
      clear d0 hr0 d1 hr1 d2 hr2 d3 hr3 d4 hr4 d5 hr5 d6 hr6 d7 hr7
      go_wp2
      clear c0 c1 c2 c3 c4 c5 c6 c7 sh
      go_loopg [8, 32] 8 (fun gg s8 s32 wq => ∃ (q : Nat) (F : List Nat) (mq : Nat), s32 = .int .i64 (q : Int) ∧ s8 = .int .u64 ((mq : Nat) : Int) ∧ q ≤ 8 ∧ 8 - q ≤ gg ∧ mq < 2 ^ 64 ∧ Hid (mq = moreN (shlN (jb.ms 2) s) (rowN C 2) q) ∧ Hid (SrM wq B (.slice va vl vc) (.slice (some ⟨gj, 0, none⟩) jl jc) o st F) ∧ Hid (∀ i, i < 24 → F[i]! = if i < 16 + q then E[i]! else C[i]!) ∧ Hid (W.grownBy wq (some B) ∧ wq.heap.size = W.heap.size))
      case atStart => exact ⟨0, D, shlN n2 s, rfl, rfl, by omega, by omega, shl_lt _ _, Lib.hid (by rw [N2.out]; rfl), HM, Lib.hid (fun i hi => by have := HD.out i hi; simpa using this), HG⟩
      case round =>
        obtain ⟨q, F, mq, rfl, rfl, hq, hgg2, hmq, HMQ, HMM, HF, HG2⟩ := hrel
        have hq9 : q = 0 ∨ q = 1 ∨ q = 2 ∨ q = 3 ∨ q = 4 ∨ q = 5 ∨ q = 6 ∨ q = 7 ∨ q = 8 := by omega
        rcases hq9 with rfl | rfl | rfl | rfl | rfl | rfl | rfl | rfl | rfl
        · have iq : ∀ w, (Instr.index 64 (.agg #[.int .u64 (r0 : Int), .int .u64 (r1 : Int), .int .u64 (r2 : Int), .int .u64 (r3 : Int), .int .u64 (r4 : Int), .int .u64 (r5 : Int), .int .u64 (r6 : Int), .int .u64 (r7 : Int)]) (.int .i64 0)).run Tryd.prog w = .ok (.int .u64 (r0 : Int)) w := fun _ => by kernel_rfl
          rw [show ((0 : Nat) : Int) = 0 from rfl]
          have e1 := or_spell r0 mq b0 hmq
          have e2 := and_spell mq r0 hmq b0
          have x0 := HMM.out.crowd (i := 16) (by omega)
          have x1 : wr.cell? ⟨B, 24, none⟩ = some (.int .u64 ((F[16]! : Nat) : Int)) := x0
          have f0 := HMM.out.free 24
          have HV : Hid (r0 ||| mq = E[16]!) := Lib.hid (by rw [HEE.out, HMQ.out, R0.out]; exact (enter_get hLC.out jb.ms s (k := 2) (q := 0) (by omega) (by omega)).symm)
          clear x0
          go_wp2
          go_roundg (8 - (0 + 1))
          case measure => omega
          case rel => exact ⟨0 + 1, F.set 16 (r0 ||| mq), mq &&& r0, rfl, rfl, by omega, by omega, Nat.lt_of_le_of_lt Nat.and_le_left hmq, Lib.hid (by
              show mq &&& r0 = moreN _ _ 0 &&& (rowN C 2)[0]!
              rw [← HMQ.out, row_get hLC.out (by omega) (by omega), R0.out]), Lib.hid (HMM.out.setCrowd (i := 16) (by omega) _), Lib.hid (fun i hi => by
              rw [set_get (by rw [HMM.out.lc]; exact hi), HF.out i hi, HV.out]
              by_cases hx : 16 = i
              · subst hx; rw [if_pos rfl, if_pos (by omega)]
              · rw [if_neg hx]
                by_cases hy : i < 16 + 0
                · rw [if_pos hy, if_pos (by omega)]
                · rw [if_neg hy, if_neg (by omega)]), Lib.hid ⟨grownBy_trans HG2.out.1 (grownBy_set _ _ _ _), by have := HG2.out.2; simpa using this⟩⟩
        · have iq : ∀ w, (Instr.index 64 (.agg #[.int .u64 (r0 : Int), .int .u64 (r1 : Int), .int .u64 (r2 : Int), .int .u64 (r3 : Int), .int .u64 (r4 : Int), .int .u64 (r5 : Int), .int .u64 (r6 : Int), .int .u64 (r7 : Int)]) (.int .i64 1)).run Tryd.prog w = .ok (.int .u64 (r1 : Int)) w := fun _ => by kernel_rfl
          rw [show ((1 : Nat) : Int) = 1 from rfl]
          have e1 := or_spell r1 mq b1 hmq
          have e2 := and_spell mq r1 hmq b1
          have x0 := HMM.out.crowd (i := 17) (by omega)
          have x1 : wr.cell? ⟨B, 25, none⟩ = some (.int .u64 ((F[17]! : Nat) : Int)) := x0
          have f0 := HMM.out.free 25
          have HV : Hid (r1 ||| mq = E[17]!) := Lib.hid (by rw [HEE.out, HMQ.out, R1.out]; exact (enter_get hLC.out jb.ms s (k := 2) (q := 1) (by omega) (by omega)).symm)
          clear x0
          go_wp2
          go_roundg (8 - (1 + 1))
          case measure => omega
          case rel => exact ⟨1 + 1, F.set 17 (r1 ||| mq), mq &&& r1, rfl, rfl, by omega, by omega, Nat.lt_of_le_of_lt Nat.and_le_left hmq, Lib.hid (by
              show mq &&& r1 = moreN _ _ 1 &&& (rowN C 2)[1]!
              rw [← HMQ.out, row_get hLC.out (by omega) (by omega), R1.out]), Lib.hid (HMM.out.setCrowd (i := 17) (by omega) _), Lib.hid (fun i hi => by
              rw [set_get (by rw [HMM.out.lc]; exact hi), HF.out i hi, HV.out]
              by_cases hx : 17 = i
              · subst hx; rw [if_pos rfl, if_pos (by omega)]
              · rw [if_neg hx]
                by_cases hy : i < 16 + 1
                · rw [if_pos hy, if_pos (by omega)]
                · rw [if_neg hy, if_neg (by omega)]), Lib.hid ⟨grownBy_trans HG2.out.1 (grownBy_set _ _ _ _), by have := HG2.out.2; simpa using this⟩⟩
        · have iq : ∀ w, (Instr.index 64 (.agg #[.int .u64 (r0 : Int), .int .u64 (r1 : Int), .int .u64 (r2 : Int), .int .u64 (r3 : Int), .int .u64 (r4 : Int), .int .u64 (r5 : Int), .int .u64 (r6 : Int), .int .u64 (r7 : Int)]) (.int .i64 2)).run Tryd.prog w = .ok (.int .u64 (r2 : Int)) w := fun _ => by kernel_rfl
          rw [show ((2 : Nat) : Int) = 2 from rfl]
          have e1 := or_spell r2 mq b2 hmq
          have e2 := and_spell mq r2 hmq b2
          have x0 := HMM.out.crowd (i := 18) (by omega)
          have x1 : wr.cell? ⟨B, 26, none⟩ = some (.int .u64 ((F[18]! : Nat) : Int)) := x0
          have f0 := HMM.out.free 26
          have HV : Hid (r2 ||| mq = E[18]!) := Lib.hid (by rw [HEE.out, HMQ.out, R2.out]; exact (enter_get hLC.out jb.ms s (k := 2) (q := 2) (by omega) (by omega)).symm)
          clear x0
          go_wp2
          go_roundg (8 - (2 + 1))
          case measure => omega
          case rel => exact ⟨2 + 1, F.set 18 (r2 ||| mq), mq &&& r2, rfl, rfl, by omega, by omega, Nat.lt_of_le_of_lt Nat.and_le_left hmq, Lib.hid (by
              show mq &&& r2 = moreN _ _ 2 &&& (rowN C 2)[2]!
              rw [← HMQ.out, row_get hLC.out (by omega) (by omega), R2.out]), Lib.hid (HMM.out.setCrowd (i := 18) (by omega) _), Lib.hid (fun i hi => by
              rw [set_get (by rw [HMM.out.lc]; exact hi), HF.out i hi, HV.out]
              by_cases hx : 18 = i
              · subst hx; rw [if_pos rfl, if_pos (by omega)]
              · rw [if_neg hx]
                by_cases hy : i < 16 + 2
                · rw [if_pos hy, if_pos (by omega)]
                · rw [if_neg hy, if_neg (by omega)]), Lib.hid ⟨grownBy_trans HG2.out.1 (grownBy_set _ _ _ _), by have := HG2.out.2; simpa using this⟩⟩
        · have iq : ∀ w, (Instr.index 64 (.agg #[.int .u64 (r0 : Int), .int .u64 (r1 : Int), .int .u64 (r2 : Int), .int .u64 (r3 : Int), .int .u64 (r4 : Int), .int .u64 (r5 : Int), .int .u64 (r6 : Int), .int .u64 (r7 : Int)]) (.int .i64 3)).run Tryd.prog w = .ok (.int .u64 (r3 : Int)) w := fun _ => by kernel_rfl
          rw [show ((3 : Nat) : Int) = 3 from rfl]
          have e1 := or_spell r3 mq b3 hmq
          have e2 := and_spell mq r3 hmq b3
          have x0 := HMM.out.crowd (i := 19) (by omega)
          have x1 : wr.cell? ⟨B, 27, none⟩ = some (.int .u64 ((F[19]! : Nat) : Int)) := x0
          have f0 := HMM.out.free 27
          have HV : Hid (r3 ||| mq = E[19]!) := Lib.hid (by rw [HEE.out, HMQ.out, R3.out]; exact (enter_get hLC.out jb.ms s (k := 2) (q := 3) (by omega) (by omega)).symm)
          clear x0
          go_wp2
          go_roundg (8 - (3 + 1))
          case measure => omega
          case rel => exact ⟨3 + 1, F.set 19 (r3 ||| mq), mq &&& r3, rfl, rfl, by omega, by omega, Nat.lt_of_le_of_lt Nat.and_le_left hmq, Lib.hid (by
              show mq &&& r3 = moreN _ _ 3 &&& (rowN C 2)[3]!
              rw [← HMQ.out, row_get hLC.out (by omega) (by omega), R3.out]), Lib.hid (HMM.out.setCrowd (i := 19) (by omega) _), Lib.hid (fun i hi => by
              rw [set_get (by rw [HMM.out.lc]; exact hi), HF.out i hi, HV.out]
              by_cases hx : 19 = i
              · subst hx; rw [if_pos rfl, if_pos (by omega)]
              · rw [if_neg hx]
                by_cases hy : i < 16 + 3
                · rw [if_pos hy, if_pos (by omega)]
                · rw [if_neg hy, if_neg (by omega)]), Lib.hid ⟨grownBy_trans HG2.out.1 (grownBy_set _ _ _ _), by have := HG2.out.2; simpa using this⟩⟩
        · have iq : ∀ w, (Instr.index 64 (.agg #[.int .u64 (r0 : Int), .int .u64 (r1 : Int), .int .u64 (r2 : Int), .int .u64 (r3 : Int), .int .u64 (r4 : Int), .int .u64 (r5 : Int), .int .u64 (r6 : Int), .int .u64 (r7 : Int)]) (.int .i64 4)).run Tryd.prog w = .ok (.int .u64 (r4 : Int)) w := fun _ => by kernel_rfl
          rw [show ((4 : Nat) : Int) = 4 from rfl]
          have e1 := or_spell r4 mq b4 hmq
          have e2 := and_spell mq r4 hmq b4
          have x0 := HMM.out.crowd (i := 20) (by omega)
          have x1 : wr.cell? ⟨B, 28, none⟩ = some (.int .u64 ((F[20]! : Nat) : Int)) := x0
          have f0 := HMM.out.free 28
          have HV : Hid (r4 ||| mq = E[20]!) := Lib.hid (by rw [HEE.out, HMQ.out, R4.out]; exact (enter_get hLC.out jb.ms s (k := 2) (q := 4) (by omega) (by omega)).symm)
          clear x0
          go_wp2
          go_roundg (8 - (4 + 1))
          case measure => omega
          case rel => exact ⟨4 + 1, F.set 20 (r4 ||| mq), mq &&& r4, rfl, rfl, by omega, by omega, Nat.lt_of_le_of_lt Nat.and_le_left hmq, Lib.hid (by
              show mq &&& r4 = moreN _ _ 4 &&& (rowN C 2)[4]!
              rw [← HMQ.out, row_get hLC.out (by omega) (by omega), R4.out]), Lib.hid (HMM.out.setCrowd (i := 20) (by omega) _), Lib.hid (fun i hi => by
              rw [set_get (by rw [HMM.out.lc]; exact hi), HF.out i hi, HV.out]
              by_cases hx : 20 = i
              · subst hx; rw [if_pos rfl, if_pos (by omega)]
              · rw [if_neg hx]
                by_cases hy : i < 16 + 4
                · rw [if_pos hy, if_pos (by omega)]
                · rw [if_neg hy, if_neg (by omega)]), Lib.hid ⟨grownBy_trans HG2.out.1 (grownBy_set _ _ _ _), by have := HG2.out.2; simpa using this⟩⟩
        · have iq : ∀ w, (Instr.index 64 (.agg #[.int .u64 (r0 : Int), .int .u64 (r1 : Int), .int .u64 (r2 : Int), .int .u64 (r3 : Int), .int .u64 (r4 : Int), .int .u64 (r5 : Int), .int .u64 (r6 : Int), .int .u64 (r7 : Int)]) (.int .i64 5)).run Tryd.prog w = .ok (.int .u64 (r5 : Int)) w := fun _ => by kernel_rfl
          rw [show ((5 : Nat) : Int) = 5 from rfl]
          have e1 := or_spell r5 mq b5 hmq
          have e2 := and_spell mq r5 hmq b5
          have x0 := HMM.out.crowd (i := 21) (by omega)
          have x1 : wr.cell? ⟨B, 29, none⟩ = some (.int .u64 ((F[21]! : Nat) : Int)) := x0
          have f0 := HMM.out.free 29
          have HV : Hid (r5 ||| mq = E[21]!) := Lib.hid (by rw [HEE.out, HMQ.out, R5.out]; exact (enter_get hLC.out jb.ms s (k := 2) (q := 5) (by omega) (by omega)).symm)
          clear x0
          go_wp2
          go_roundg (8 - (5 + 1))
          case measure => omega
          case rel => exact ⟨5 + 1, F.set 21 (r5 ||| mq), mq &&& r5, rfl, rfl, by omega, by omega, Nat.lt_of_le_of_lt Nat.and_le_left hmq, Lib.hid (by
              show mq &&& r5 = moreN _ _ 5 &&& (rowN C 2)[5]!
              rw [← HMQ.out, row_get hLC.out (by omega) (by omega), R5.out]), Lib.hid (HMM.out.setCrowd (i := 21) (by omega) _), Lib.hid (fun i hi => by
              rw [set_get (by rw [HMM.out.lc]; exact hi), HF.out i hi, HV.out]
              by_cases hx : 21 = i
              · subst hx; rw [if_pos rfl, if_pos (by omega)]
              · rw [if_neg hx]
                by_cases hy : i < 16 + 5
                · rw [if_pos hy, if_pos (by omega)]
                · rw [if_neg hy, if_neg (by omega)]), Lib.hid ⟨grownBy_trans HG2.out.1 (grownBy_set _ _ _ _), by have := HG2.out.2; simpa using this⟩⟩
        · have iq : ∀ w, (Instr.index 64 (.agg #[.int .u64 (r0 : Int), .int .u64 (r1 : Int), .int .u64 (r2 : Int), .int .u64 (r3 : Int), .int .u64 (r4 : Int), .int .u64 (r5 : Int), .int .u64 (r6 : Int), .int .u64 (r7 : Int)]) (.int .i64 6)).run Tryd.prog w = .ok (.int .u64 (r6 : Int)) w := fun _ => by kernel_rfl
          rw [show ((6 : Nat) : Int) = 6 from rfl]
          have e1 := or_spell r6 mq b6 hmq
          have e2 := and_spell mq r6 hmq b6
          have x0 := HMM.out.crowd (i := 22) (by omega)
          have x1 : wr.cell? ⟨B, 30, none⟩ = some (.int .u64 ((F[22]! : Nat) : Int)) := x0
          have f0 := HMM.out.free 30
          have HV : Hid (r6 ||| mq = E[22]!) := Lib.hid (by rw [HEE.out, HMQ.out, R6.out]; exact (enter_get hLC.out jb.ms s (k := 2) (q := 6) (by omega) (by omega)).symm)
          clear x0
          go_wp2
          go_roundg (8 - (6 + 1))
          case measure => omega
          case rel => exact ⟨6 + 1, F.set 22 (r6 ||| mq), mq &&& r6, rfl, rfl, by omega, by omega, Nat.lt_of_le_of_lt Nat.and_le_left hmq, Lib.hid (by
              show mq &&& r6 = moreN _ _ 6 &&& (rowN C 2)[6]!
              rw [← HMQ.out, row_get hLC.out (by omega) (by omega), R6.out]), Lib.hid (HMM.out.setCrowd (i := 22) (by omega) _), Lib.hid (fun i hi => by
              rw [set_get (by rw [HMM.out.lc]; exact hi), HF.out i hi, HV.out]
              by_cases hx : 22 = i
              · subst hx; rw [if_pos rfl, if_pos (by omega)]
              · rw [if_neg hx]
                by_cases hy : i < 16 + 6
                · rw [if_pos hy, if_pos (by omega)]
                · rw [if_neg hy, if_neg (by omega)]), Lib.hid ⟨grownBy_trans HG2.out.1 (grownBy_set _ _ _ _), by have := HG2.out.2; simpa using this⟩⟩
        · have iq : ∀ w, (Instr.index 64 (.agg #[.int .u64 (r0 : Int), .int .u64 (r1 : Int), .int .u64 (r2 : Int), .int .u64 (r3 : Int), .int .u64 (r4 : Int), .int .u64 (r5 : Int), .int .u64 (r6 : Int), .int .u64 (r7 : Int)]) (.int .i64 7)).run Tryd.prog w = .ok (.int .u64 (r7 : Int)) w := fun _ => by kernel_rfl
          rw [show ((7 : Nat) : Int) = 7 from rfl]
          have e1 := or_spell r7 mq b7 hmq
          have e2 := and_spell mq r7 hmq b7
          have x0 := HMM.out.crowd (i := 23) (by omega)
          have x1 : wr.cell? ⟨B, 31, none⟩ = some (.int .u64 ((F[23]! : Nat) : Int)) := x0
          have f0 := HMM.out.free 31
          have HV : Hid (r7 ||| mq = E[23]!) := Lib.hid (by rw [HEE.out, HMQ.out, R7.out]; exact (enter_get hLC.out jb.ms s (k := 2) (q := 7) (by omega) (by omega)).symm)
          clear x0
          go_wp2
          go_roundg (8 - (7 + 1))
          case measure => omega
          case rel => exact ⟨7 + 1, F.set 23 (r7 ||| mq), mq &&& r7, rfl, rfl, by omega, by omega, Nat.lt_of_le_of_lt Nat.and_le_left hmq, Lib.hid (by
              show mq &&& r7 = moreN _ _ 7 &&& (rowN C 2)[7]!
              rw [← HMQ.out, row_get hLC.out (by omega) (by omega), R7.out]), Lib.hid (HMM.out.setCrowd (i := 23) (by omega) _), Lib.hid (fun i hi => by
              rw [set_get (by rw [HMM.out.lc]; exact hi), HF.out i hi, HV.out]
              by_cases hx : 23 = i
              · subst hx; rw [if_pos rfl, if_pos (by omega)]
              · rw [if_neg hx]
                by_cases hy : i < 16 + 7
                · rw [if_pos hy, if_pos (by omega)]
                · rw [if_neg hy, if_neg (by omega)]), Lib.hid ⟨grownBy_trans HG2.out.1 (grownBy_set _ _ _ _), by have := HG2.out.2; simpa using this⟩⟩
        · rw [show ((8 : Nat) : Int) = 8 from rfl]
          go_wp2
          go_roundg (3 - (2 + 1))
          case measure => omega
          case rel => exact ⟨2 + 1, F, rfl, by omega, by omega, HMM, Lib.hid (fun i hi => by have := HF.out i hi; simpa using this), HG2⟩
    · have hDE : D = E := same24 HM.out.lc (by rw [HEE.out]; exact enter_len hLC.out _ _) (fun i hi => by rw [HD.out i hi, if_pos (by omega)])
      have HDE := Lib.hid hDE
      clear hDE
      rw [show ((3 : Nat) : Int) = 3 from rfl]
      go_wp2
      go_end0
      exact ⟨rfl, HR.out.write HG.out.1 (by rw [← HDE.out]; exact HM.out) (by rw [HEE.out]; exact enter_lt hLC.out HCL.out _ _), HG.out.1, HG.out.2⟩
end Go.Proofs.YtbidadkcdchomaaDoor
