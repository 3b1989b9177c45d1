/- Part 2 of the contracts: BRun, BUntil, BAwake, BLaw, BOk, PWords, PValid, PLib, PRev. -/
import Derived.Laws.AppendOwnNone
import Derived.Carry
import Derived.Lib.SmallJoins
import Derived.ProofKit
import Derived.OpenShut
import Derived.RangeFuncNested
import Derived.RangeFuncBound
import Derived.RangeFuncCalls
import Derived.RangeFuncLeaves
import Derived.Shelf.Abstract
import Derived.Shelf.RegionOpen
import Derived.OwnWalkIn
import Derived.TacticsInMore
import Derived.LoopNIn
import Derived.LoopIn
import Derived.Sort.QuietIn
import Derived.BigRegion
import Derived.Test.YtcbbdbglbfnbpaaPart1

/- The specification's Run, Until. -/
set_option linter.unusedVariables false
set_option linter.unusedSimpArgs false
namespace Go.Proofs.Ytcbbdbglbfnbpaa
open Go.RowKit

/-- the first cell: what is lost and what flows on are together at most what it has -/
theorem first_part {x z n d l : Int} (h0 : 0 ≤ x) (hz : 0 ≤ z) (hn : 0 ≤ n) (hl : 0 ≤ l) (hd : 1 ≤ d) (h : 2 * n + l ≤ d) : (x * l).tdiv d + ((x - z) * n).tdiv d ≤ x := by
  have hw := whole_part (p := x) (n := l) (d := d) h0 hl hd (by omega)
  have hh := half_part (p := x - z) (n := n) (d := d) hn hd (by omega)
  by_cases hc : x - z ≤ 0
  · have := hh.2 hc; omega
  · have h1 : 0 ≤ x * l := Int.mul_nonneg h0 hl
    have h2 : 0 ≤ (x - z) * n := Int.mul_nonneg (by omega) hn
    rw [Int.tdiv_eq_ediv_of_nonneg h1, Int.tdiv_eq_ediv_of_nonneg h2]
    have e1 : x * l / d * d ≤ x * l := Int.ediv_mul_le _ (by omega)
    have e2 : (x - z) * n / d * d ≤ (x - z) * n := Int.ediv_mul_le _ (by omega)
    have e3 : (x - z) * n ≤ x * n := Int.mul_le_mul_of_nonneg_right (by omega) hn
    have e4 : x * (l + n) ≤ x * d := Int.mul_le_mul_of_nonneg_left (by omega) h0
    rw [Int.mul_add] at e4
    refine Int.le_of_mul_le_mul_right (a := d) ?_ (by omega)
    rw [Int.add_mul]
    omega

theorem tick_bed {n d l : Int} {xs : List Int} (hb : Bedly xs) (hg : Grainy n d l) : Bedly (tickL n d l xs) := by
  obtain ⟨b1, b2, b3⟩ := hb
  refine ⟨by rw [tickL_len]; exact b1, by rw [tickL_len]; exact b2, fun i hi => ?_⟩
  rw [tickL_len] at hi
  rw [tickL_get n d l xs i hi]
  obtain ⟨g1, g2, g3, g4, g5, g6, g7⟩ := hg
  have hx := b3 i hi
  unfold cellT
  by_cases hi0 : i = 0
  · subst hi0
    rw [if_pos rfl]
    have hw := whole_part (p := xs[0]?.getD 0) (n := l) (d := d) hx.1 g4 g1 g6
    unfold lostL
    by_cases h1 : 0 + 1 < xs.length
    · rw [if_pos h1]
      have hz := b3 (0 + 1) h1
      have h2 := first_part (x := xs[0]?.getD 0) (z := xs[0 + 1]?.getD 0) (n := n) (d := d) (l := l) hx.1 hz.1 g3 g4 g1 g7
      have hh := half_part (p := xs[0]?.getD 0 - xs[0 + 1]?.getD 0) (n := n) (d := d) g3 g1 (by omega)
      unfold flow
      omega
    · rw [if_neg h1]
      omega
  · rw [if_neg hi0]
    have hy := b3 (i - 1) (by omega)
    have h1 := half_part (p := xs[i - 1]?.getD 0 - xs[i]?.getD 0) (n := n) (d := d) g3 g1 (by omega)
    unfold flow
    by_cases h2 : i + 1 < xs.length
    · rw [if_pos h2]
      have hz := b3 (i + 1) h2
      have h3 := half_part (p := xs[i]?.getD 0 - xs[i + 1]?.getD 0) (n := n) (d := d) g3 g1 (by omega)
      omega
    · rw [if_neg h2]
      omega

/-- at most t ticks, one after the other, up to the rest: the bed, what was lost, how many -/
def runL (n d l : Int) : Nat → List Int → List Int × Int × Nat
  | 0, xs => (xs, 0, 0)
  | t + 1, xs => if tickL n d l xs = xs then (xs, 0, 0) else ((runL n d l t (tickL n d l xs)).1, lostL d l xs + (runL n d l t (tickL n d l xs)).2.1, (runL n d l t (tickL n d l xs)).2.2 + 1)

theorem lost_bound {n d l : Int} {xs : List Int} (hb : Bedly xs) (hg : Grainy n d l) : 0 ≤ lostL d l xs ∧ lostL d l xs ≤ 1048576 := by
  obtain ⟨b1, b2, b3⟩ := hb
  obtain ⟨g1, g2, g3, g4, g5, g6, g7⟩ := hg
  have hx := b3 0 (by omega)
  have hw := whole_part (p := xs[0]?.getD 0) (n := l) (d := d) hx.1 g4 g1 g6
  unfold lostL
  omega

def OutRun (W : World) (r : List Int × Int × Nat) (e : Ending) (w' : World) : Prop :=
  ∃ ao cap, e = .returned (.tuple #[.slice ao r.1.length cap, .int .i64 r.2.1, .int .i64 (r.2.2 : Int)]) ∧ r.1.length ≤ cap ∧ cap ≤ maxLen ∧ Il w' ao r.1.length r.1 ∧ Below W.heap.size W w'

def RunRel (n d l : Int) (T : Nat) (xs : List Int) (W : World) (cv lv nv : Value) (wr : World) : Prop :=
  ∃ (k : Nat) (ys : List Int) (s : Int) (ao : Option Addr) (cap : Nat), cv = .slice ao ys.length cap ∧ lv = .int .i64 s ∧ nv = .int .i64 (k : Int) ∧ k ≤ T ∧ 0 ≤ s ∧ s ≤ k * 1048576 ∧ Il wr ao ys.length ys ∧ Bedly ys ∧ Gr wr W.heap.size n d l ∧ Below W.heap.size W wr ∧
    runL n d l T xs = ((runL n d l (T - k) ys).1, s + (runL n d l (T - k) ys).2.1, k + (runL n d l (T - k) ys).2.2)

theorem own_empty (w : World) : OwnI (w.alloc (.cells #[] 3)) w.heap.size 3 (.slice (some ⟨w.heap.size, 0, none⟩) 0 0) 0 [] :=
  ⟨rfl, .inr ⟨w.heap.size, 0, #[], rfl, Nat.le_refl _, heap_alloc_new w _, Nat.le_refl _, Nat.zero_le _, rfl, rfl⟩⟩

theorem run_end {n d l s : Int} {T k : Nat} {ys xs : List Int} (h : runL n d l T xs = ((runL n d l (T - k) ys).1, s + (runL n d l (T - k) ys).2.1, k + (runL n d l (T - k) ys).2.2)) (he : T - k = 0 ∨ tickL n d l ys = ys) : runL n d l T xs = (ys, s, k) := by
  rw [h]
  have : runL n d l (T - k) ys = (ys, 0, 0) := by
    rcases he with he | he
    · rw [he]; rfl
    · cases hk : T - k with
      | zero => rfl
      | succ m => simp only [runL]; rw [if_pos he]
  rw [this]
  simp

theorem run_step {n d l s : Int} {T k : Nat} {ys xs : List Int} (h : runL n d l T xs = ((runL n d l (T - k) ys).1, s + (runL n d l (T - k) ys).2.1, k + (runL n d l (T - k) ys).2.2)) (hk : k < T) (hne : ¬ tickL n d l ys = ys) :
    runL n d l T xs = ((runL n d l (T - (k + 1)) (tickL n d l ys)).1, (s + lostL d l ys) + (runL n d l (T - (k + 1)) (tickL n d l ys)).2.1, (k + 1) + (runL n d l (T - (k + 1)) (tickL n d l ys)).2.2) := by
  rw [h, show T - k = (T - (k + 1)) + 1 by omega]
  simp only [runL]
  rw [if_neg hne]
  simp only [Prod.mk.injEq, true_and]
  omega

set_option maxHeartbeats 2000000 in
theorem run_any (n d l : Int) (ao : Option Addr) (la ca T : Nat) (K : Int) (xs : List Int) (W : World) (hs : Il W ao la xs) (hbed : Bedly xs) (hg : Grainy n d l) (hK : K = (T : Int)) (hT : T ≤ 1048576) :
    Calls Try.prog 20 #[.agg #[.int .i64 n, .int .i64 d, .int .i64 l], .slice ao la ca, .int .i64 K] W (OutRun W (runL n d l T xs)) := by
  subst hK
  have hl := hs.len
  subst hl
  have hbe : Below W.heap.size W (W.alloc (.cells #[.int .i64 n, .int .i64 d, .int .i64 l] 23)) := (Below.refl _ _).alloc (Nat.le_refl _) _
  have GB := Lib.hid hbe
  have GN := Lib.hid (Gr.new W n d l)
  have HS := Lib.hid hs
  have HB := Lib.hid hbed
  have HG := Lib.hid hg
  clear hbe hs hbed hg
  go_enter Try.func20, Try.ntmps20
  go_wp2
  go_loopw [1, 9, 10] (fun cv lv nv wr => RunRel n d l T xs W cv lv nv wr) (fun cv lv nv _ => T - (intOf nv).toNat)
  case atStart => exact ⟨0, xs, 0, ao, ca, rfl, rfl, rfl, by omega, by omega, by omega, HS.out.keep (below_then (Below.refl _ _) GB.out), HB.out, GN.out, GB.out, by simp⟩
  case round =>
    obtain ⟨k, ys, s, oo, cap, rfl, rfl, rfl, hk, hs0, hs1, hil, hbd, hgr, hbel, hrun⟩ := hrel
    have GI := Lib.hid hil
    have GD := Lib.hid hbd
    have GG := Lib.hid hgr
    have GW := Lib.hid hbel
    have GR := Lib.hid hrun
    have d0 := hgr.c0
    have d1 := hgr.c1
    have d2 := hgr.c2
    have hy1 := hbd.1
    have hy2 := hbd.2.1
    clear hil hbd hgr hbel hrun
    by_cases h1 : k < T
    · have u1 : (k : Int) < (T : Int) := by omega
      go_wp2_with fail
      refine (tick_any n d l _ _ _ ys _ GI.out GD.out HG.out).mono ?_
      rintro e w1 ⟨po, pc, rfl, hlc, hcm, hil1, hb1⟩
      have GI1 := Lib.hid hil1
      have GB1 := Lib.hid hb1
      have GY := Lib.hid (GI.out.keep hb1)
      have GL := Lib.hid (tickL_len n d l ys)
      have hlen : (tickL n d l ys).length ≤ 9223372036854775807 := by rw [GL.out]; omega
      clear hil1 hb1
      go_wp2_with fail
      refine (same_any _ _ _ _ _ _ (tickL n d l ys) ys _ GI1.out GY.out hlen (by omega)).mono ?_
      rintro e w2 ⟨⟨heq, rfl⟩ | ⟨hne, rfl⟩, hd⟩
      · have GE := Lib.hid (run_end GR.out (.inr heq))
        have GI2 := Lib.hid (GY.out.of_drew hd)
        have GB2 := Lib.hid (GW.out.trans ((GB1.out.mono GW.out.size).trans (hd.below (B := W.heap.size))))
        clear heq hd
        have hbe2 : Below w2.heap.size w2 (w2.alloc (.cells #[] 3)) := (Below.refl _ _).alloc (Nat.le_refl _) _
        have GB3 := Lib.hid hbe2
        clear hbe2
        go_wp2_with (at_builtin; refine wpList_appRow rfl _ _ 24 rfl w2.heap.size 3 8 Try.underlying24 (by kernel_rfl) _ 0 [] rfl (own_empty w2) _ ys.length _ ys rfl (GI2.out.keep GB3.out) (by omega) (by omega) (by omega) GB3.out.size ?_; intro v' w3 hown' hbel')
        rw [Nat.zero_add, List.nil_append] at hown'
        obtain ⟨qo, qc, rfl, hlq, hcq, hsl⟩ := hown'.il
        have HSL := Lib.hid hsl
        have HBL := Lib.hid (below_then GB2.out (GB3.out.trans hbel'))
        clear hsl hown' hbel'
        go_wp2
        rw [GE.out]
        exact bodyPost_ret (v := .tuple #[.slice qo ys.length qc, .int .i64 s, .int .i64 (k : Int)]) (by simp [results, Try.results20, go_sem]) rfl ⟨_, _, rfl, hlq, hcq, HSL.out, HBL.out⟩
      · have GE := Lib.hid (run_step GR.out h1 hne)
        have hlb := lost_bound GD.out HG.out
        obtain ⟨q, hq⟩ : ∃ q, q = lostL d l ys := ⟨_, rfl⟩
        rw [← hq] at hlb
        have GQ := Lib.hid hq
        have GD2 := Lib.hid (tick_bed GD.out HG.out)
        have GI2 := Lib.hid (GI1.out.of_drew hd)
        have GB2 := Lib.hid (GW.out.trans ((GB1.out.mono GW.out.size).trans (hd.below (B := W.heap.size))))
        have GG2 := Lib.hid ((GG.out.keep GB1.out).keep hd.below)
        clear hne hd
        rw [← hq]
        clear hq
        go_wp2
        go_roundw
        case rel =>
          refine ⟨k + 1, tickL n d l ys, s + q, po, pc, rfl, rfl, by go_num, by omega, by omega, by omega, GI2.out, GD2.out, GG2.out, GB2.out, ?_⟩
          rw [GQ.out]
          exact GE.out
        case measure => simp only [intOf]; omega
    · have u1 : ¬ (k : Int) < (T : Int) := by omega
      have GE := Lib.hid (run_end GR.out (.inl (by omega)))
      have hbe2 : Below wr.heap.size wr (wr.alloc (.cells #[] 3)) := (Below.refl _ _).alloc (Nat.le_refl _) _
      have GB3 := Lib.hid hbe2
      clear hbe2
      go_wp2_with (at_builtin; refine wpList_appRow rfl _ _ 24 rfl wr.heap.size 3 8 Try.underlying24 (by kernel_rfl) _ 0 [] rfl (own_empty wr) _ ys.length _ ys rfl (GI.out.keep GB3.out) (by omega) (by omega) (by omega) GB3.out.size ?_; intro v' w3 hown' hbel')
      rw [Nat.zero_add, List.nil_append] at hown'
      obtain ⟨qo, qc, rfl, hlq, hcq, hsl⟩ := hown'.il
      have HSL := Lib.hid hsl
      have HBL := Lib.hid (below_then GW.out (GB3.out.trans hbel'))
      clear hsl hown' hbel'
      go_wp2
      rw [GE.out]
      exact bodyPost_ret (v := .tuple #[.slice qo ys.length qc, .int .i64 s, .int .i64 (k : Int)]) (by simp [results, Try.results20, go_sem]) rfl ⟨_, _, rfl, hlq, hcq, HSL.out, HBL.out⟩
end Go.Proofs.Ytcbbdbglbfnbpaa

/- The specification's Until. -/
set_option linter.unusedVariables false
set_option linter.unusedSimpArgs false
namespace Go.Proofs.Ytcbbdbglbfnbpaa
open Go.RowKit

/-- the bed after k ticks -/
def afterL (n d l : Int) (xs : List Int) : Nat → List Int
  | 0 => xs
  | k + 1 => tickL n d l (afterL n d l xs k)

theorem after_bed {n d l : Int} {xs : List Int} (hb : Bedly xs) (hg : Grainy n d l) : ∀ k, Bedly (afterL n d l xs k)
  | 0 => hb
  | k + 1 => tick_bed (after_bed hb hg k) hg

/-- the least number of ticks, or none -/
def OutUntil (n d l low high : Int) (M : Nat) (xs : List Int) (W : World) (e : Ending) (w' : World) : Prop :=
  ((∃ k : Nat, k ≤ M ∧ In low high (afterL n d l xs k) ∧ (∀ j, j < k → ¬ In low high (afterL n d l xs j)) ∧ e = .returned (.tuple #[.int .i64 (k : Int), .int .i64 0])) ∨
   ((∀ j, j ≤ M → ¬ In low high (afterL n d l xs j)) ∧ e = .returned (.tuple #[.int .i64 0, .int .i64 6]))) ∧ Below W.heap.size W w'

def UntilRel (n d l low high : Int) (M : Nat) (xs : List Int) (W : World) (cv nv : Value) (wr : World) : Prop :=
  ∃ (k : Nat) (ys : List Int) (ao : Option Addr) (cap : Nat), cv = .slice ao ys.length cap ∧ nv = .int .i64 (k : Int) ∧ k ≤ M + 1 ∧ ys = afterL n d l xs k ∧ (∀ j, j < k → ¬ In low high (afterL n d l xs j)) ∧ Il wr ao ys.length ys ∧ Bedly ys ∧ Gr wr W.heap.size n d l ∧ Below W.heap.size W wr

set_option maxHeartbeats 2000000 in
theorem until_any (n d l low high : Int) (ao : Option Addr) (la ca M : Nat) (K : Int) (xs : List Int) (W : World) (hs : Il W ao la xs) (hbed : Bedly xs) (hg : Grainy n d l) (hK : K = (M : Int)) (hT : M ≤ 1048576) :
    Calls Try.prog 22 #[.agg #[.int .i64 n, .int .i64 d, .int .i64 l], .slice ao la ca, .int .i64 low, .int .i64 high, .int .i64 K] W (OutUntil n d l low high M xs W) := by
  subst hK
  have hl := hs.len
  subst hl
  have hbe : Below W.heap.size W (W.alloc (.cells #[.int .i64 n, .int .i64 d, .int .i64 l] 23)) := (Below.refl _ _).alloc (Nat.le_refl _) _
  have GB := Lib.hid hbe
  have GN := Lib.hid (Gr.new W n d l)
  have HS := Lib.hid hs
  have HB := Lib.hid hbed
  have HG := Lib.hid hg
  clear hbe hs hbed hg
  go_enter Try.func22, Try.ntmps22
  go_wp2
  go_loopw [1, 12] (fun cv nv wr => UntilRel n d l low high M xs W cv nv wr) (fun cv nv _ => M + 1 - (intOf nv).toNat)
  case atStart => exact ⟨0, xs, ao, ca, rfl, rfl, by omega, rfl, fun j hj => absurd hj (by omega), HS.out.keep (below_then (Below.refl _ _) GB.out), HB.out, GN.out, GB.out⟩
  case round =>
    obtain ⟨k, ys, oo, cap, rfl, rfl, hk, hys, hall, hil, hbd, hgr, hbel⟩ := hrel
    have GY := Lib.hid hys
    have GA := Lib.hid hall
    have GI := Lib.hid hil
    have GD := Lib.hid hbd
    have GG := Lib.hid hgr
    have GW := Lib.hid hbel
    have d0 := hgr.c0
    have d1 := hgr.c1
    have d2 := hgr.c2
    have hy2 := hbd.2.1
    clear hys hall hil hbd hgr hbel
    by_cases h1 : k ≤ M
    · have u1 : (k : Int) ≤ (M : Int) := by omega
      go_wp2_with fail
      refine (within_any _ _ _ low high ys _ GI.out (by omega)).mono ?_
      rintro e w1 ⟨⟨hin, rfl⟩ | ⟨hin, rfl⟩, rfl⟩
      · have GIN := Lib.hid hin
        clear hin
        go_wp2
        exact bodyPost_ret (v := .tuple #[.int .i64 (k : Int), .int .i64 0]) (by simp [results, Try.results22, go_sem]) rfl ⟨.inl ⟨k, h1, GY.out ▸ GIN.out, GA.out, rfl⟩, GW.out⟩
      · have GIN := Lib.hid hin
        clear hin
        go_wp2_with fail
        refine (tick_any n d l _ _ _ ys _ GI.out GD.out HG.out).mono ?_
        rintro e w2 ⟨po, pc, rfl, hlc, hcm, hil1, hb1⟩
        have GI1 := Lib.hid hil1
        have GB1 := Lib.hid hb1
        have GW1 := Lib.hid (below_then GW.out hb1)
        clear hil1 hb1
        go_wp2
        go_roundw
        case rel =>
          refine ⟨k + 1, tickL n d l ys, po, pc, rfl, by go_num, by omega, ?_, fun j hj => ?_, GI1.out, tick_bed GD.out HG.out, GG.out.keep GB1.out, GW1.out⟩
          · rw [GY.out]; rfl
          · rcases Nat.lt_succ_iff_lt_or_eq.1 hj with hj | rfl
            · exact GA.out j hj
            · exact fun h => GIN.out (GY.out ▸ h)
        case measure => simp only [intOf]; omega
    · have u1 : ¬ (k : Int) ≤ (M : Int) := by omega
      go_wp2
      exact bodyPost_ret (v := .tuple #[.int .i64 0, .int .i64 6]) (by simp [results, Try.results22, go_sem]) rfl ⟨.inr ⟨fun j hj => GA.out j (by omega), rfl⟩, GW.out⟩
end Go.Proofs.Ytcbbdbglbfnbpaa

/- What the laws need of package bed; the laws' helpers copied (of any list) and awake. -/
set_option linter.unusedVariables false
set_option linter.unusedSimpArgs false
namespace Go.Proofs.Ytcbbdbglbfnbpaa
open Go.RowKit

/-- a list, an integer and a number of an error are returned -/
def OutLIE (W : World) (zs : List Int) (z : Int) (e : Ending) (w' : World) : Prop :=
  ∃ ao cap, e = .returned (.tuple #[.slice ao zs.length cap, .int .i64 z, .int .i64 0]) ∧ zs.length ≤ cap ∧ cap ≤ maxLen ∧ Il w' ao zs.length zs ∧ Below W.heap.size W w'
def NoneLIE (W : World) (er : Int) (e : Ending) (w' : World) : Prop :=
  ∃ ao cap, e = .returned (.tuple #[.slice ao 0 cap, .int .i64 0, .int .i64 er]) ∧ cap ≤ maxLen ∧ Below W.heap.size W w'
def OutRunE (W : World) (r : List Int × Int × Nat) (e : Ending) (w' : World) : Prop :=
  ∃ ao cap, e = .returned (.tuple #[.slice ao r.1.length cap, .int .i64 r.2.1, .int .i64 (r.2.2 : Int), .int .i64 0]) ∧ r.1.length ≤ cap ∧ cap ≤ maxLen ∧ Il w' ao r.1.length r.1 ∧ Below W.heap.size W w'
def NoneRunE (W : World) (e : Ending) (w' : World) : Prop :=
  ∃ ao cap, e = .returned (.tuple #[.slice ao 0 cap, .int .i64 0, .int .i64 0, .int .i64 2]) ∧ cap ≤ maxLen ∧ Below W.heap.size W w'

/-- bed.Tick, bed.Run, bed.Steep as the document has them -/
def TickOk : Prop := ∀ (n d l : Int) (ao : Option Addr) (la ca : Nat) (xs : List Int) (W : World), Il W ao la xs → la ≤ 9223372036854775807 →
  Calls Try.prog 14 #[.agg #[.int .i64 n, .int .i64 d, .int .i64 l], .slice ao la ca] W (fun e w' => (Bedly xs ∧ Grainy n d l ∧ OutLIE W (tickL n d l xs) (lostL d l xs) e w') ∨ (¬ (Bedly xs ∧ Grainy n d l) ∧ NoneLIE W 2 e w'))
def RunOk : Prop := ∀ (n d l t : Int) (ao : Option Addr) (la ca : Nat) (xs : List Int) (W : World), Il W ao la xs → la ≤ 9223372036854775807 →
  Calls Try.prog 19 #[.agg #[.int .i64 n, .int .i64 d, .int .i64 l], .slice ao la ca, .int .i64 t] W (fun e w' => (Bedly xs ∧ Grainy n d l ∧ 0 ≤ t ∧ t ≤ 1048576 ∧ OutRunE W (runL n d l t.toNat xs) e w') ∨ (¬ (Bedly xs ∧ Grainy n d l ∧ 0 ≤ t ∧ t ≤ 1048576) ∧ NoneRunE W e w'))
def SteepOk : Prop := ∀ (full water : Int) (ao : Option Addr) (la ca : Nat) (xs : List Int) (W : World), Il W ao la xs → la ≤ 9223372036854775807 → water ≤ 9223372036854775807 →
  Calls Try.prog 23 #[.slice ao la ca, .int .i64 full, .int .i64 water] W (fun e w' => (Bedly xs ∧ 0 ≤ full ∧ full ≤ 1048576 ∧ 0 ≤ water ∧ OutLIE W (steepL full xs water).1 (steepL full xs water).2 e w') ∨ (¬ (Bedly xs ∧ 0 ≤ full ∧ full ≤ 1048576 ∧ 0 ≤ water) ∧ NoneLIE W 2 e w'))

theorem Il.new (w : World) (T : Nat) (zs : List Int) : Il (w.alloc (.cells (zs.map fun z => Value.int .i64 z).toArray T)) (some ⟨w.heap.size, 0, none⟩) zs.length zs := by
  refine ⟨rfl, w.heap.size, 0, fun _ => rfl, fun i hi => ?_⟩
  simp [List.getElem?_eq_getElem hi]

theorem bedly_of {xs : List Int} (h1 : 1 ≤ xs.length) (h2 : xs.length ≤ 64) (h3 : ∀ x ∈ xs, 0 ≤ x ∧ x ≤ 1048576) : Bedly xs :=
  ⟨h1, h2, fun i hi => by rw [List.getElem?_eq_getElem hi]; exact h3 _ (List.getElem_mem hi)⟩

theorem run_example : runL 1 4 0 (9 : Int).toNat [10, 2] = ([7, 5], 0, 2) := by decide +kernel
theorem steep_example : steepL 4 [1, 5, 2] 6 = ([4, 5, 4], 1) := by decide +kernel

set_option maxHeartbeats 2000000 in
theorem awake_any (hR : RunOk) (hS : SteepOk) (W : World) : Calls Try.prog 12 #[] W (fun e w' => e = .returned (.bool true) ∧ Below W.heap.size W w') := by
  have hb0 : Below W.heap.size W (W.alloc (.cells #[.int .i64 10, .int .i64 2] 3)) := (Below.refl _ _).alloc (Nat.le_refl _) _
  have I0 := Lib.hid (Il.new W 3 [10, 2])
  have B0 := Lib.hid hb0
  have HR := Lib.hid hR
  have HS := Lib.hid hS
  clear hb0 hR hS
  go_enter Try.func12, Try.ntmps12
  go_wp2_with fail
  refine (HR.out 1 4 0 9 _ _ _ [10, 2] _ I0.out (by decide)).mono ?_
  rw [run_example]
  rintro e w1 (⟨_, _, _, _, ao, cap, rfl, hlc, hcm, hil, hb⟩ | ⟨hno, _⟩)
  · have I1 := Lib.hid hil
    have B1 := Lib.hid (below_then B0.out hb)
    have hb0 : Below w1.heap.size w1 (w1.alloc (.cells #[.int .i64 1, .int .i64 5, .int .i64 2] 3)) := (Below.refl _ _).alloc (Nat.le_refl _) _
    have J1 := Lib.hid (Il.new w1 3 [1, 5, 2])
    have C1 := Lib.hid hb0
    clear hil hb hb0 hlc hcm
    go_wp2_with fail
    refine (HS.out 4 6 _ _ _ [1, 5, 2] _ J1.out (by decide) (by decide)).mono ?_
    rw [steep_example]
    rintro e w2 (⟨_, _, _, _, bo, bcap, rfl, hlc, hcm, hil, hb⟩ | ⟨hno, _⟩)
    · have I2 := Lib.hid ((I1.out.keep C1.out).keep hb)
      have J2 := Lib.hid hil
      have B2 := Lib.hid (below_then (below_then B1.out C1.out) hb)
      have hb0 : Below w2.heap.size w2 (w2.alloc (.cells #[.int .i64 7, .int .i64 5] 3)) := (Below.refl _ _).alloc (Nat.le_refl _) _
      have K2 := Lib.hid (Il.new w2 3 [7, 5])
      have C2 := Lib.hid hb0
      clear hil hb hb0 hlc hcm
      go_wp2_with fail
      refine (same_any _ _ _ _ _ _ [7, 5] [7, 5] _ (I2.out.keep C2.out) K2.out (by decide) (by decide)).mono ?_
      rintro e w3 ⟨⟨_, rfl⟩ | ⟨hno, _⟩, hd⟩
      · have J3 := Lib.hid ((J2.out.keep C2.out).of_drew hd)
        have B3 := Lib.hid (below_then (below_then B2.out C2.out) hd.below)
        have hb0 : Below w3.heap.size w3 (w3.alloc (.cells #[.int .i64 4, .int .i64 5, .int .i64 4] 3)) := (Below.refl _ _).alloc (Nat.le_refl _) _
        have K3 := Lib.hid (Il.new w3 3 [4, 5, 4])
        have C3 := Lib.hid hb0
        clear hd hb0
        go_wp2_with fail
        refine (same_any _ _ _ _ _ _ [4, 5, 4] [4, 5, 4] _ (J3.out.keep C3.out) K3.out (by decide) (by decide)).mono ?_
        rintro e w4 ⟨⟨_, rfl⟩ | ⟨hno, _⟩, hd⟩
        · have B4 := Lib.hid (below_then (below_then B3.out C3.out) hd.below)
          clear hd
          go_wp2
          go_ret
          exact ⟨rfl, B4.out⟩
        · exact absurd rfl hno
      · exact absurd rfl hno
    · exact absurd ⟨bedly_of (by decide) (by decide) (by decide), by decide, by decide, by decide⟩ hno
  · exact absurd ⟨bedly_of (by decide) (by decide) (by decide), by unfold Grainy; decide, by decide, by decide⟩ hno
end Go.Proofs.Ytcbbdbglbfnbpaa

/- The laws' helper copied, of any list; an argument that is a grain, a list; a law's end. -/
set_option linter.unusedVariables false
set_option linter.unusedSimpArgs false
namespace Go.Proofs.Ytcbbdbglbfnbpaa
open Go.ChangeShapes Go.WideShapes Go.RowKit Go.Joins

theorem OwnI.outL {W w : World} {v : Value} {xs : List Int} {B e : Nat} (h : OwnI w B e v xs.length xs) (hb : Below W.heap.size W w) : ∃ oo cap, v = .slice oo xs.length cap ∧ xs.length ≤ cap ∧ cap ≤ maxLen ∧ Il w oo xs.length xs ∧ Below W.heap.size W w := by
  obtain ⟨oo, cap, rfl, h1, h2, h3⟩ := h.il
  exact ⟨oo, cap, rfl, h1, h2, h3, hb⟩

/-- 'append(s, xs...)' of nothing -/
theorem wpList_appNil {P : Program} {w : World} {ops : Array Oper} {rest : List Oper} {o : Oper} {a : Act} {Q : Exit → Act → World → Prop} (hgd : o.guard = none) (s x : Operand) (t : TypeId)
    (ho : o.op = .call { callee := .builtin .append, args := #[s, x], argTypes := #[t, t] }) (base e : Nat) (bytes : Nat)
    (h1 : P.underlying t = some (.slice e)) (h2 : (P.info? e).map (fun i => (i.zero, i.size, i.bytes)) = some (some (.int .i64 0), 1, bytes))
    (v : Value) (n : Nat) (xs : List Int) (hs : a.eval s = v) (hown : OwnI w base e v n xs) (ao : Option Addr) (c : Nat) (hx : a.eval x = .slice ao 0 c) (hn0 : ao = none → c = 0)
    (hn : n ≤ 9000000000000) (hby : bytes ≤ 8) (hbase : base ≤ w.heap.size)
    (h : ∀ v' w', OwnI w' base e v' n xs → Below base w w' → wpList P ops Q rest (a.put o.dst v') w') :
    wpList P ops Q (o :: rest) a w := by
  obtain ⟨i0, hi, hz0, hz1, hz2⟩ := info_parts h2
  cases ao with
  | none =>
    obtain rfl := hn0 rfl
    exact wpList_append_own_none hgd s x t ho base e i0 1 h1 hi v n _ hs hown hx (h v w hown (Below.refl _ _))
  | some ad =>
    have hb : (n + 0) * bytes ≤ 140737488355328 := by
      have : n * bytes ≤ n * 8 := Nat.mul_le_mul_left _ hby
      rw [Nat.add_zero]
      omega
    refine wpList_append_own _ hgd s x t ho base e i0 (.int .i64 0) 1 bytes h1 hi hz0 hz1 hz2 rfl (by decide) v n _ hs hown ad 0 c [] hx rfl (by intro j u hj; simp at hj) (by intro u hu; simp at hu) (by unfold maxLen; omega) hb hbase ?_
    intro v' w' hr hg _
    refine h v' w' ?_ ((Below.refl base w).grown hg hbase hown.ge)
    rw [List.append_nil] at hr
    exact hr

set_option maxHeartbeats 1000000 in
theorem copied_all (ao : Option Addr) (la ca : Nat) (xs : List Int) (W : World) (hs : Il W ao la xs) (hla : la ≤ 1000000) (hn : ao = none → ca = 0) :
    Calls Try.prog 13 #[.slice ao la ca] W (OutL W xs) := by
  by_cases h0 : 0 < la
  · exact copied_any ao la ca xs W hs h0 hla
  · have hl := hs.len
    obtain rfl : la = 0 := by omega
    obtain rfl := List.eq_nil_of_length_eq_zero hl
    have hbe : Below W.heap.size W (W.alloc (.cells #[] 3)) := (Below.refl _ _).alloc (Nat.le_refl _) _
    have GB := Lib.hid hbe
    have HN := Lib.hid hn
    clear hbe hs hl h0 hn
    go_enter Try.func13, Try.ntmps13
    go_wp2_with (at_builtin; refine wpList_appNil rfl _ _ 24 rfl W.heap.size 3 8 Try.underlying24 (by kernel_rfl) _ 0 [] rfl (own_empty W) _ _ rfl HN.out (by omega) (by omega) GB.out.size ?_; intro v' w2 hown' hbel')
    obtain ⟨oo, cap, rfl, hlc, hcm, hsl⟩ := hown'.il
    have HSL := Lib.hid hsl
    have HBL := Lib.hid (GB.out.trans hbel')
    clear hsl hown' hbel'
    go_wp2
    go_ret
    exact ⟨_, _, rfl, hlc, hcm, HSL.out, HBL.out⟩

def InWord (z : Int) : Prop := -9223372036854775808 ≤ z ∧ z ≤ 9223372036854775807

set_option maxRecDepth 100000 in
theorem open_list {H : Type} {enc : TypeId × Value → H} {W : World} {v : Value} {d : DataW H} {p : List MemPlace} {base : Nat}
    (hv : Value.okWide Try.prog W .any base 24 v) (h : DataW.Trod enc Try.prog W 0 (fun _ => true) true 24 v d p) :
    ∃ ao la ca xs, v = .slice ao la ca ∧ Il W ao la xs ∧ la ≤ 9223372036854775807 ∧ (ao = none → ca = 0) ∧ ∀ i, i < xs.length → InWord (xs[i]?.getD 0) := by
  obtain ⟨ao, la, ca, rfl⟩ := okWide_slice Try.underlying24 hv
  obtain ⟨fuel, hf⟩ := h
  rcases open_ints Try.underlying24 Try.underlying3 (by kernel_rfl) hf with ⟨e1, _⟩ | ⟨a, len, cap, zs, e1, _, hlc, hcm, hzl, _, hcell, hwf⟩
  · simp [Value.cells] at e1
    obtain ⟨rfl, rfl, rfl⟩ := e1
    exact ⟨none, 0, 0, [], rfl, Il.nil _ _, by omega, fun _ => rfl, fun i hi => absurd hi (by simp)⟩
  · simp [Value.cells] at e1
    obtain ⟨rfl, rfl, rfl⟩ := e1
    have hzl2 : zs.length = ca := by simpa using hzl
    have hr := range_i64 hwf
    refine ⟨some a, la, ca, zs.take la, rfl, ⟨by simp; omega, ?_⟩, by unfold maxLen at hcm; omega, (fun h => by cases h), fun i hi => ?_⟩
    · by_cases h0 : 0 < zs.length
      · obtain ⟨b, off, rfl, hc⟩ := ints_at hcell h0
        refine ⟨b, off, fun _ => rfl, fun i hi => ?_⟩
        rw [hc i (by omega), List.getElem?_take_of_lt hi]; rfl
      · exact ⟨0, 0, fun h => by omega, fun i hi => by omega⟩
    · have hi2 : i < la := by rw [List.length_take] at hi; omega
      rw [List.getElem?_take_of_lt hi2]
      exact hr i

set_option maxRecDepth 100000 in
theorem open_grain {H : Type} {enc : TypeId × Value → H} {W : World} {v : Value} {d : DataW H} {p : List MemPlace} {base : Nat}
    (hv : Value.okWide Try.prog W .any base 23 v) (h : DataW.Trod enc Try.prog W 0 (fun _ => true) true 23 v d p) :
    ∃ n e l, v = .agg #[.int .i64 n, .int .i64 e, .int .i64 l] ∧ InWord n ∧ InWord e ∧ InWord l := by
  obtain ⟨c0, c1, c2, y0, y1, y2, m, rfl, rfl, rfl, hy0, hy1, hy2⟩ := open_agg3 Try.underlying23 (by kernel_rfl) (by kernel_rfl) hv h
  obtain ⟨n, e0, _, w0⟩ := DataW.trod_int Try.underlying3 hy0
  obtain ⟨e, e1, _, w1⟩ := DataW.trod_int Try.underlying3 hy1
  obtain ⟨l, e2, _, w2⟩ := DataW.trod_int Try.underlying3 hy2
  simp at e0 e1 e2
  subst e0 e1 e2
  exact ⟨n, e, l, rfl, bounds_i64 w0, bounds_i64 w1, bounds_i64 w2⟩

theorem open_int {H : Type} {enc : TypeId × Value → H} {W : World} {v : Value} {d : DataW H} {p : List MemPlace} {base : Nat}
    (hv : Value.okWide Try.prog W .any base 3 v) (h : DataW.Trod enc Try.prog W 0 (fun _ => true) true 3 v d p) : ∃ n, v = .int .i64 n ∧ InWord n := by
  obtain ⟨n, rfl⟩ := okWide_int Try.underlying3 hv
  obtain ⟨fuel, hf⟩ := h
  obtain ⟨m, e0, _, w0⟩ := DataW.trod_int Try.underlying3 hf
  simp [Value.cells] at e0
  subst e0
  exact ⟨n, rfl, bounds_i64 w0⟩

/-- the arguments read on as they did -/
theorem trodAll_below {H : Type} {enc : TypeId × Value → H} {P : Program} (hl : laidOutB P = true) {W W' : World} (hb : Below W.heap.size W W') :
    ∀ {ts : List TypeId} {vs : List Value} {ds : List (DataW H)} {ps : List MemPlace}, (∀ t ∈ ts, P.readableRec t = true ∧ t < P.types.size) →
      DataW.TrodAll enc P W 0 (fun _ => true) true ts vs ds ps → (∀ x ∈ ps, x.block < W.heap.size) → DataW.TrodAll enc P W' 0 (fun b => decide (b < W.heap.size)) true ts vs ds ps
  | [], [], [], _, _, h, _ => h
  | t :: ts, v :: vs, d :: ds, _, ht, ⟨p, q, h1, h2, e⟩, hlt => by
    have h3 := ht t List.mem_cons_self
    exact ⟨p, q, Below.trod hl h3.1 h3.2 h1 hb (fun x hx => hlt x (by rw [e]; exact List.mem_append_left _ hx)),
      trodAll_below hl hb (fun t' ht' => ht t' (List.mem_cons_of_mem _ ht')) h2 (fun x hx => hlt x (by rw [e]; exact List.mem_append_right _ hx)), e⟩
  | [], _ :: _, _, _, _, h, _ => by simp [DataW.TrodAll] at h
  | [], [], _ :: _, _, _, h, _ => by simp [DataW.TrodAll] at h
  | _ :: _, [], _, _, _, h, _ => by simp [DataW.TrodAll] at h
  | _ :: _, _ :: _, [], _, _, h, _ => by simp [DataW.TrodAll] at h

/-- a law's end -/
theorem post_law {P : Program} {H : Type} {enc : TypeId × Value → H} {f : Func} {s : ChangeSpec} {apart fresh handsOn : Bool} {W W' : World} {args : Array Value} {ds : List (DataW H)} {before : List MemPlace} {t : TypeId}
    (hl : laidOutB P = true) (hts : ∀ t ∈ f.params.toList, P.readableRec t = true ∧ t < P.types.size)
    (hW : DataW.Whole enc P f.params.toList s.vars apart W args.toList ds [] before) (hvs : s.vars = []) (hrt : f.resultTypes = #[t]) (hub : P.underlying t = some .bool)
    (hA : DataW.TrodAll enc P W 0 (fun _ => true) true f.params.toList args.toList ds before)
    (hr : (s.fn H ds).results = [.lit (.bool true)]) (ha : (s.fn H ds).args = ds) (hv : (s.fn H ds).vars = []) (hb : Below W.heap.size W W') :
    s.post enc P f apart fresh handsOn false W args (.bool true) W' := by
  have hlt := hW.lt
  refine ⟨ds, [], before, [], before, [], hW, ?_, ?_, ?_, World.keptBut_mono (fun p hp => ⟨hp, ?_⟩) (hb.frame _), fun h => by cases h⟩
  · rw [List.append_nil, hr, hrt]
    exact trodAll_cons_mk (shut_bool hub _) trodAll_mk0
  · rw [List.append_nil, ha]
    exact trodAll_below hl hb hts hA (fun x hx => by simpa using hlt x hx)
  · rw [List.append_nil, hv, hvs]
    rfl
  · exact Or.inr (by simpa using hp)
end Go.Proofs.Ytcbbdbglbfnbpaa

/- What the laws need of package bed: all six functions. -/
set_option linter.unusedVariables false
namespace Go.Proofs.Ytcbbdbglbfnbpaa
open Go.RowKit

def UntilOk : Prop := ∀ (n d l low high m : Int) (ao : Option Addr) (la ca : Nat) (xs : List Int) (W : World), Il W ao la xs → la ≤ 9223372036854775807 →
  Calls Try.prog 21 #[.agg #[.int .i64 n, .int .i64 d, .int .i64 l], .slice ao la ca, .int .i64 low, .int .i64 high, .int .i64 m] W
    (fun e w' => (Bedly xs ∧ Grainy n d l ∧ 0 ≤ m ∧ m ≤ 1048576 ∧ OutUntil n d l low high m.toNat xs W e w') ∨ (¬ (Bedly xs ∧ Grainy n d l ∧ 0 ≤ m ∧ m ≤ 1048576) ∧ e = .returned (.tuple #[.int .i64 0, .int .i64 2]) ∧ Below W.heap.size W w'))
def OutLE (W : World) (zs : List Int) (e : Ending) (w' : World) : Prop :=
  ∃ ao cap, e = .returned (.tuple #[.slice ao zs.length cap, .int .i64 0]) ∧ zs.length ≤ cap ∧ cap ≤ maxLen ∧ Il w' ao zs.length zs ∧ Below W.heap.size W w'
def NoneLE (W : World) (e : Ending) (w' : World) : Prop :=
  ∃ ao cap, e = .returned (.tuple #[.slice ao 0 cap, .int .i64 2]) ∧ cap ≤ maxLen ∧ Below W.heap.size W w'
def TurnOk : Prop := ∀ (ao : Option Addr) (la ca : Nat) (xs : List Int) (W : World), Il W ao la xs → la ≤ 9223372036854775807 →
  Calls Try.prog 24 #[.slice ao la ca] W (fun e w' => (Bedly xs ∧ OutLE W xs.reverse e w') ∨ (¬ Bedly xs ∧ NoneLE W e w'))
def SpreadOk : Prop := ∀ (ao : Option Addr) (la ca : Nat) (xs : List Int) (W : World), Il W ao la xs → la ≤ 9223372036854775807 →
  Calls Try.prog 25 #[.slice ao la ca] W (fun e w' => (Bedly xs ∧ e = .returned (.tuple #[.int .i64 (spreadL xs), .int .i64 0]) ∧ Below W.heap.size W w') ∨ (¬ Bedly xs ∧ e = .returned (.tuple #[.int .i64 0, .int .i64 2]) ∧ Below W.heap.size W w'))

/-- package bed as the document has it -/
structure BedOk : Prop where
  tick : TickOk
  run : RunOk
  steep : SteepOk
  until_ : UntilOk
  turn : TurnOk
  spread : SpreadOk

theorem runL_len (n d l : Int) : ∀ (t : Nat) (xs : List Int), (runL n d l t xs).1.length = xs.length
  | 0, _ => rfl
  | t + 1, xs => by
    simp only [runL]
    split
    · rfl
    · rw [runL_len n d l t, tickL_len]

theorem Bedly.tame {xs : List Int} (h : Bedly xs) : ∀ i, i < xs.length → Tame (xs[i]?.getD 0) := fun i hi => by
  have := h.2.2 i hi
  unfold Tame
  omega
end Go.Proofs.Ytcbbdbglbfnbpaa

/- Words for the program's own blocks: a block of integers that is known whole; make and copy in these words; a region that only reads and draws its order, in the round of a range over a function. No function of the program is walked here. -/
set_option linter.unusedVariables false
set_option linter.unusedSimpArgs false
namespace Go.Proofs.Ytcbbdbglbfnbpaa
open Go.RowKit Go.Shelf

/-- the integers as cells -/
def ics (xs : List Int) : Array Value := (xs.map fun z => Value.int .i64 z).toArray
/-- Block b holds the integers xs, all of them, and may be written. -/
def Blk (w : World) (b : Nat) (xs : List Int) : Prop := w.heap[b]? = some (.cells (ics xs) 3 (0, 0))

theorem ics_get (xs : List Int) (i : Nat) (hi : i < xs.length) : (ics xs)[i]? = some (.int .i64 (xs[i]?.getD 0)) := by
  simp [ics, List.getElem?_eq_getElem hi]
theorem ics_size (xs : List Int) : (ics xs).size = xs.length := by simp [ics]
theorem ics_set (xs : List Int) (i : Nat) (x : Int) : (ics xs).setIfInBounds i (.int .i64 x) = ics (xs.set i x) := by
  simp [ics, List.map_set]

section
variable {w w' : World} {b : Nat} {xs : List Int}
theorem Blk.lt (h : Blk w b xs) : b < w.heap.size := (Array.getElem?_eq_some_iff.1 h).1
theorem Blk.cell (h : Blk w b xs) (i : Nat) (hi : i < xs.length) : w.cell? ⟨b, i, none⟩ = some (.int .i64 (xs[i]?.getD 0)) := by
  simp only [World.cell?]
  rw [show w.heap[b]? = some (.cells (ics xs) 3 (0, 0)) from h]
  simp [ics_get xs i hi]
theorem Blk.frozen (h : Blk w b xs) (i : Nat) : w.frozen? ⟨b, i, none⟩ = false := by
  simp only [World.frozen?]
  rw [show w.heap[b]? = some (.cells (ics xs) 3 (0, 0)) from h]
  simp
theorem Blk.of_block (h : Blk w b xs) (hb : w'.heap[b]? = w.heap[b]?) : Blk w' b xs := hb.trans h
theorem Blk.below {B : Nat} (h : Blk w b xs) (hb : Below B w w') (hB : b < B) : Blk w' b xs := h.of_block (hb.block b hB)
theorem Blk.keep (h : Blk w b xs) (hb : Below w.heap.size w w') : Blk w' b xs := h.below hb h.lt
theorem Blk.grown {row : Option Nat} (h : Blk w b xs) (hg : w.grownBy w' row) (hne : some b ≠ row) : Blk w' b xs := h.of_block (hg.block b h.lt hne)
theorem Blk.drewN (h : Blk w b xs) (n : Nat) : Blk (w.drewN n) b xs := h
theorem Blk.drew (h : Blk w b xs) : Blk w.drew b xs := h
theorem Blk.alloc (h : Blk w b xs) (o : Obj) : Blk (w.alloc o) b xs := h.of_block (Below.heap_alloc w o b h.lt)
theorem Blk.set (h : Blk w b xs) (i : Nat) (x : Int) : Blk (w.setCell ⟨b, i, none⟩ (.int .i64 x)) b (xs.set i x) := by
  unfold Blk
  simp only [World.setCell, Array.getElem?_modify]
  rw [show w.heap[b]? = some (.cells (ics xs) 3 (0, 0)) from h]
  simp [ics_set]
theorem Blk.other (h : Blk w b xs) (p : Addr) (hp : b ≠ p.block) (v : Value) : Blk (w.setCell p v) b xs := h.of_block (Below.heap_setCell w p v b hp)
theorem Blk.new (w : World) (xs : List Int) (c : Array Value) (hc : c = ics xs) : Blk (w.alloc (.cells c 3)) w.heap.size xs := by
  subst hc; exact heap_alloc_new w _
theorem Blk.il (h : Blk w b xs) {len : Nat} (hl : xs.length = len) : Il w (some ⟨b, 0, none⟩) len xs := by
  refine ⟨hl, b, 0, fun _ => rfl, fun i hi => ?_⟩
  rw [Nat.zero_add, h.cell i (by omega)]
theorem grownBy_set (w : World) (b i : Nat) (v : Value) : w.grownBy (w.setCell ⟨b, i, none⟩ v) (some b) :=
  ⟨rfl, rfl, rfl, by simp [World.setCell], fun k _ hk => Below.heap_setCell _ _ _ k (fun e => hk (by rw [e]))⟩
theorem grownBy_refl (w : World) (row : Option Nat) : w.grownBy w row := ⟨rfl, rfl, rfl, Nat.le_refl _, fun _ _ _ => rfl⟩
theorem grownBy_trans {a b c : World} {row : Option Nat} (h : a.grownBy b row) (k : b.grownBy c row) : a.grownBy c row :=
  ⟨k.os.trans h.os, k.tape.trans h.tape, k.output.trans h.output, Nat.le_trans h.size k.size, fun i hi hne => (k.block i (Nat.lt_of_lt_of_le hi h.size) hne).trans (h.block i hi hne)⟩
theorem grownBy_of_below {a c : World} {row : Option Nat} (h : Below a.heap.size a c) : a.grownBy c row := ⟨h.os, h.tape, h.output, h.size, fun k hk _ => h.block k hk⟩
theorem grownBy_drewN (w : World) (n : Nat) (row : Option Nat) : w.grownBy (w.drewN n) row := ⟨rfl, rfl, rfl, Nat.le_refl _, fun _ _ _ => rfl⟩
/-- what was there below the own block lies as it lay -/
theorem below_grown {B b : Nat} {a w w' : World} (h : Below B a w) (hg : w.grownBy w' (some b)) (hs : B ≤ w.heap.size) (hB : B ≤ b) : Below B a w' := h.grown hg hs (fun k e => by cases e; exact hB)
theorem Il.grown {ao : Option Addr} {len : Nat} {ys : List Int} (h : Il w ao len ys) (hg : w.grownBy w' (some b)) (hne : ∀ a, ao = some a → a.block ≠ b) : Il w' ao len ys := by
  obtain ⟨h1, c, off, h2, h3⟩ := h
  by_cases h0 : 0 < len
  · obtain rfl := h2 h0
    have hc : c ≠ b := hne _ rfl
    exact ⟨h1, c, off, h2, fun i hi => hg.cell (h3 i hi) (by simpa using hc)⟩
  · exact ⟨h1, c, off, h2, fun i hi => absurd hi (by omega)⟩
theorem Gr.grown {g : Nat} {n d l : Int} (h : Gr w g n d l) (hg : w.grownBy w' (some b)) (hne : g ≠ b) : Gr w' g n d l := (hg.block g h.lt (by simpa using hne)).trans h
end

theorem wpList_mk {P : Program} {w : World} {ops : Array Oper} {rest : List Oper} {o : Oper} {a : Act} {Q : Exit → Act → World → Prop}
    (hg : o.guard = none) (l : Operand) (t : TypeId) (hop : o.op = Op.makeSlice t l l)
    (h1 : P.underlying t = some (.slice 3)) (h2 : (P.info? 3).map (fun i => (i.zero, i.size, i.bytes)) = some (some (.int .i64 0), 1, 8))
    (L : Int) (n : Nat) (hl : a.eval l = .int .i64 L) (hL : L = (n : Int)) (b2 : n ≤ 35184372088832)
    (hK : ∀ w1, Blk w1 w.heap.size (List.replicate n 0) → Below w.heap.size w w1 → w1.heap.size = w.heap.size + 1 → wpList P ops Q rest (a.put o.dst (.slice (some ⟨w.heap.size, 0, none⟩) n n)) w1) :
    wpList P ops Q (o :: rest) a w := by
  obtain ⟨i0, hi, hz0, hz1, hz2⟩ := info_parts h2
  refine wpList_plain hg fun K hK' => ?_
  subst hL
  have hb' : (i0.bytes : Int) * (n : Int) ≤ 281474976710656 := by
    have h : ((i0.bytes * n : Nat) : Int) ≤ 281474976710656 := by rw [hz2]; omega
    rwa [Int.natCast_mul] at h
  have hr := run_make (P := P) w t 3 i0 _ h1 hi hz0 .i64 .i64 n n (by omega) (Int.le_refl _) hb' (by omega)
  simp only [Int.toNat_natCast] at hr
  unfold Oper.wp
  simp [execOp, hop, hl, hr, Result.andThen]
  refine hK' _ _ (hK _ (Blk.new w _ _ ?_) ((Below.refl _ _).alloc (Nat.le_refl _) _) (by simp))
  rw [hz1]
  apply Array.toList_inj.1
  simp [Value.cells, toList_madeCells_one, ics]

/-- what copy does to a row that is as long as the list or longer -/
theorem run_cp {P : Program} {w : World} {dT sT ty : TypeId} (hu : P.underlying dT = some (.slice 3)) (hsz : (P.info? 3).map (·.size) = some 1)
    (g dLen dCap : Nat) (sp : Option Addr) (sLen sCap : Nat) (zs xs : List Int) (hb : Blk w g zs) (hx : Il w sp sLen xs) (hle : sLen ≤ dLen) (hfit : sLen ≤ zs.length) (h0 : 0 < sLen) :
    (Builtin.copy_ #[dT, sT] ty #[.slice (some ⟨g, 0, none⟩) dLen dCap, .slice sp sLen sCap]).run P w = .ok (goInt sLen) (w.setRow g (ics (xs ++ zs.drop sLen))) := by
  obtain ⟨hl, b, off, h1, hc⟩ := hx
  obtain rfl := h1 h0
  have hl2 : (ics xs).toList.length = sLen := by simp [ics, hl]
  have := run_copy_row (P := P) w dT sT ty 3 g 0 dLen dCap ⟨b, off, none⟩ sLen sCap (ics zs) 3 (ics xs).toList hu hsz hb (by rw [hl2]; exact (Nat.min_eq_left hle).symm) ?_ (by rw [hl2, ics_size]; omega) ?_
  · rw [this, hl2]
    congr 2
    apply Array.toList_inj.1
    simp [ics]
  · intro j v hv
    have hj : j < sLen := by
      have := (List.getElem?_eq_some_iff.1 hv).1
      omega
    have e1 : ((⟨b, off, none⟩ : Addr).add j) = ⟨b, off + j, none⟩ := by unfold Addr.add; split <;> simp_all
    rw [e1, hc j hj]
    have := ics_get xs j (by omega)
    rw [← hv]; simpa using this.symm
  · intro v hv
    simp [ics] at hv
    obtain ⟨z, _, rfl⟩ := hv
    rfl

theorem grownBy_setRow (w : World) (g : Nat) (cs : Array Value) : w.grownBy (w.setRow g cs) (some g) :=
  ⟨rfl, rfl, rfl, by simp [World.setRow], fun k _ hk => setRow_other w g k cs (fun e => hk (by rw [e]))⟩
theorem Blk.setRow {w : World} {g : Nat} {zs : List Int} (h : Blk w g zs) (ys : List Int) : Blk (w.setRow g (ics ys)) g ys := by
  show _ = _
  rw [setRow_heap w g _ _ 3 _ h]

theorem wpList_cp {P : Program} {w : World} {ops : Array Oper} {rest : List Oper} {o : Oper} {a : Act} {Q : Exit → Act → World → Prop} (hgd : o.guard = none) (d s : Operand) (dT sT : TypeId)
    (ho : o.op = .call { callee := .builtin .copy, args := #[d, s], argTypes := #[dT, sT] }) (hu : P.underlying dT = some (.slice 3)) (hsz : (P.info? 3).map (·.size) = some 1)
    (g dLen dCap : Nat) (sp : Option Addr) (sLen sCap : Nat) (hd : a.eval d = .slice (some ⟨g, 0, none⟩) dLen dCap) (hs : a.eval s = .slice sp sLen sCap)
    (zs xs : List Int) (hb : Blk w g zs) (hx : Il w sp sLen xs) (hle : sLen ≤ dLen) (hfit : sLen ≤ zs.length) (h0 : 0 < sLen)
    (h : ∀ w1, Blk w1 g (xs ++ zs.drop sLen) → w.grownBy w1 (some g) → w1.heap.size = w.heap.size → wpList P ops Q rest (a.put o.dst (goInt sLen)) w1) :
    wpList P ops Q (o :: rest) a w := by
  refine wpList_plain hgd fun K hK => ?_
  have hrun := run_cp (P := P) (w := w) (dT := dT) (sT := sT) (ty := o.type) hu hsz g dLen dCap sp sLen sCap zs xs hb hx hle hfit h0
  unfold Oper.wp
  simp [execOp, ho, resolve, invoke, builtin, hd, hs, hrun, Result.andThen]
  exact hK _ _ (h _ (hb.setRow _) (grownBy_setRow _ _ _) (by simp [World.setRow]))

theorem wpListIn_cp {F : Fence} {n : Nat} {P : Program} {w : World} {ops : Array Oper} {rest : List Oper} {o : Oper} {a : Act} {Q : Exit → Act → World → Prop} (hgd : o.guard = none) (d s : Operand) (dT sT : TypeId)
    (ho : o.op = .call { callee := .builtin .copy, args := #[d, s], argTypes := #[dT, sT] }) (hu : P.underlying dT = some (.slice 3)) (hsz : (P.info? 3).map (·.size) = some 1)
    (g dLen dCap : Nat) (sp : Option Addr) (sLen sCap : Nat) (hd : a.eval d = .slice (some ⟨g, 0, none⟩) dLen dCap) (hs : a.eval s = .slice sp sLen sCap)
    (zs xs : List Int) (hb : Blk w g zs) (hx : Il w sp sLen xs) (hle : sLen ≤ dLen) (hfit : sLen ≤ zs.length) (h0 : 0 < sLen)
    (h : ∀ w1, Blk w1 g (xs ++ zs.drop sLen) → w.grownBy w1 (some g) → w1.heap.size = w.heap.size → wpListIn F n P ops Q rest (a.put o.dst (goInt sLen)) w1) :
    wpListIn F n P ops Q (o :: rest) a w := by
  refine wpListIn_plain hgd fun K hK => ?_
  have hrun := run_cp (P := P) (w := w) (dT := dT) (sT := sT) (ty := o.type) hu hsz g dLen dCap sp sLen sCap zs xs hb hx hle hfit h0
  unfold Oper.wpIn
  refine ⟨?_, ?_⟩
  · simp [Oper.about, ho, resolve, Target.leads, Sem.run_pure]
  · rw [Oper.semAt_plain F _ _ (by rw [ho]; intro c hc'; cases hc')]
    simp [execOp, ho, resolve, invoke, builtin, hd, hs, hrun, Result.andThen]
    exact hK _ _ (h _ (hb.setRow _) (grownBy_setRow _ _ _) (by simp [World.setRow]))

/-! A region that draws its order, in the round of a range over a function. -/

/-- no defer statement among these operations -/
def plainOps (l : List Oper) : Bool := l.all fun o => match o.op with | .defer _ => false | _ => true

theorem plainOps_spec {l : List Oper} (h : plainOps l = true) {i : Nat} {o : Oper} (ho : l.toArray[i]? = some o) : ∀ c, o.op ≠ .defer c := by
  intro c hc
  have hm : o ∈ l := by
    rw [List.getElem?_toArray] at ho
    exact List.mem_of_getElem? ho
  have := List.all_eq_true.1 h o hm
  rw [hc] at this
  exact absurd this (by simp)

theorem wpOpsIn_round {F : Fence} {n : Nat} {P : Program} {ops : List Oper} {Q : Exit → Act → World → Prop} (hro : F.round = none) (l : Nat) (hd : plainOps ops = true) :
    ∀ (L : List Nat) (a : Act) (w : World), wpOpsIn F n P ops.toArray Q L a w → wpOpsIn (F.inRound l) n P ops.toArray Q L a w
  | [], a, w, h => h
  | i :: L, a, w, h => by
    have ih := wpOpsIn_round (n := n) (P := P) (Q := Q) hro l hd L
    simp only [wpOpsIn] at h ⊢
    cases ho : ops.toArray[i]? with
    | none => simp only [ho] at h ⊢; exact ih _ _ h
    | some o =>
      simp only [ho] at h ⊢
      by_cases hw : Region.wanted o (yielded ops.toArray a.tmps) = true
      · simp only [hw, if_true, Oper.wpIn] at h ⊢
        refine ⟨h.1, ?_⟩
        have h2 := h.2
        rw [hro, Oper.semAt_none] at h2
        rw [Fence.inRound_round, Oper.semAt_some l _ _ (plainOps_spec hd ho)]
        generalize (execOp a.eval o).run P w = r at *
        cases r with
        | ok x w' =>
          cases x <;> simp only [Oper.uponIn] at h2 ⊢ <;>
            first
              | exact ih _ _ h2
              | exact ⟨h2.1, CallsIn.mono h2.2 (fun e w'' he => by cases e <;> first | exact ih _ _ he | exact he)⟩
              | exact ⟨h2.1, RowsIn.mono h2.2 (fun _ _ he => ih _ _ he)⟩
              | exact ⟨h2.1, RoundIn.mono h2.2 (fun e w'' he => by cases e <;> first | exact ih _ _ he | exact he)⟩
        | halt x w' => cases x <;> simp only [Oper.uponIn] at h2 ⊢ <;> exact h2
      · simp only [hw] at h ⊢
        exact ⟨h.1, ih _ _ h.2⟩

theorem wpIn_region_round {F : Fence} {n : Nat} {P : Program} {id : Nat} {Q : Exit → Act → World → Prop} {a : Act} {w : World} {ops : List Oper} {l : Nat} (hro : F.round = none) (hm : P.follows .mixedOrders = true) (hB : Region.lexB .any ops.toArray = true) (hd : plainOps ops = true)
    (h : wpQuietIn F n P ops.toArray (fun w' => ∃ n, w' = w.drewN n) (fun a' => ∀ w', (∃ n, w' = w.drewN n) → Q .normal a' w') ops a) : (Code.region id ops.toArray true).wpIn (F.inRound l) n P Q a w := by
  simp only [Region.lexB, Bool.and_eq_true] at hB
  refine wpIn_region_draw fun t => wpOpsIn_round hro l hd _ _ _ ?_
  simp only [Region.schedule, hm, Bool.true_or, if_true]
  refine wpAnyIn_sound ops.toArray.size t _ a _ (wpAnyIn_of_quiet (Q := fun a' => ∀ w', (∃ n, w' = w.drewN n) → Q .normal a' w') hro (fun _ w' hw' h => h w' hw') _ _ _ _ ⟨1, rfl⟩ ?_)
  have := wpAnyQIn_lex (F := F) (n := n) (C := fun w' => ∃ n, w' = w.drewN n) (md := .any) hB.1 ops 0 (Array.replicate ops.toArray.size false) a (by simp) (by simpa using hB.2) h
  simpa using this
end Go.Proofs.Ytcbbdbglbfnbpaa

/- package bed: what is valid; duplicate. -/
set_option linter.unusedVariables false
set_option linter.unusedSimpArgs false
namespace Go.Proofs.Ytcbbdbglbfnbpaa
open Go.RowKit

set_option maxHeartbeats 800000 in
theorem are_any (ao : Option Addr) (la ca : Nat) (low high : Int) (xs : List Int) (W : World) (hs : Il W ao la xs) (hla : la ≤ 9223372036854775807) :
    Calls Try.prog 37 #[.slice ao la ca, .int .i64 low, .int .i64 high] W (YesNo (In low high xs) W) := by
  have HS := Lib.hid hs
  have HL := Lib.hid hs.len
  clear hs
  go_enter Try.func37, Try.ntmps37
  go_wp2
  go_loop [11] (fun t => ∃ i : Nat, i ≤ la ∧ t = .int .i64 (i : Int) ∧ ∀ j, j < i → low ≤ xs[j]?.getD 0 ∧ xs[j]?.getD 0 ≤ high) (fun t => la - (intOf t).toNat)
  case atStart => exact ⟨0, by omega, rfl, fun j hj => absurd hj (by omega)⟩
  case round =>
    obtain ⟨i, hi, rfl, hall⟩ := hrel
    have HA := Lib.hid hall
    clear hall
    by_cases h1 : i < la
    · have u1 : (i : Int) < (la : Int) := by omega
      have u0 : (0 : Int) ≤ (i : Int) := by omega
      obtain ⟨b, off, rfl, hc⟩ := HS.out.at (by omega)
      have hci := hc i h1
      obtain ⟨x, hx⟩ : ∃ x, x = xs[i]?.getD 0 := ⟨_, rfl⟩
      rw [← hx] at hci
      have HX := Lib.hid hx
      clear hc hx
      by_cases c1 : x < low
      · go_wp2
        go_ret
        exact ⟨.inr ⟨fun h => by have := h i (by rw [HL.out]; omega); rw [← HX.out] at this; omega, rfl⟩, rfl⟩
      · by_cases c2 : high < x
        · go_wp2
          go_ret
          exact ⟨.inr ⟨fun h => by have := h i (by rw [HL.out]; omega); rw [← HX.out] at this; omega, rfl⟩, rfl⟩
        · go_wp2
          go_round
          case rel =>
            refine ⟨i + 1, by omega, by go_num, fun j hj => ?_⟩
            rcases Nat.lt_succ_iff_lt_or_eq.1 hj with hj | rfl
            · exact HA.out j hj
            · rw [← HX.out]; omega
          case measure => simp only [intOf]; omega
    · have u1 : ¬ (i : Int) < (la : Int) := by omega
      go_wp2
      go_ret
      exact ⟨.inl ⟨fun j hj => HA.out j (by rw [HL.out] at hj; omega), rfl⟩, rfl⟩

set_option maxHeartbeats 800000 in
theorem isBed_any (ao : Option Addr) (la ca : Nat) (xs : List Int) (W : World) (hs : Il W ao la xs) (hla : la ≤ 9223372036854775807) :
    Calls Try.prog 31 #[.slice ao la ca] W (YesNo (Bedly xs) W) := by
  have HS := Lib.hid hs
  have HL := Lib.hid hs.len
  clear hs
  go_enter Try.func31, Try.ntmps31
  by_cases g1 : 1 ≤ la
  · have t1 : (1 : Int) ≤ (la : Int) := by omega
    by_cases g2 : la ≤ 64
    · have t2 : (la : Int) ≤ 64 := by omega
      go_wp2_with (go_at_call 37; refine (are_any _ _ _ 0 1048576 xs _ HS.out hla).mono ?_; rintro e w1 ⟨⟨hin, rfl⟩ | ⟨hin, rfl⟩, rfl⟩)
      · go_ret
        exact ⟨.inl ⟨⟨by rw [HL.out]; omega, by rw [HL.out]; omega, hin⟩, rfl⟩, rfl⟩
      · go_ret
        exact ⟨.inr ⟨fun h => hin h.2.2, rfl⟩, rfl⟩
    · have t2 : ¬ (la : Int) ≤ 64 := by omega
      go_wp2
      go_ret
      exact ⟨.inr ⟨fun h => by have := h.2.1; rw [HL.out] at this; omega, rfl⟩, rfl⟩
  · have t1 : ¬ (1 : Int) ≤ (la : Int) := by omega
    go_wp2
    go_ret
    exact ⟨.inr ⟨fun h => by have := h.1; rw [HL.out] at this; omega, rfl⟩, rfl⟩

set_option maxHeartbeats 1000000 in
theorem isGrain_any (n d l : Int) (W : World) :
    Calls Try.prog 32 #[.agg #[.int .i64 n, .int .i64 d, .int .i64 l]] W (YesNoB (Grainy n d l) W) := by
  have hbe : Below W.heap.size W (W.alloc (.cells #[.int .i64 n, .int .i64 d, .int .i64 l] 23)) := (Below.refl _ _).alloc (Nat.le_refl _) _
  have GB := Lib.hid hbe
  clear hbe
  go_enter Try.func32, Try.ntmps32
  by_cases c1 : 1 ≤ d
  · have t1 : ¬ d < 1 := by omega
    by_cases c2 : d ≤ 1048576
    · have t2 : ¬ 1048576 < d := by omega
      by_cases c3 : 0 ≤ n
      · have t3 : ¬ n < 0 := by omega
        by_cases c5 : n ≤ d
        · have t5 : ¬ d < n := by omega
          by_cases c4 : 0 ≤ l
          · have t4 : ¬ l < 0 := by omega
            by_cases c7 : l ≤ d - 2 * n
            · go_wp2
              go_ret
              exact ⟨.inl ⟨⟨c1, c2, c3, c4, c5, by omega, by omega⟩, rfl⟩, GB.out⟩
            · go_wp2
              go_ret
              exact ⟨.inr ⟨fun h => by have := h.2.2.2.2.2.2; omega, rfl⟩, GB.out⟩
          · have t4 : l < 0 := by omega
            go_wp2
            go_ret
            exact ⟨.inr ⟨fun h => by have := h.2.2.2.1; omega, rfl⟩, GB.out⟩
        · have t5 : d < n := by omega
          go_wp2
          go_ret
          exact ⟨.inr ⟨fun h => by have := h.2.2.2.2.1; omega, rfl⟩, GB.out⟩
      · have t3 : n < 0 := by omega
        go_wp2
        go_ret
        exact ⟨.inr ⟨fun h => by have := h.2.2.1; omega, rfl⟩, GB.out⟩
    · have t2 : 1048576 < d := by omega
      go_wp2
      go_ret
      exact ⟨.inr ⟨fun h => by have := h.2.1; omega, rfl⟩, GB.out⟩
  · have t1 : d < 1 := by omega
    go_wp2
    go_ret
    exact ⟨.inr ⟨fun h => by have := h.1; omega, rfl⟩, GB.out⟩

set_option maxHeartbeats 400000 in
theorem isMoisture_any (z : Int) (W : World) : Calls Try.prog 38 #[.int .i64 z] W (YesNo (0 ≤ z ∧ z ≤ 1048576) W) := by
  go_enter Try.func38, Try.ntmps38
  by_cases c1 : 0 ≤ z
  · by_cases c2 : z ≤ 1048576
    · go_wp2
      go_ret
      exact ⟨.inl ⟨⟨c1, c2⟩, rfl⟩, rfl⟩
    · go_wp2
      go_ret
      exact ⟨.inr ⟨fun h => by omega, rfl⟩, rfl⟩
  · go_wp2
    go_ret
    exact ⟨.inr ⟨fun h => by omega, rfl⟩, rfl⟩

set_option maxHeartbeats 400000 in
theorem isRun_any (z : Int) (W : World) : Calls Try.prog 34 #[.int .i64 z] W (YesNo (0 ≤ z ∧ z ≤ 1048576) W) := by
  go_enter Try.func34, Try.ntmps34
  by_cases c1 : 0 ≤ z
  · by_cases c2 : z ≤ 1048576
    · go_wp2
      go_ret
      exact ⟨.inl ⟨⟨c1, c2⟩, rfl⟩, rfl⟩
    · go_wp2
      go_ret
      exact ⟨.inr ⟨fun h => by omega, rfl⟩, rfl⟩
  · go_wp2
    go_ret
    exact ⟨.inr ⟨fun h => by omega, rfl⟩, rfl⟩

/-- a block of the call's own, new, with the integers xs -/
def OutBlk (W : World) (la : Nat) (xs : List Int) (e : Ending) (w' : World) : Prop :=
  e = .returned (.slice (some ⟨W.heap.size, 0, none⟩) la la) ∧ Blk w' W.heap.size xs ∧ Below W.heap.size W w' ∧ w'.heap.size = W.heap.size + 1

set_option maxHeartbeats 800000 in
theorem duplicate_any (ao : Option Addr) (la ca : Nat) (xs : List Int) (W : World) (hs : Il W ao la xs) (h0 : 0 < la) (hla : la ≤ 100000) :
    Calls Try.prog 35 #[.slice ao la ca] W (OutBlk W la xs) := by
  have HS := Lib.hid hs
  have HL := Lib.hid hs.len
  clear hs
  go_enter Try.func35, Try.ntmps35
  have hzl : (List.replicate la (0 : Int)).length = la := List.length_replicate
  have HZ := Lib.hid hzl
  clear hzl
  go_wp2_with (first
    | (at_make; refine wpList_mk rfl _ 24 rfl Try.underlying24 (by kernel_rfl) _ la rfl rfl (by omega) ?_; intro w1 hB1 hb1 hz1; have GB := Lib.hid hB1; have Gb := Lib.hid hb1; have GZ := Lib.hid hz1; have HS1 := Lib.hid (HS.out.keep hb1); clear hB1 hb1 hz1)
    | ((with_reducible show wpList _ _ _ _ _ _); refine wpList_cp rfl (.tmp 7) (.tmp 8) 24 24 rfl Try.underlying24 (by kernel_rfl) W.heap.size la la ao la ca rfl rfl _ xs GB.out HS1.out (Nat.le_refl _) (by rw [HZ.out]; exact Nat.le_refl _) h0 ?_; intro w2 hB2 hg2 hz2; have HB2 := Lib.hid hB2; have Hg2 := Lib.hid hg2; have Hz2 := Lib.hid hz2; clear hB2 hg2 hz2))
  go_ret
  refine ⟨rfl, ?_, below_grown Gb.out Hg2.out (by rw [GZ.out]; omega) (Nat.le_refl _), Hz2.out.trans GZ.out⟩
  have := HB2.out
  rw [List.drop_of_length_le (by rw [HZ.out]; exact Nat.le_refl _), List.append_nil] at this
  exact this
end Go.Proofs.Ytcbbdbglbfnbpaa

/- What package bed calls of the library: Equal, Max, Min, Reverse of integers. -/
set_option linter.unusedVariables false
set_option linter.unusedSimpArgs false
namespace Go.Proofs.Ytcbbdbglbfnbpaa
open Go.RowKit

set_option maxHeartbeats 1000000 in
theorem equal_any (ao bo : Option Addr) (la lb ca cb : Nat) (xs ys : List Int) (W : World) (hs : Il W ao la xs) (ht : Il W bo lb ys) (hla : la ≤ 9223372036854775807) (hlb : lb ≤ 9223372036854775807) :
    Calls Try.prog 36 #[.slice ao la ca, .slice bo lb cb] W (YesNoD (xs = ys) W) := by
  have HS := Lib.hid hs
  have HT := Lib.hid ht
  have HL := Lib.hid hs.len
  have HM := Lib.hid ht.len
  clear hs ht
  go_enter Try.func36, Try.ntmps36
  by_cases g : la = lb
  · subst g
    have hbb : ((la : Int) != (la : Int)) = false := by simp
    go_wp2
    go_loopw [13] (fun t wr => ∃ i : Nat, i ≤ la ∧ t = .int .i64 (i : Int) ∧ (∀ j, j < i → xs[j]?.getD 0 = ys[j]?.getD 0) ∧ Drew W wr) (fun t _ => la - (intOf t).toNat)
    case atStart => exact ⟨0, by omega, rfl, fun j hj => absurd hj (by omega), Drew.refl _⟩
    case round =>
      obtain ⟨i, hi, rfl, hall, hw⟩ := hrel
      have HA := Lib.hid hall
      have HW := Lib.hid hw
      clear hall hw
      by_cases h1 : i < la
      · have u1 : (i : Int) < (la : Int) := by omega
        have u0 : (0 : Int) ≤ (i : Int) := by omega
        obtain ⟨b, off, rfl, hc⟩ := HS.out.at (by omega)
        obtain ⟨b', off', rfl, hc'⟩ := HT.out.at (by omega)
        have hci := (HW.out.cell _).trans (hc i h1)
        have hci' := (HW.out.cell _).trans (hc' i h1)
        obtain ⟨x, hx⟩ : ∃ x, x = xs[i]?.getD 0 := ⟨_, rfl⟩
        obtain ⟨y, hy⟩ : ∃ x, x = ys[i]?.getD 0 := ⟨_, rfl⟩
        rw [← hx] at hci
        rw [← hy] at hci'
        have HX := Lib.hid hx
        have HY := Lib.hid hy
        clear hc hc' hx hy
        by_cases c : x = y
        · subst c
          have hbb2 : (x != x) = false := by simp
          go_wp2
          go_quiet (fail)
          go_wp2
          go_roundw
          case rel =>
            refine ⟨i + 1, by omega, by go_num, fun j hj => ?_, HW.out.more _⟩
            rcases Nat.lt_succ_iff_lt_or_eq.1 hj with hj | rfl
            · exact HA.out j hj
            · rw [← HX.out, ← HY.out]
          case measure => simp only [intOf]; omega
        · have hbb2 : (x != y) = true := by simp [c]
          go_wp2
          go_quiet (fail)
          go_wp2
          go_ret
          exact ⟨.inr ⟨fun h => c (by rw [HX.out, HY.out, h]), rfl⟩, HW.out.more _⟩
      · have u1 : ¬ (i : Int) < (la : Int) := by omega
        go_wp2
        go_ret
        exact ⟨.inl ⟨list_eq (by rw [HL.out, HM.out]) (fun j hj => HA.out j (by rw [HL.out] at hj; omega)), rfl⟩, HW.out⟩
  · have hbb : ((la : Int) != (lb : Int)) = true := by simp; omega
    go_wp2
    go_ret
    exact ⟨.inr ⟨fun h => g (by rw [← HL.out, ← HM.out, h]), rfl⟩, Drew.refl _⟩

theorem lowZ_one (z : Int) (xs : List Int) (h : 0 < xs.length) (hz : z = xs[0]?.getD 0) : lowZ z (xs.take 1) = z := by
  cases xs with
  | nil => simp at h
  | cons x xs => simp at hz; subst hz; simp [lowZ]
theorem highZ_one (z : Int) (xs : List Int) (h : 0 < xs.length) (hz : z = xs[0]?.getD 0) : highZ z (xs.take 1) = z := by
  cases xs with
  | nil => simp at h
  | cons x xs => simp at hz; subst hz; simp [highZ]

set_option maxHeartbeats 1000000 in
theorem max_any (ao : Option Addr) (la ca : Nat) (xs : List Int) (W : World) (hs : Il W ao la xs) (h0 : 0 < la) (hla : la ≤ 1000000) :
    Calls Try.prog 40 #[.slice ao la ca] W (fun e w' => e = .returned (.int .i64 (highZ (xs[0]?.getD 0) xs)) ∧ w' = W) := by
  have HS := Lib.hid hs
  have HL := Lib.hid hs.len
  clear hs
  obtain ⟨b, off, rfl, hc⟩ := HS.out.at h0
  have HC := Lib.hid hc
  have hc0 := hc 0 h0
  rw [Nat.add_zero] at hc0
  obtain ⟨z, hz⟩ : ∃ z, z = xs[0]?.getD 0 := ⟨_, rfl⟩
  rw [← hz] at hc0
  rw [← hz]
  have HZ := Lib.hid hz
  clear hc hz
  have u3 : (0 : Int) < (la : Int) := by omega
  have u4 : ¬ (la : Int) < 1 := by omega
  go_enter Try.func40, Try.ntmps40
  go_wp2
  go_loop [3, 4] (fun m t => ∃ i : Nat, 1 ≤ i ∧ i ≤ la ∧ t = .int .i64 (i : Int) ∧ m = .int .i64 (highZ z (xs.take i))) (fun m t => la - (intOf t).toNat)
  case atStart => exact ⟨1, by omega, by omega, rfl, by rw [highZ_one z xs (by rw [HL.out]; omega) HZ.out]⟩
  case round =>
    obtain ⟨i, hi1, hi, rfl, rfl⟩ := hrel
    by_cases h1 : i < la
    · have u1 : (i : Int) < (la : Int) := by omega
      have u0 : (0 : Int) ≤ (i : Int) := by omega
      have hci := HC.out i h1
      have e2 := highZ_step z (xs := xs) (i := i) (by rw [HL.out]; omega)
      obtain ⟨x, hx⟩ : ∃ x, x = xs[i]?.getD 0 := ⟨_, rfl⟩
      obtain ⟨hi2, hhi⟩ : ∃ x, x = highZ z (xs.take i) := ⟨_, rfl⟩
      rw [← hx] at hci e2
      rw [← hhi] at e2
      rw [← hhi]
      have E2 := Lib.hid e2
      clear hx hhi e2
      go_wp2
      go_round
      case rel => exact ⟨i + 1, by omega, by omega, by go_num, congrArg (Value.int .i64) (by rw [E2.out]; split <;> omega)⟩
      case measure => simp only [intOf]; omega
    · have u1 : ¬ (i : Int) < (la : Int) := by omega
      have hE : xs.take i = xs := List.take_of_length_le (by rw [HL.out]; omega)
      rw [hE]
      go_wp2
      go_ret
      exact ⟨rfl, rfl⟩

set_option maxHeartbeats 1000000 in
theorem min_any (ao : Option Addr) (la ca : Nat) (xs : List Int) (W : World) (hs : Il W ao la xs) (h0 : 0 < la) (hla : la ≤ 1000000) :
    Calls Try.prog 41 #[.slice ao la ca] W (fun e w' => e = .returned (.int .i64 (lowZ (xs[0]?.getD 0) xs)) ∧ w' = W) := by
  have HS := Lib.hid hs
  have HL := Lib.hid hs.len
  clear hs
  obtain ⟨b, off, rfl, hc⟩ := HS.out.at h0
  have HC := Lib.hid hc
  have hc0 := hc 0 h0
  rw [Nat.add_zero] at hc0
  obtain ⟨z, hz⟩ : ∃ z, z = xs[0]?.getD 0 := ⟨_, rfl⟩
  rw [← hz] at hc0
  rw [← hz]
  have HZ := Lib.hid hz
  clear hc hz
  have u3 : (0 : Int) < (la : Int) := by omega
  have u4 : ¬ (la : Int) < 1 := by omega
  go_enter Try.func41, Try.ntmps41
  go_wp2
  go_loop [3, 4] (fun m t => ∃ i : Nat, 1 ≤ i ∧ i ≤ la ∧ t = .int .i64 (i : Int) ∧ m = .int .i64 (lowZ z (xs.take i))) (fun m t => la - (intOf t).toNat)
  case atStart => exact ⟨1, by omega, by omega, rfl, by rw [lowZ_one z xs (by rw [HL.out]; omega) HZ.out]⟩
  case round =>
    obtain ⟨i, hi1, hi, rfl, rfl⟩ := hrel
    by_cases h1 : i < la
    · have u1 : (i : Int) < (la : Int) := by omega
      have u0 : (0 : Int) ≤ (i : Int) := by omega
      have hci := HC.out i h1
      have e2 := lowZ_step z (xs := xs) (i := i) (by rw [HL.out]; omega)
      obtain ⟨x, hx⟩ : ∃ x, x = xs[i]?.getD 0 := ⟨_, rfl⟩
      obtain ⟨hi2, hhi⟩ : ∃ x, x = lowZ z (xs.take i) := ⟨_, rfl⟩
      rw [← hx] at hci e2
      rw [← hhi] at e2
      rw [← hhi]
      have E2 := Lib.hid e2
      clear hx hhi e2
      go_wp2
      go_round
      case rel => exact ⟨i + 1, by omega, by omega, by go_num, congrArg (Value.int .i64) (by rw [E2.out]; split <;> omega)⟩
      case measure => simp only [intOf]; omega
    · have u1 : ¬ (i : Int) < (la : Int) := by omega
      have hE : xs.take i = xs := List.take_of_length_le (by rw [HL.out]; omega)
      rw [hE]
      go_wp2
      go_ret
      exact ⟨rfl, rfl⟩

/-- turned on the outer i places of each end -/
def Rev (i : Nat) (xs ys : List Int) : Prop := ys.length = xs.length ∧ ∀ k, k < xs.length → ys[k]?.getD 0 = if k < i ∨ xs.length - i ≤ k then xs[xs.length - 1 - k]?.getD 0 else xs[k]?.getD 0

theorem Rev.zero (xs : List Int) : Rev 0 xs xs := ⟨rfl, fun k hk => by rw [if_neg (by omega)]⟩
theorem Rev.done {i : Nat} {xs ys : List Int} (h : Rev i xs ys) (hi : xs.length ≤ 2 * i + 1) : ys = xs.reverse := by
  refine list_eq (by rw [h.1, List.length_reverse]) fun k hk => ?_
  rw [h.1] at hk
  rw [h.2 k hk, List.getElem?_reverse hk]
  split
  · rfl
  · rw [show xs.length - 1 - k = k by omega]
theorem Rev.step {i : Nat} {xs ys : List Int} (h : Rev i xs ys) (hi : 2 * i + 1 < xs.length) : Rev (i + 1) xs ((ys.set i (ys[xs.length - 1 - i]?.getD 0)).set (xs.length - 1 - i) (ys[i]?.getD 0)) := by
  refine ⟨by rw [List.length_set, List.length_set, h.1], fun k hk => ?_⟩
  have e1 := h.2 i (by omega)
  have e2 := h.2 (xs.length - 1 - i) (by omega)
  have e3 := h.2 k hk
  have hl := h.1
  rw [if_neg (by omega)] at e1 e2
  rw [List.getElem?_set]
  by_cases c1 : xs.length - 1 - i = k
  · subst c1
    rw [if_pos rfl, if_pos (by rw [List.length_set]; omega), if_pos (by omega), Option.getD_some, e1]
    rw [show xs.length - 1 - (xs.length - 1 - i) = i by omega]
  · rw [if_neg c1, List.getElem?_set]
    by_cases c2 : i = k
    · subst c2
      rw [if_pos rfl, if_pos (by omega), if_pos (by omega), Option.getD_some, e2]
    · rw [if_neg c2, e3]
      by_cases c3 : k < i ∨ xs.length - i ≤ k
      · rw [if_pos c3, if_pos (by omega)]
      · rw [if_neg c3, if_neg (by omega)]
end Go.Proofs.Ytcbbdbglbfnbpaa

/- slices.Reverse over a block of the caller's own. -/
set_option linter.unusedVariables false
set_option linter.unusedSimpArgs false
namespace Go.Proofs.Ytcbbdbglbfnbpaa
open Go.RowKit

def RevRel (la B : Nat) (xs : List Int) (W : World) (iv jv : Value) (wr : World) : Prop :=
  ∃ (i j : Nat) (ys : List Int), i + j + 1 = la ∧ 2 * i ≤ la ∧ iv = .int .i64 (i : Int) ∧ jv = .int .i64 (j : Int) ∧ Rev i xs ys ∧ Blk wr B ys ∧ W.grownBy wr (some B) ∧ wr.heap.size = W.heap.size

theorem rev_next {la B i j : Nat} {xs ys : List Int} {W wr w2 : World} (hl : xs.length = la) (hij : i + j + 1 = la) (hlt : i < j) (hr : Rev i xs ys) (hg : W.grownBy wr (some B)) (hz : wr.heap.size = W.heap.size)
    (hb2 : Blk w2 B ((ys.set i (ys[j]?.getD 0)).set j (ys[i]?.getD 0))) (hg2 : wr.grownBy w2 (some B)) (hz2 : w2.heap.size = wr.heap.size) (iv jv : Int) (hi : iv = ((i + 1 : Nat) : Int)) (hj : jv = ((j - 1 : Nat) : Int)) :
    RevRel la B xs W (.int .i64 iv) (.int .i64 jv) w2 := by
  subst hi hj
  refine ⟨i + 1, j - 1, _, by omega, by omega, rfl, rfl, ?_, hb2, grownBy_trans hg hg2, hz2.trans hz⟩
  have := hr.step (by omega)
  rwa [show xs.length - 1 - i = j by omega] at this

theorem set_swap (ys : List Int) (i j : Nat) (x y : Int) (h : i ≠ j) : (ys.set j x).set i y = (ys.set i y).set j x := List.set_comm _ _ (Ne.symm h)

set_option maxHeartbeats 2000000 in
theorem reverse_any (B la ca : Nat) (xs : List Int) (W : World) (hB : Blk W B xs) (hl : xs.length = la) (h0 : 0 < la) (hla : la ≤ 100000) :
    Calls Try.prog 39 #[.slice (some ⟨B, 0, none⟩) la ca] W (fun e w' => e = .returned (.tuple #[]) ∧ Blk w' B xs.reverse ∧ W.grownBy w' (some B) ∧ w'.heap.size = W.heap.size) := by
  have HB := Lib.hid hB
  have HL := Lib.hid hl
  clear hB hl
  go_enter Try.func39, Try.ntmps39
  go_wp2
  go_loopw [2, 3] (fun iv jv wr => RevRel la B xs W iv jv wr) (fun iv jv _ => la - (intOf iv).toNat)
  case atStart => exact ⟨0, la - 1, xs, by omega, by omega, rfl, congrArg (Value.int .i64) (by omega), Rev.zero xs, HB.out, grownBy_refl _ _, rfl⟩
  case round =>
    obtain ⟨i, j, ys, hij, h2i, rfl, rfl, hr, hb, hg, hz⟩ := hrel
    have GR := Lib.hid hr
    have GB := Lib.hid hb
    have GG := Lib.hid hg
    have GZ := Lib.hid hz
    have GL := Lib.hid (hr.1.trans HL.out)
    have HIJ := Lib.hid hij
    have ij1 : i + j + 1 ≤ la := by omega
    have ij2 : la ≤ i + j + 1 := by omega
    clear hr hb hg hz hij
    have u0 : (0 : Int) ≤ (i : Int) := by omega
    have u2 : (0 : Int) ≤ (j : Int) := by omega
    have u3 : (i : Int) < (la : Int) := by omega
    have u4 : (j : Int) < (la : Int) := by omega
    by_cases h1 : i < j
    · have u1 : (i : Int) < (j : Int) := by omega
      have ci := GB.out.cell i (by rw [GL.out]; omega)
      have cj := GB.out.cell j (by rw [GL.out]; omega)
      have fi := GB.out.frozen i
      have fj := GB.out.frozen j
      obtain ⟨x, hx⟩ : ∃ x, x = ys[i]?.getD 0 := ⟨_, rfl⟩
      obtain ⟨y, hy⟩ : ∃ x, x = ys[j]?.getD 0 := ⟨_, rfl⟩
      rw [← hx] at ci
      rw [← hy] at cj
      have HX := Lib.hid hx
      have HY := Lib.hid hy
      clear hx hy
      go_wp2
      go_region
      have hB2 : Hid (Blk (((wr.setCell ⟨B, i, none⟩ (.int .i64 y)).setCell ⟨B, j, none⟩ (.int .i64 x)).drew) B ((ys.set i y).set j x)) := Lib.hid (((GB.out.set i y).set j x).drew)
      go_wp2
      go_roundw
      case rel => exact rev_next HL.out HIJ.out h1 GR.out GG.out GZ.out (by rw [← HX.out, ← HY.out]; exact hB2.out) (grownBy_trans (grownBy_trans (grownBy_set _ _ _ _) (grownBy_set _ _ _ _)) (grownBy_drewN _ 1 _)) (by simp [World.setCell]) _ _ (by omega) (by omega)
      case measure => simp only [intOf]; omega
    · have u1 : ¬ (i : Int) < (j : Int) := by omega
      go_wp2
      go_end0
      exact ⟨rfl, by rw [← GR.out.done (by rw [HL.out]; omega)]; exact GB.out, GG.out, GZ.out⟩
end Go.Proofs.Ytcbbdbglbfnbpaa
