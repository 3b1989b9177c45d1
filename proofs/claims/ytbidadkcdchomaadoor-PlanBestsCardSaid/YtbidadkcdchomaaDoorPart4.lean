/- Part 4 of the contracts: PRoom, PNext, PEach. -/
import Derived.Laws.BitsAllLaws
import Derived.Test.YtbidadkcdchomaaDoorPart3

/- package plan: hasRoom. -/
set_option linter.unusedVariables false
set_option linter.unusedSimpArgs false
namespace Go.Proofs.YtbidadkcdchomaaDoor
open Go.RowKit

theorem u64_wrap (n : Nat) : IntKind.u64.wrap (n : Int) = ((n % 2 ^ 64 : Nat) : Int) := by
  simp [IntKind.wrap, IntKind.bits, IntKind.signed]
theorem shl_spell (m s : Nat) : IntKind.u64.wrap ((m : Int) * 2 ^ s) = ((shlN m s : Nat) : Int) := by
  have e : ((m : Int) * 2 ^ s) = ((m * 2 ^ s : Nat) : Int) := by simp
  rw [e, u64_wrap]
  rfl
theorem and_spell (c m : Nat) (hc : c < 2 ^ 64) (hm : m < 2 ^ 64) : bits BinOp.and IntKind.u64 (c : Int) (m : Int) = ((c &&& m : Nat) : Int) := u64_and_nat c m (by omega) (by omega)
theorem or_spell (c m : Nat) (hc : c < 2 ^ 64) (hm : m < 2 ^ 64) : bits BinOp.or IntKind.u64 (c : Int) (m : Int) = ((c ||| m : Nat) : Int) := u64_or_nat c m (by omega) (by omega)

/-- what a search reads: its vessels, its jobs -/
structure SrR (w : World) (B : Nat) (va : Option Addr) (vl vc gj jl jc : Nat) (o : Value) (vn : List Nat) (js : List JobN) (st : List Int) (C : List Nat) : Prop where
  m : SrM w B (.slice va vl vc) (.slice (some ⟨gj, 0, none⟩) jl jc) o st C
  v : Il w va vl (vI vn)
  j : JobsAt w gj js
  ljs : js.length = jl
  house : HouseN vn
  cl : ∀ i, i < 24 → C[i]! < 2 ^ 64
  jok : ∀ i, i < jl → ∃ r : Nat, (js[i]!).fst = (r : Int) ∧ r ≤ 30 ∧ (js[i]!).lst ≤ 30 ∧ -1000 ≤ (js[i]!).lst
  jms : ∀ i, i < jl → ∀ k, (js[i]!).ms k < 2 ^ 64
  nv : ∀ a, va = some a → a.block ≠ B
  nj : gj ≠ B
theorem SrR.keep {w w' : World} {B : Nat} {va : Option Addr} {vl vc gj jl jc : Nat} {o : Value} {vn : List Nat} {js : List JobN} {st : List Int} {C : List Nat} (h : SrR w B va vl vc gj jl jc o vn js st C) (hb : Below w.heap.size w w') : SrR w' B va vl vc gj jl jc o vn js st C :=
  ⟨h.m.keep hb, h.v.keep hb, h.j.keep hb, h.ljs, h.house, h.cl, h.jok, h.jms, h.nv, h.nj⟩
/-- the search's own block is written -/
theorem SrR.write {w w' : World} {B : Nat} {va : Option Addr} {vl vc gj jl jc : Nat} {o o' : Value} {vn : List Nat} {js : List JobN} {st st' : List Int} {C C' : List Nat} (h : SrR w B va vl vc gj jl jc o vn js st C) (hg : w.grownBy w' (some B)) (hm : SrM w' B (.slice va vl vc) (.slice (some ⟨gj, 0, none⟩) jl jc) o' st' C') (hc : ∀ i, i < 24 → C'[i]! < 2 ^ 64) : SrR w' B va vl vc gj jl jc o' vn js st' C' :=
  ⟨hm, h.v.grown hg h.nv, h.j.far (hg.block gj h.j.lt (by have := h.nj; simp [this])) hg.size, h.ljs, h.house, hc, h.jok, h.jms, h.nv, h.nj⟩
theorem room_false {vs : List Nat} {C : List Nat} {j : JobN} {s k : Nat} (hk : k < vs.length) (h : ¬ (C[8 * k + (vs[k]! - 1)]! &&& shlN (j.ms k) s) = 0) : roomN vs C j s = false := by
  unfold roomN
  rw [List.all_eq_false]
  exact ⟨k, List.mem_range.2 hk, by simpa using h⟩
theorem room_true {vs : List Nat} {C : List Nat} {j : JobN} {s : Nat} (h : ∀ k, k < vs.length → (C[8 * k + (vs[k]! - 1)]! &&& shlN (j.ms k) s) = 0) : roomN vs C j s = true := by
  unfold roomN
  rw [List.all_eq_true]
  intro k hk
  simpa using h k (List.mem_range.1 hk)
set_option maxRecDepth 100000 in
set_option maxHeartbeats 2000000 in
theorem room_any (B : Nat) (va : Option Addr) (vl vc gj jl jc : Nat) (o : Value) (vn : List Nat) (js : List JobN) (st : List Int) (C : List Nat) (jb : JobN) (i s : Nat) (W : World) (hjb : jb = js[i]!) (h : SrR W B va vl vc gj jl jc o vn js st C) (hi : i < jl) (hs : s ≤ 30) (hjl : jl ≤ 5) :
    Calls Tryd.prog 56 #[.pointer (some ⟨B, 0, none⟩), .int .i64 (i : Int), .int .i64 (s : Int)] W fun e w' => e = .returned (.bool (roomN vn C jb s)) ∧ Drew W w' := by
  have HR := Lib.hid h
  have hlv : vn.length = vl := by have := h.v.len; rwa [vI_len] at this
  have HLV := Lib.hid hlv
  have hv3 : vl ≤ 3 := by have := h.house.few; omega
  have m0 := h.m.head.1
  have m1 := h.m.head.2.1
  have HJB := Lib.hid hjb
  clear h hlv hjb
  go_enter Tryd.func56, Tryd.ntmps56
  go_wp2
  go_loopg [14] vl (fun gg s14 wr => ∃ k : Nat, s14 = .int .i64 (k : Int) ∧ k ≤ vl ∧ vl - k ≤ gg ∧ Hid (∀ q, q < k → (C[8 * q + (vn[q]! - 1)]! &&& shlN (jb.ms q) s) = 0) ∧ Hid (Drew W wr))
  case atStart => exact ⟨0, rfl, Nat.zero_le _, by omega, Lib.hid (fun q hq => absurd hq (by omega)), Lib.hid (Drew.refl _)⟩
  case round =>
    obtain ⟨k, rfl, hk, hgg, HN, HD⟩ := hrel
    have HRr := Lib.hid (HR.out.keep HD.out.below)
    have m0 := HRr.out.m.head.1
    have m1 := HRr.out.m.head.2.1
    by_cases h1 : k < vl
    · have u0 : (0 : Int) ≤ (k : Int) := by omega
      have u1 : (k : Int) < (vl : Int) := by omega
      have u2 : (k : Int) < 3 := by omega
      have w0 : (0 : Int) ≤ (i : Int) := by omega
      have w1 : (i : Int) < (jl : Int) := by omega
      obtain ⟨b, off, rfl, hc⟩ := HRr.out.v.at (by omega)
      have hci := hc k h1
      rw [vI_get] at hci
      have hv := HRr.out.house.one k (by rw [HLV.out]; exact h1)
      have cj := HRr.out.j.mask (show i < js.length by rw [HRr.out.ljs]; exact hi) (show k < 3 by omega)
      have cc := HRr.out.m.crowd (show 8 * k + (vn[k]! - 1) < 24 by omega)
      obtain ⟨u, hu⟩ : ∃ u, vn[k]! = u + 1 := ⟨vn[k]! - 1, by omega⟩
      have hX : Hid (C[8 * k + (vn[k]! - 1)]! &&& shlN (jb.ms k) s = C[8 * k + u]! &&& shlN (jb.ms k) s) := Lib.hid (by rw [hu, Nat.add_sub_cancel])
      rw [hu] at hci hv cc
      rw [Nat.add_sub_cancel] at cc
      rw [show (((u + 1 : Nat)) : Int) = (u : Int) + 1 from by omega] at hci
      have cc2 : wr.cell? ⟨B, 8 + k * 8 + u, none⟩ = some (.int .u64 ((C[8 * k + u]! : Nat) : Int)) := by rw [← cc]; congr 2; omega
      have t0 : IntKind.i64.wrap ((u : Int) + 1 - 1) = (u : Int) := by rw [show (u : Int) + 1 - 1 = (u : Int) by omega]; exact IntWalk.i64_in _ (by omega)
      have t1 : (0 : Int) ≤ (u : Int) := by omega
      have t2 : (u : Int) < 8 := by omega
      have t3 : (0 : Int) ≤ (s : Int) := by omega
      have t4 : (s : Int) < 64 := by omega
      have hcl := HRr.out.cl (8 * k + u) (by omega)
      clear hc cc hu
      rw [← HJB.out] at cj
      obtain ⟨m, hm⟩ : ∃ m, m = jb.ms k := ⟨_, rfl⟩
      rw [← hm] at cj hX
      have HMM := Lib.hid hm
      clear hm
      generalize C[8 * k + u]! = c at cc2 hX hcl
      have e1 := Lib.hid (and_spell c (shlN m s) hcl (shl_lt m s))
      clear hcl
      by_cases hx : (c &&& shlN m s) = 0
      · have q1 : (bits BinOp.and IntKind.u64 (c : Int) (IntKind.u64.wrap ((m : Int) * 2 ^ s)) != 0) = false := by rw [shl_spell, e1.out, hx]; rfl
        have HX := Lib.hid (show (C[8 * k + (vn[k]! - 1)]! &&& shlN (jb.ms k) s) = 0 from by have := hX.out.trans hx; rw [HMM.out] at this; exact this)
        clear hx
        go_wp2
        go_quiet (fail)
        go_wp2
        go_roundg (vl - (k + 1))
        case measure => omega
        case rel => exact ⟨k + 1, by go_num, by omega, Nat.le_refl _, Lib.hid (fun q hq => by
            rcases Nat.lt_succ_iff_lt_or_eq.1 hq with hq | rfl
            · exact HN.out q hq
            · exact HX.out), Lib.hid (HD.out.more _)⟩
      · have q1 : (bits BinOp.and IntKind.u64 (c : Int) (IntKind.u64.wrap ((m : Int) * 2 ^ s)) != 0) = true := by
          rw [shl_spell, e1.out]
          simp only [bne_iff_ne, ne_eq]
          omega
        have HX := Lib.hid (show ¬ (C[8 * k + (vn[k]! - 1)]! &&& shlN (jb.ms k) s) = 0 from fun h => hx (hX.out.symm.trans (by rw [HMM.out]; exact h)))
        clear hx
        go_wp2
        go_quiet (fail)
        go_wp2
        go_ret
        exact ⟨(congrArg (fun b => Ending.returned (.bool b)) (room_false (by rw [HLV.out]; exact h1) HX.out)).symm, HD.out.more _⟩
    · have u1 : ¬ (k : Int) < (vl : Int) := by omega
      obtain rfl : k = vl := by omega
      go_wp2
      go_ret
      exact ⟨(congrArg (fun b => Ending.returned (.bool b)) (room_true (fun q hq => HN.out q (by rw [HLV.out] at hq; exact hq)))).symm, HD.out⟩
end Go.Proofs.YtbidadkcdchomaaDoor

/- package plan: next, hasRoomForEach. -/
set_option linter.unusedVariables false
set_option linter.unusedSimpArgs false
namespace Go.Proofs.YtbidadkcdchomaaDoor
open Go.RowKit

def nextN (vs C : List Nat) (j : JobN) (f : Nat) : Option Nat := (candsN vs C j).find? fun s => decide (f ≤ s)
def optZ : Option Nat → Int
  | some s => (s : Int)
  | none => -1
theorem next_some {vs C : List Nat} {j : JobN} {f t : Nat} (h : t ∈ candsN vs C j) (h1 : f ≤ t) (h2 : ∀ s ∈ candsN vs C j, f ≤ s → t ≤ s) : nextN vs C j f = some t := by
  unfold nextN
  cases hu : (candsN vs C j).find? fun s => decide (f ≤ s) with
  | none =>
    have := List.find?_eq_none.1 hu t h
    simp at this
    omega
  | some u =>
    obtain ⟨hp, pre, post, hl, has⟩ := List.find?_eq_some_iff_append.1 hu
    have hm : u ∈ candsN vs C j := List.mem_of_find?_eq_some hu
    have hfu : f ≤ u := by simpa using hp
    have hle := h2 u hm hfu
    have hs := cands_sorted vs C j
    rw [hl] at h hs
    rcases List.mem_append.1 h with h3 | h3
    · have := has t h3
      simp at this
      omega
    · rcases List.mem_cons.1 h3 with rfl | h3
      · rfl
      · have := (List.pairwise_cons.1 (List.pairwise_append.1 hs).2.1).1 t h3
        omega
theorem next_none {vs C : List Nat} {j : JobN} {f : Nat} (h : ∀ s ∈ candsN vs C j, ¬ f ≤ s) : nextN vs C j f = none := by
  unfold nextN
  rw [List.find?_eq_none]
  intro s hs
  simpa using h s hs
theorem in_cands {vs C : List Nat} {j : JobN} {s : Nat} : s ∈ candsN vs C j ↔ s < 31 ∧ j.fst ≤ (s : Int) ∧ (s : Int) ≤ j.lst ∧ roomN vs C j s = true := by
  unfold candsN
  rw [List.mem_filter, List.mem_range]
  simp only [Bool.and_eq_true, decide_eq_true_eq]
  constructor
  · rintro ⟨a, ⟨b, c⟩, d⟩; exact ⟨a, b, c, d⟩
  · rintro ⟨a, b, c, d⟩; exact ⟨a, ⟨b, c⟩, d⟩
theorem next_has {vs C : List Nat} {j : JobN} : (nextN vs C j 0 = none) ↔ (candsN vs C j).isEmpty = true := by
  unfold nextN
  rw [List.find?_eq_none]
  cases candsN vs C j with
  | nil => simp
  | cons a l => exact ⟨fun h => absurd (show decide (0 ≤ a) = true by simp) (h a List.mem_cons_self), fun h => by cases h⟩

set_option maxRecDepth 100000 in
set_option maxHeartbeats 2000000 in
theorem next_any (B : Nat) (va : Option Addr) (vl vc gj jl jc : Nat) (o : Value) (vn : List Nat) (js : List JobN) (st : List Int) (C : List Nat) (jb : JobN) (i f r : Nat) (W : World) (hjb : jb = js[i]!) (h : SrR W B va vl vc gj jl jc o vn js st C) (hi : i < jl) (hf : f ≤ 31) (hr : jb.fst = (r : Int)) (hr2 : r ≤ 30) (hl : jb.lst ≤ 30) (hl2 : -1000 ≤ jb.lst) (hjl : jl ≤ 5) :
    Calls Tryd.prog 46 #[.pointer (some ⟨B, 0, none⟩), .int .i64 (i : Int), .int .i64 (f : Int)] W fun e w' => e = .returned (.int .i64 (optZ (nextN vn C jb f))) ∧ Drew W w' := by
  have HR := Lib.hid h
  have HJB := Lib.hid hjb
  have m1 := h.m.head.2.1
  have hj := h.j.at_ i (by rw [h.ljs]; exact hi)
  rw [← hjb] at hj
  have j0 := hj.1
  rw [hr] at j0
  have j1 := hj.2.1
  have w0 : (0 : Int) ≤ (i : Int) := by omega
  have w1 : (i : Int) < (jl : Int) := by omega
  have HF := Lib.hid hr
  obtain ⟨lz, hlz⟩ : ∃ z, z = jb.lst := ⟨_, rfl⟩
  rw [← hlz] at j1 hl hl2
  have HLZ := Lib.hid hlz
  have J1 := Lib.hid j1
  have M1 := Lib.hid m1
  clear h hjb hj hr hlz
  obtain ⟨t0, ht0, hft, hrt, ht31, hmx⟩ : ∃ t0 : Nat, (t0 = max f r) ∧ f ≤ t0 ∧ r ≤ t0 ∧ t0 ≤ 31 ∧ ((f : Int) < (r : Int) ∧ t0 = r ∨ (r : Int) ≤ (f : Int) ∧ t0 = f) := ⟨max f r, rfl, by omega, by omega, by omega, by omega⟩
  have HSt : Hid (∀ s ∈ candsN vn C jb, f ≤ s → t0 ≤ s) := Lib.hid (fun s hs hfs => by
    have := (in_cands.1 hs).2.1
    rw [HF.out] at this
    omega)
  clear ht0
  rcases hmx with ⟨hmx, he⟩ | ⟨hmx, he⟩
  all_goals
    have he2 := he.symm
    clear he
    subst he2
    go_enter Tryd.func46, Tryd.ntmps46
    go_wp2
    go_loopg [7] 40 (fun gg s7 wr => ∃ t : Nat, s7 = .int .i64 (t : Int) ∧ t ≤ 31 ∧ 31 - t ≤ gg ∧ Hid (f ≤ t ∧ r ≤ t ∧ ∀ s ∈ candsN vn C jb, f ≤ s → t ≤ s) ∧ Hid (Drew W wr))
    case atStart => exact ⟨_, rfl, by omega, by omega, Lib.hid ⟨by omega, by omega, HSt.out⟩, Lib.hid (Drew.refl _)⟩
    case round =>
      obtain ⟨t, rfl, ht, hgg, HN, HD⟩ := hrel
      have HRr := Lib.hid (HR.out.keep HD.out.below)
      have j1 := (HD.out.cell _).trans J1.out
      have m1 := (HD.out.cell _).trans M1.out
      by_cases h1 : (t : Int) ≤ lz
      · have h30 : t ≤ 30 := by omega
        cases hrm : roomN vn C jb t with
        | true =>
          have HRM := Lib.hid hrm
          clear hrm
          go_wp2_with (go_at_call 56; refine (room_any B va vl vc gj jl jc o vn js st C jb i t _ HJB.out HRr.out hi h30 hjl).mono ?_; rw [HRM.out]; rintro e w2 ⟨rfl, hd⟩; have HD2 := Lib.hid (HD.out.trans hd); clear hd)
          go_ret
          exact ⟨(congrArg (fun b => Ending.returned (.int .i64 b)) (show optZ (nextN vn C jb f) = (t : Int) by
            rw [next_some (in_cands.2 ⟨by omega, by rw [HF.out]; have := HN.out.2.1; omega, by rw [← HLZ.out]; exact h1, HRM.out⟩) HN.out.1 HN.out.2.2]; rfl)).symm, HD2.out⟩
        | false =>
          have HRM := Lib.hid hrm
          clear hrm
          go_wp2_with (go_at_call 56; refine (room_any B va vl vc gj jl jc o vn js st C jb i t _ HJB.out HRr.out hi h30 hjl).mono ?_; rw [HRM.out]; rintro e w2 ⟨rfl, hd⟩; have HD2 := Lib.hid (HD.out.trans hd); clear hd)
          go_roundg (31 - (t + 1))
          case measure => omega
          case rel => exact ⟨t + 1, by go_num, by omega, Nat.le_refl _, Lib.hid ⟨by have := HN.out.1; omega, by have := HN.out.2.1; omega, fun s hs hfs => by
              have := HN.out.2.2 s hs hfs
              have hne : s ≠ t := fun e => by subst e; have := (in_cands.1 hs).2.2.2; rw [HRM.out] at this; cases this
              omega⟩, HD2⟩
      · have h1' : ¬ (t : Int) ≤ lz := h1
        go_wp2
        go_ret
        exact ⟨(congrArg (fun b => Ending.returned (.int .i64 b)) (show optZ (nextN vn C jb f) = -1 by
            rw [next_none (fun s hs hfs => by have a := HN.out.2.2 s hs hfs; have b := (in_cands.1 hs).2.2.1; rw [← HLZ.out] at b; omega)]; rfl)).symm, HD.out⟩
end Go.Proofs.YtbidadkcdchomaaDoor

/- package plan: hasRoomForEach. -/
set_option linter.unusedVariables false
set_option linter.unusedSimpArgs false
namespace Go.Proofs.YtbidadkcdchomaaDoor
open Go.RowKit

def eachN (vs C : List Nat) (js : List JobN) (o : List Nat) : Bool := o.all fun j => !(candsN vs C js[j]!).isEmpty
theorem each_step {vs C : List Nat} {js : List JobN} {o : List Nat} {k : Nat} (hk : k < o.length) : eachN vs C js (o.drop k) = (!(candsN vs C js[o[k]!]!).isEmpty && eachN vs C js (o.drop (k + 1))) := by
  unfold eachN
  rw [List.drop_eq_getElem_cons hk, List.all_cons, getElem!_pos o k hk]
theorem each_end {vs C : List Nat} {js : List JobN} {o : List Nat} {k : Nat} (hk : o.length ≤ k) : eachN vs C js (o.drop k) = true := by
  unfold eachN
  rw [List.drop_of_length_le hk]; rfl

set_option maxRecDepth 100000 in
set_option maxHeartbeats 2000000 in
theorem each_any (B : Nat) (va : Option Addr) (vl vc gj jl jc : Nat) (oa : Option Addr) (ol oc : Nat) (vn : List Nat) (js : List JobN) (os : List Nat) (st : List Int) (C : List Nat) (k : Nat) (W : World) (h : SrR W B va vl vc gj jl jc (.slice oa ol oc) vn js st C)
    (ho : Il W oa ol (vI os)) (hos : ∀ i, i < os.length → os[i]! < jl) (hol : ol ≤ oc) (hoc : oc ≤ 1000) (hk : k ≤ ol) (hjl : jl ≤ 5) :
    Calls Tryd.prog 48 #[.pointer (some ⟨B, 0, none⟩), .int .i64 (k : Int)] W fun e w' => e = .returned (.bool (eachN vn C js (os.drop k))) ∧ Drew W w' := by
  have HR := Lib.hid h
  have HO := Lib.hid ho
  have HOS := Lib.hid hos
  have hlo : os.length = ol := by have := ho.len; rwa [vI_len] at this
  have HLO := Lib.hid hlo
  have m2 := h.m.head.2.2
  have M2 := Lib.hid m2
  have q0 : (0 : Int) ≤ (k : Int) := by omega
  have q1 : (k : Int) ≤ (ol : Int) := by omega
  have q2 : (ol : Int) ≤ (oc : Int) := by omega
  have q3 : (k : Int) ≤ (oc : Int) := by omega
  clear h ho hos hlo
  by_cases hko : k < ol
  · obtain ⟨n, rfl⟩ : ∃ n, ol = k + n := ⟨ol - k, by omega⟩
    have hne : ¬ oc = k := by omega
    obtain ⟨bo, oo, rfl, hoc2⟩ := HO.out.at (by omega)
    have HOC : Hid (∀ i, i < n → W.cell? ⟨bo, oo + k + i, none⟩ = some (.int .i64 ((os[k + i]! : Nat) : Int))) := Lib.hid (fun i hi => by
      have := hoc2 (k + i) (by omega)
      rw [vI_get] at this
      rw [show oo + k + i = oo + (k + i) by omega]
      exact this)
    clear hoc2
    go_enter Tryd.func48, Tryd.ntmps48
    go_wp2
    go_loopg [14] n (fun gg s14 wr => ∃ i : Nat, s14 = .int .i64 (i : Int) ∧ i ≤ n ∧ n - i ≤ gg ∧ Hid (eachN vn C js (os.drop k) = eachN vn C js (os.drop (k + i))) ∧ Hid (Drew W wr))
    case atStart => exact ⟨0, rfl, Nat.zero_le _, by omega, Lib.hid (by rw [Nat.add_zero]), Lib.hid (Drew.refl _)⟩
    case round =>
      obtain ⟨i, rfl, hi, hgg, HE, HD⟩ := hrel
      by_cases h1 : i < n
      · have u0 : (0 : Int) ≤ (i : Int) := by omega
        have u1 : (i : Int) < (n : Int) := by omega
        have ci := (HD.out.cell _).trans (HOC.out i h1)
        have HRr := Lib.hid (HR.out.keep HD.out.below)
        have hik : k + i < os.length := by rw [HLO.out]; omega
        have hij := HOS.out (k + i) hik
        have HST := Lib.hid (each_step (vs := vn) (C := C) (js := js) hik)
        obtain ⟨x, hx⟩ : ∃ x, x = os[k + i]! := ⟨_, rfl⟩
        rw [← hx] at ci hij HST
        have HX := Lib.hid hx
        obtain ⟨jb, hjb⟩ : ∃ jb, jb = js[x]! := ⟨_, rfl⟩
        rw [← hjb] at HST
        obtain ⟨r, hr1, hr2, hr3, hr4⟩ := HR.out.jok x hij
        rw [← hjb] at hr1 hr3 hr4
        have HN0 := next_any B va vl vc gj jl jc _ vn js st C jb x 0 r wr hjb HRr.out hij (by omega) hr1 hr2 hr3 hr4 hjl
        rw [show ((0 : Nat) : Int) = 0 from rfl] at HN0
        have HJB := Lib.hid hjb
        have HEM := Lib.hid (next_has (vs := vn) (C := C) (j := jb))
        clear hx hjb hr1 hr3 hr4 hik
        cases hn : nextN vn C jb 0 with
        | none =>
          rw [hn] at HN0 HEM
          have HN := Lib.hid HN0
          clear HN0 hn
          go_wp2_with (go_at_call 46; refine HN.out.mono ?_; rintro e w2 ⟨rfl, hd⟩; have HD2 := Lib.hid (HD.out.trans hd); clear hd)
          go_ret
          exact ⟨(congrArg (fun b => Ending.returned (.bool b)) (show eachN vn C js (os.drop k) = false by rw [HE.out, HST.out, HEM.out.1 trivial]; rfl)).symm, HD2.out⟩
        | some s =>
          rw [hn] at HN0 HEM
          have hem : (candsN vn C jb).isEmpty = false := by
            cases h : (candsN vn C jb).isEmpty with
            | false => rfl
            | true => have := HEM.out.2 h; cases this
          have HE2 := Lib.hid hem
          have HN := Lib.hid HN0
          have s0 : decide ((s : Int) < 0) = false := decide_eq_false (by omega)
          have s1 : ¬ (s : Int) < 0 := by omega
          clear HN0 hn hem
          go_wp2_with (go_at_call 46; refine HN.out.mono ?_; rintro e w2 ⟨rfl, hd⟩; have HD2 := Lib.hid (HD.out.trans hd); clear hd)
          go_roundg (n - (i + 1))
          case measure => omega
          case rel => exact ⟨i + 1, by go_num, by omega, Nat.le_refl _, Lib.hid (by rw [HE.out, HST.out, HE2.out]; rfl), HD2⟩
      · have u1 : ¬ (i : Int) < (n : Int) := by omega
        obtain rfl : i = n := by omega
        go_wp2
        go_ret
        exact ⟨(congrArg (fun b => Ending.returned (.bool b)) (show eachN vn C js (os.drop k) = true by rw [HE.out, each_end (by rw [HLO.out]; exact Nat.le_refl _)])).symm, HD.out⟩
  · obtain rfl : k = ol := by omega
    have HEN := Lib.hid (each_end (vs := vn) (C := C) (js := js) (o := os) (k := k) (by rw [HLO.out]; exact Nat.le_refl _))
    rw [HEN.out]
    by_cases hne : oc = k
    · subst hne
      go_enter Tryd.func48, Tryd.ntmps48
      go_wp2
      refine wp_loop_once ?_
      go_wp2
      go_ret
      exact ⟨rfl, Drew.refl _⟩
    · go_enter Tryd.func48, Tryd.ntmps48
      cases oa with
      | none =>
        go_wp2
        refine wp_loop_once ?_
        go_wp2
        go_ret
        exact ⟨rfl, Drew.refl _⟩
      | some a =>
        go_wp2
        refine wp_loop_once ?_
        go_wp2
        go_ret
        exact ⟨rfl, Drew.refl _⟩
end Go.Proofs.YtbidadkcdchomaaDoor
