/- Part 2 of the contracts: PStays, PPlan, PStart. -/
import Derived.Test.YtbidadkcdchomaaDoorPart1

/- package plan: stays. -/
set_option linter.unusedVariables false
set_option linter.unusedSimpArgs false
namespace Go.Proofs.YtbidadkcdchomaaDoor
open Go.RowKit

def OutSt (s : Int) (tm : List Nat) (W : World) (e : Ending) (w' : World) : Prop := e = .returned (.agg (stayV s tm)) ∧ Below W.heap.size W w'
set_option maxRecDepth 100000 in
set_option maxHeartbeats 2000000 in
theorem stays_any (r s : Int) (ta : Option Addr) (tl tc : Nat) (tm : List Nat) (W : World) (hs : Il W ta tl (vI tm)) (hm : ∀ k, k < tm.length → tm[k]! ≤ 30) (hl : tm.length ≤ 3) (h0 : 0 ≤ s) (h1 : s + (tm.sum : Nat) ≤ 9223372036854775807) :
    Calls Tryd.prog 37 #[.agg #[.int .i64 r, .slice ta tl tc], .int .i64 s] W (OutSt s tm W) := by
  obtain ⟨V, hV⟩ : ∃ V, V = ((W.alloc (.cells #[.int .i64 r, .slice ta tl tc] 43)).alloc (.cells #[.int .i64 0, .int .i64 0, .int .i64 0, .int .i64 0, .int .i64 0, .int .i64 0] 73)).alloc (.cells #[.int .i64 0, .int .i64 0, .int .i64 0, .int .i64 0, .int .i64 0, .int .i64 0] 73) := ⟨_, rfl⟩
  have B1 := box_below W (.cells #[.int .i64 r, .slice ta tl tc] 43)
  have HB : Hid (Below W.heap.size W V) := Lib.hid (by
    rw [hV]
    exact (B1.alloc (by rw [size_alloc]; omega) _).alloc (by rw [size_alloc, size_alloc]; omega) _)
  have HS := Lib.hid hs
  have hll : tm.length = tl := by have := hs.len; rwa [vI_len] at this
  have HL := Lib.hid hll
  have HM := Lib.hid hm
  have htl : tl ≤ 3 := by omega
  have q0 : V.cell? ⟨W.heap.size, 0, none⟩ = some (.int .i64 r) := by rw [hV, cell_row (old_row (old_row (new_row W _)))]; rfl
  have q1 : V.cell? ⟨W.heap.size, 1, none⟩ = some (.slice ta tl tc) := by rw [hV, cell_row (old_row (old_row (new_row W _)))]; rfl
  have R1 : Hid (V.heap[W.heap.size + 1]? = some (.cells #[.int .i64 0, .int .i64 0, .int .i64 0, .int .i64 0, .int .i64 0, .int .i64 0] 73 (0, 0))) := Lib.hid (by rw [hV]; exact old_row (new_row1 W _ _))
  have R2 : Hid (V.heap[W.heap.size + 1 + 1]? = some (.cells (stayC s tm 0) 73 (0, 0))) := Lib.hid (by rw [hV, stayC_zero]; exact new_row2 W _ _ _)
  have HZ : Hid (V.heap.size = W.heap.size + 1 + 1 + 1) := Lib.hid (by rw [hV, size_alloc, size_alloc, size_alloc])
  have HV := Lib.hid hV
  have HT := Lib.hid h1
  clear hV B1 hs hm hl hll h1
  go_enter Tryd.func37, Tryd.ntmps37
  go_upto_region 2 with fail
  rw [← HV.out]
  go_wp2
  go_loopg [1, 11] tl (fun gg s1 s11 wr => ∃ k : Nat, k ≤ tl ∧ tl - k ≤ gg ∧ s11 = .int .i64 (k : Int) ∧ s1 = .int .i64 (s + (((tm.take k).sum : Nat) : Int)) ∧ Hid (wr.heap[W.heap.size + 1 + 1]? = some (.cells (stayC s tm k) 73 (0, 0))) ∧ Hid (Below (W.heap.size + 1 + 1) V wr))
  case atStart => exact ⟨0, Nat.zero_le _, by omega, rfl, by simp, R2, Lib.hid (Below.refl _ _)⟩
  case round =>
    obtain ⟨k, hk, hgg, rfl, rfl, HC, HW⟩ := hrel
    have hsum : (tm.take k).sum ≤ tm.sum := by
      conv => rhs; rw [← List.take_append_drop k tm, List.sum_append]
      exact Nat.le_add_right _ _
    by_cases h1 : k < tl
    · have u1 : (k : Int) < (tl : Int) := by omega
      have u0 : (0 : Int) ≤ (k : Int) := by omega
      have hk3 : k < 3 := by omega
      have u3 : (k : Int) < 3 := by omega
      obtain ⟨b, off, rfl, hc⟩ := HS.out.at (by omega)
      have hci := hc k h1
      rw [vI_get] at hci
      have HWW := Lib.hid (HB.out.trans (HW.out.mono (show W.heap.size ≤ W.heap.size + 1 + 1 by omega)))
      have hci2 : wr.cell? ⟨b, off + k, none⟩ = some (.int .i64 ((tm[k]! : Nat) : Int)) := cell_later HWW.out hci
      have hsum2 : (tm.take (k + 1)).sum ≤ tm.sum := by
        conv => rhs; rw [← List.take_append_drop (k + 1) tm, List.sum_append]
        exact Nat.le_add_right _ _
      have e1 := take_sum tm k
      have HX := Lib.hid e1
      have hT := HT.out
      have f0 := free_row HC.out (k * 2)
      have f1 := free_row HC.out (k * 2 + 1)
      have x0 := cell_row HC.out (k * 2)
      have x1 := cell_row HC.out (k * 2 + 1)
      rw [stayC_get _ _ _ _ (by omega)] at x0 x1
      have b0 : 0 ≤ s + (((tm.take k).sum : Nat) : Int) := by omega
      have b1 : s + (((tm.take k).sum : Nat) : Int) + ((tm[k]! : Nat) : Int) ≤ 9223372036854775807 := by omega
      have b2 : 0 ≤ s + (((tm.take k).sum : Nat) : Int) + ((tm[k]! : Nat) : Int) := by omega
      have HY := Lib.hid (show s + (((tm.take k).sum : Nat) : Int) + ((tm[k]! : Nat) : Int) = s + (((tm.take (k + 1)).sum : Nat) : Int) by omega)
      clear hc hci hT e1 hsum hsum2
      generalize tm[k]! = x at hci2 HX b1 b2 HY
      obtain ⟨y, hy⟩ : ∃ y, y = s + (((tm.take k).sum : Nat) : Int) := ⟨_, rfl⟩
      rw [← hy] at b0 b1 b2 HY ⊢
      have HYY := Lib.hid hy
      clear hy
      go_wp2
      go_roundg (tl - (k + 1))
      case measure => omega
      case rel =>
        refine ⟨k + 1, by omega, Nat.le_refl _, by go_num, by rw [HY.out], Lib.hid ?_, Lib.hid ?_⟩
        · exact stay_set wr _ k _ s tm (by rw [HL.out]; exact h1) (by rw [HL.out]; omega) HC.out _ _ HYY.out HY.out
        · exact (HW.out.setCell (p := ⟨W.heap.size + 1 + 1, k * 2, none⟩) (Nat.le_refl _) _).setCell (p := ⟨W.heap.size + 1 + 1, k * 2 + 1, none⟩) (Nat.le_refl _) _
    · have u1 : ¬ (k : Int) < (tl : Int) := by omega
      obtain rfl : k = tl := by omega
      have HC2 := HC.out
      rw [stayC_all _ _ _ (by rw [HL.out]; exact Nat.le_refl _)] at HC2
      have HC3 := Lib.hid HC2
      have R3 := Lib.hid (row_far HW.out (show W.heap.size + 1 < W.heap.size + 1 + 1 by omega) R1.out)
      obtain ⟨p0, p1, p2, p3, p4, p5⟩ := six_cells HC3.out
      obtain ⟨r0, r1, r2, r3, r4, r5⟩ := six_cells R3.out
      have f0 := free_row R3.out 0; have f1 := free_row R3.out 1; have f2 := free_row R3.out 2; have f3 := free_row R3.out 3; have f4 := free_row R3.out 4; have f5 := free_row R3.out 5
      have HBB := Lib.hid (HB.out.trans (HW.out.mono (show W.heap.size ≤ W.heap.size + 1 + 1 by omega)))
      clear HC2 hsum
      go_wp2
      refine bodyPost_ret (v := .agg (stayV s tm)) (results_cell_row Tryd.results37 _ _ (W.heap.size + 1) 73 (stayV s tm) (0, 0) _ rfl (set_six R3.out) Tryd.underlying73 (by kernel_rfl) (by kernel_rfl)) rfl ?_
      exact ⟨rfl, below_set6 _ _ _ _ _ _ HBB.out (by omega)⟩
end Go.Proofs.YtbidadkcdchomaaDoor

/- Regions that draw their order and make blocks. No function of the program is walked here. (By gen_splan.py.) -/
set_option linter.unusedVariables false
namespace Go.Proofs.YtbidadkcdchomaaDoor
open Go.RowKit

/-- Block g is this, and may be written. -/
def Box (w : World) (g T : Nat) (c : Array Value) : Prop := w.heap[g]? = some (.cells c T (0, 0))

theorem Box.new (W : World) (T : Nat) (c : Array Value) : Box (W.alloc (.cells c T)) W.heap.size T c := heap_alloc_new W _

theorem Box.later {W w1 : World} {T : Nat} {c : Array Value} (hb : Below (W.alloc (.cells c T)).heap.size (W.alloc (.cells c T)) w1) : Box w1 W.heap.size T c :=
  (hb.block _ (by simp)).trans (Box.new W T c)

theorem Box.below {w w' : World} {g T B : Nat} {c : Array Value} (h : Box w g T c) (hb : Below B w w') (hg : g < B) : Box w' g T c := (hb.block g hg).trans h

theorem Box.cell {w : World} {g T : Nat} {c : Array Value} (h : Box w g T c) (i : Nat) : w.cell? ⟨g, i, none⟩ = c[i]? := by
  simp only [World.cell?]
  rw [show w.heap[g]? = _ from h]
  rfl

theorem Box.frozen {w : World} {g T : Nat} {c : Array Value} (h : Box w g T c) (i : Nat) : w.frozen? ⟨g, i, none⟩ = false := by
  simp only [World.frozen?]
  rw [show w.heap[g]? = _ from h]
  simp

theorem Box.set {w : World} {g T : Nat} {c : Array Value} (h : Box w g T c) (i : Nat) (u : Value) : Box (w.setCell ⟨g, i, none⟩ u) g T (c.setIfInBounds i u) := by
  unfold Box
  simp only [World.setCell, Array.getElem?_modify]
  rw [show w.heap[g]? = _ from h]
  simp


/-- (of no account here) -/
def isInt (_ : Value) : Bool := false
/-- (of no account here) -/
def noInts (_ : Array Value) : Bool := true

section
variable {P : Program} {ops : Array Oper} {Q : Exit → Act → World → Prop} {md : Region.Mode}

theorem listed_count {L : Array Bool} {i : Nat} (h : L.getD i true = false) : (L.setIfInBounds i true).toList.count false + 1 = L.toList.count false := by
  have hi : i < L.size := by
    rcases Nat.lt_or_ge i L.size with h1 | h1
    · exact h1
    · simp [Array.getElem?_eq_none h1] at h
  have hv : L[i] = false := by simpa [hi] using h
  rw [Array.toList_setIfInBounds, List.count_set (by simpa using hi)]
  have h2 : 0 < L.toList.count false := List.count_pos_iff.2 (by rw [← hv]; exact Array.getElem_mem_toList hi)
  have hv2 : L.toList[i]'(by simpa using hi) = false := by simpa using hv
  rw [hv2]
  rw [if_pos (by rfl), if_neg (by decide)]
  omega

/-- an invariant that each operation keeps, whichever comes up -/
theorem wpAny_inv {Inv : Array Bool → Act → World → Prop}
    (hstep : ∀ (L : Array Bool) (a : Act) (w : World) (i : Nat), L.size = ops.size → Inv L a w → i ∈ Region.ready md ops L → wpOp P ops Q i (fun a' w' => Inv (L.setIfInBounds i true) a' w') a w)
    (hend : ∀ (L : Array Bool) (a : Act) (w : World), L.size = ops.size → Inv L a w → Region.ready md ops L = [] → Q .normal a w) :
    ∀ (fuel : Nat) (L : Array Bool) (a : Act) (w : World), L.size = ops.size → L.toList.count false ≤ fuel → Inv L a w → wpAny P md ops Q fuel L a w := by
  intro fuel
  induction fuel with
  | zero =>
    intro L a w hs hc hi
    have hr : Region.ready md ops L = [] := by
      apply List.eq_nil_iff_forall_not_mem.2
      intro i hm
      have h1 := (mem_ready.1 hm).1
      have := listed_count h1
      omega
    exact ⟨hr, hend L a w hs hi hr⟩
  | succ fuel ih =>
    intro L a w hs hc hi
    refine ⟨fun hr => hend L a w hs hi hr, fun i hm => ?_⟩
    refine wpOp_mono (fun a' w' h' => ih _ a' w' (by simpa using hs) ?_ h') (hstep L a w i hs hi hm)
    have := listed_count (mem_ready.1 hm).1
    omega
end

/-- a is as a0 but for these slots -/
def Agree (slots : List Nat) (a0 a : Act) : Prop := a.tmps.size = a0.tmps.size ∧ a.defers = a0.defers ∧ ∀ k, k ∉ slots → a.tmps[k]? = a0.tmps[k]?

theorem Agree.refl (slots : List Nat) (a : Act) : Agree slots a a := ⟨rfl, rfl, fun _ _ => rfl⟩

theorem Agree.put {slots : List Nat} {a0 a : Act} (h : Agree slots a0 a) {t : Nat} (ht : t ∈ slots) (v : Value) : Agree slots a0 (a.put (some t) v) := by
  refine ⟨by simp [Act.put, h.1], h.2.1, fun k hk => ?_⟩
  have : t ≠ k := fun e => hk (e ▸ ht)
  simp only [Act.put]
  rw [Array.getElem?_setIfInBounds_ne this]
  exact h.2.2 k hk

theorem Agree.eval {slots : List Nat} {a0 a : Act} (h : Agree slots a0 a) {k : Nat} (hk : k ∉ slots) : a.eval (.tmp k) = a0.eval (.tmp k) := by
  simp only [Act.eval, Array.getD_eq_getD_getElem?, h.2.2 k hk]

theorem eval_put_self {a : Act} {t : Nat} (h : t < a.tmps.size) (v : Value) : (a.put (some t) v).eval (.tmp t) = v := by
  simp [Act.eval, Act.put, h]

theorem eval_put_ne {a : Act} {t k : Nat} (h : t ≠ k) (v : Value) : (a.put (some t) v).eval (.tmp k) = a.eval (.tmp k) := by
  simp [Act.eval, Act.put, Array.getElem?_setIfInBounds_ne h]

def puts (a : Act) : List (Nat × Value) → Act
  | [] => a
  | (t, v) :: r => puts (a.put (some t) v) r

theorem puts_defers (l : List (Nat × Value)) : ∀ a : Act, (puts a l).defers = a.defers := by
  induction l with
  | nil => intro a; rfl
  | cons x l ih => intro a; exact ih _

theorem puts_get (f : Nat → Value) (l : List Nat) : ∀ (a : Act) (k : Nat), (puts a (l.map fun t => (t, f t))).tmps[k]? = if k ∈ l ∧ k < a.tmps.size then some (f k) else a.tmps[k]? := by
  induction l with
  | nil => intro a k; simp [puts]
  | cons t l ih =>
    intro a k
    simp only [List.map_cons, puts]
    rw [ih]
    have hs : (a.put (some t) (f t)).tmps.size = a.tmps.size := by simp [Act.put]
    rw [hs]
    by_cases hk : k ∈ l ∧ k < a.tmps.size
    · rw [if_pos hk, if_pos ⟨List.mem_cons_of_mem _ hk.1, hk.2⟩]
    · rw [if_neg hk]
      by_cases ht : t = k
      · subst ht
        by_cases hl : t < a.tmps.size
        · rw [if_pos ⟨List.mem_cons_self, hl⟩]; simp [Act.put, hl]
        · rw [if_neg (fun h => hl h.2)]
          simp only [Act.put]
          rw [Array.getElem?_eq_none (by simp; omega), Array.getElem?_eq_none (by omega)]
      · have : ¬ (k ∈ t :: l ∧ k < a.tmps.size) := by
          rintro ⟨h1, h2⟩
          rcases List.mem_cons.1 h1 with h3 | h3
          · exact ht h3.symm
          · exact hk ⟨h3, h2⟩
        rw [if_neg this]
        simp [Act.put, Array.getElem?_setIfInBounds_ne ht]

/-- the frame written out -/
theorem Agree.form {slots : List Nat} {a0 a : Act} (h : Agree slots a0 a) : a = puts a0 (slots.map fun t => (t, a.eval (.tmp t))) := by
  obtain ⟨ts, ds⟩ := a
  have hd := puts_defers (slots.map fun t => (t, Act.eval ⟨ts, ds⟩ (.tmp t))) a0
  have ht : ts = (puts a0 (slots.map fun t => (t, Act.eval ⟨ts, ds⟩ (.tmp t)))).tmps := by
    apply Array.ext_getElem?
    intro k
    rw [puts_get (fun t => Act.eval ⟨ts, ds⟩ (.tmp t))]
    by_cases hk : k ∈ slots
    · by_cases hl : k < a0.tmps.size
      · rw [if_pos ⟨hk, hl⟩]
        have : k < ts.size := by have := h.1; simp at this; omega
        simp [Act.eval, this]
      · rw [if_neg (fun x => hl x.2)]
        have : ts.size ≤ k := by have := h.1; simp at this; omega
        rw [Array.getElem?_eq_none this, Array.getElem?_eq_none (by omega)]
    · rw [if_neg (fun x => hk x.1)]
      exact h.2.2 k hk
  have h2 := h.2.1
  generalize hp : puts a0 (slots.map fun t => (t, Act.eval ⟨ts, ds⟩ (.tmp t))) = b at *
  obtain ⟨t2, d2⟩ := b
  simp at *
  exact ⟨ht, by rw [h2, hd]⟩

/-- cells are stored one after the other -/
def setFrom (w : World) (g : Nat) (i : Nat) : List Value → World
  | [] => w
  | u :: us => setFrom (w.setCell ⟨g, i, none⟩ u) g (i + 1) us

theorem setFrom_size (g : Nat) (us : List Value) : ∀ (w : World) (i : Nat), (setFrom w g i us).heap.size = w.heap.size := by
  induction us with
  | nil => intro w i; rfl
  | cons u us ih => intro w i; simp only [setFrom]; rw [ih]; simp

theorem setFrom_below {B g : Nat} (hg : B ≤ g) (us : List Value) : ∀ (w0 w : World) (i : Nat), Below B w0 w → Below B w0 (setFrom w g i us) := by
  induction us with
  | nil => intro w0 w i h; exact h
  | cons u us ih => intro w0 w i h; exact ih w0 _ _ (h.setCell hg u)

theorem setFrom_other {g k : Nat} (hk : k ≠ g) (us : List Value) : ∀ (w : World) (i : Nat), (setFrom w g i us).heap[k]? = w.heap[k]? := by
  induction us with
  | nil => intro w i; rfl
  | cons u us ih => intro w i; simp only [setFrom]; rw [ih, Below.heap_setCell _ _ _ _ hk]

theorem setFrom_box {g T : Nat} (us : List Value) : ∀ (w : World) (pre old : List Value), Box w g T (pre ++ old).toArray → old.length = us.length → Box (setFrom w g pre.length us) g T (pre ++ us).toArray := by
  induction us with
  | nil =>
    intro w pre old h hl
    obtain rfl := List.eq_nil_of_length_eq_zero hl
    exact h
  | cons u us ih =>
    intro w pre old h hl
    match old, hl with
    | o :: old, hl =>
      have h2 := h.set pre.length u
      have e : ((pre ++ o :: old).toArray.setIfInBounds pre.length u) = ((pre ++ [u]) ++ old).toArray := by
        apply Array.toList_inj.1
        simp
      rw [e] at h2
      have h3 := ih _ (pre ++ [u]) old h2 (by simpa using hl)
      rw [List.length_append] at h3
      simpa [setFrom] using h3

theorem setFrom_box0 {w : World} {g T : Nat} {z : Array Value} (us : List Value) (h : Box w g T z) (hl : z.size = us.length) : Box (setFrom w g 0 us) g T us.toArray := by
  obtain ⟨z⟩ := z
  exact setFrom_box us w [] z (by simpa using h) (by simpa using hl)

/-- what stays while new blocks are made, and own blocks that begin with an int are written -/
def Stable (base : Nat) (Φ : World → Prop) : Prop :=
  (∀ w w', Φ w → Below w.heap.size w w' → Φ w') ∧ (∀ w g T c us, Φ w → base ≤ g → Box w g T c → noInts c = true → Φ (setFrom w g 0 us))
theorem Stable.setFrom {base : Nat} {Φ : World → Prop} (hs : Stable base Φ) {g T : Nat} (hg : base ≤ g) (us : List Value) (hu : ∀ u ∈ us, isInt u = false) (w : World) (i : Nat) (c : Array Value) (h : Φ w) (hb : Box w g T c) (hc : noInts c = true) : Φ (Go.Proofs.YtbidadkcdchomaaDoor.setFrom w g 0 us) := hs.2 w g T c us h hg hb hc
theorem Stable.and {base : Nat} {Φ Ψ : World → Prop} (h : Stable base Φ) (k : Stable base Ψ) : Stable base (fun w => Φ w ∧ Ψ w) :=
  ⟨fun w w' x hb => ⟨h.1 w w' x.1 hb, k.1 w w' x.2 hb⟩, fun w g T c u x hg hb hc => ⟨h.2 w g T c u x.1 hg hb hc, k.2 w g T c u x.2 hg hb hc⟩⟩
theorem Stable.ex {base : Nat} {α : Sort _} {Φ : α → World → Prop} (h : ∀ x, Stable base (Φ x)) : Stable base (fun w => ∃ x, Φ x w) :=
  ⟨fun w w' ⟨x, hx⟩ hb => ⟨x, (h x).1 w w' hx hb⟩, fun w g T c u ⟨x, hx⟩ hg hb hc => ⟨x, (h x).2 w g T c u hx hg hb hc⟩⟩
theorem Stable.const (base : Nat) (p : Prop) : Stable base (fun _ => p) := ⟨fun _ _ h _ => h, fun _ _ _ _ _ h _ _ _ => h⟩

/-! a plan of such a region -/
inductive Kd where
  | val
  | box (T : Nat) (z : Array Value)
  | put (p s : Nat)

def Kd.isPut : Kd → Bool | .put _ _ => true | _ => false
def Kd.isVal : Kd → Bool | .val => true | _ => false

structure Shape where
  f : Nat → Nat
  kd : Nat → Kd
  need : Nat → List Nat
  st : Nat → Nat
  src : Nat → Nat

/-- what is asked of the operations' own text: by decision -/
def Shape.ok (S : Shape) (ops : Array Oper) (size : Nat) : Bool :=
  (List.range ops.size).all fun i => match ops[i]? with
    | none => false
    | some o => o.guard.isNone && decide (o.dst = if (S.kd i).isPut then none else some (S.f i)) &&
        (o.after.toList.all fun e => !Region.binds .any e || decide (e.on < i)) &&
        ((S.need i).all fun j => !(S.kd j).isPut && o.after.toList.any fun e => Region.binds .any e && decide (e.on = j)) &&
        ((S.kd i).isPut || decide (S.f i < size)) &&
        ((List.range ops.size).all fun j => decide (i = j) || (S.kd i).isPut || (S.kd j).isPut || decide (S.f i ≠ S.f j)) &&
        (match S.kd i with
          | .val => true
          | .box _ z => decide (S.st i < ops.size) && (match S.kd (S.st i) with | .put p s => decide (p = i) && decide (s = S.src i) | _ => false) && (S.need (S.st i)).contains i && (S.need (S.st i)).contains (S.src i) && noInts z
          | .put p s => decide (p < ops.size) && decide (S.st p = i) && decide (S.src p = s) && (S.need i).contains p && (S.need i).contains s && (match S.kd p with | .box _ _ => true | _ => false) && (S.kd s).isVal)

def Shape.slots (S : Shape) (n : Nat) : List Nat := ((List.range n).filter fun i => !(S.kd i).isPut).map S.f

def updV (v : Nat → Value) (i : Nat) (x : Value) : Nat → Value := fun j => if j = i then x else v j

def Shape.vals (S : Shape) (a : Act) : Nat → Value := fun i => a.eval (.tmp (S.f i))

structure Shape.Inv (S : Shape) (n base : Nat) (a0 : Act) (W0 : World) (Φ : Nat → (Nat → Value) → World → Prop) (L : Nat → Prop) (a : Act) (w : World) (blk : Nat → Nat) : Prop where
  agree : Agree (S.slots n) a0 a
  below : Below base W0 w
  hsz : base ≤ w.heap.size
  closed : ∀ i, i < n → L i → ∀ j ∈ S.need i, L j
  vals : ∀ i, i < n → L i → (S.kd i).isVal = true → Φ i (S.vals a) w
  boxes : ∀ i T z, i < n → L i → S.kd i = .box T z → S.vals a i = .pointer (some ⟨blk i, 0, none⟩) ∧ base ≤ blk i ∧
    (¬ L (S.st i) → Box w (blk i) T z) ∧ (L (S.st i) → ∃ us : List Value, S.vals a (S.src i) = .agg us.toArray ∧ us.length = z.size ∧ (∀ u ∈ us, isInt u = false) ∧ Box w (blk i) T us.toArray)
  apart : ∀ i j Ti zi Tj zj, i < n → j < n → L i → L j → S.kd i = .box Ti zi → S.kd j = .box Tj zj → i ≠ j → blk i ≠ blk j

theorem below_undrew {B : Nat} {w w' : World} (h : Below B w.drew w') : Below B w w' := ⟨h.os, h.tape, h.output, h.size, h.block⟩

theorem Box.lt {w : World} {g T : Nat} {c : Array Value} (h : Box w g T c) : g < w.heap.size := (Array.getElem?_eq_some_iff.1 h).1

theorem run_enter {P : Program} {f : FuncId} {fn : Func} {c : Code} (hf : P.funcs[f]? = some fn) (hname : (fn.name == "runtime.NumGoroutine") = false) (hb : fn.body = some c) (args : Array Value) (w : World) :
    (callFunc f args).run P w = .ok (.enter f args) w := by
  have h1 : ¬ fn.name = "runtime.NumGoroutine" := by simpa using hname
  simp [callFunc, hf, h1, hb]

theorem wp_call {P : Program} {Q : Exit → Act → World → Prop} {o : Oper} {a : Act} {w : World} {f : FuncId} {args : Array Value} {φ : Value → World → Prop} {K : Act → World → Prop}
    (hr : (execOp a.eval o).run P w = .ok (.enter f args) w) (hc : Calls P f args w fun e w' => ∃ v, e = .returned v ∧ φ v w' ∧ Below w.heap.size w w')
    (hK : ∀ v w', Below w.heap.size w w' → φ v w' → K (a.put o.dst v) w') : o.wp P a w K Q := by
  unfold Oper.wp
  rw [hr]
  refine hc.mono ?_
  rintro e w' ⟨v, rfl, h1, h2⟩
  exact hK v w' h2 h1

theorem wp_value {P : Program} {Q : Exit → Act → World → Prop} {o : Oper} {a : Act} {w w' : World} {v : Value} {K : Act → World → Prop}
    (hr : (execOp a.eval o).run P w = .ok (.value v) w') (hK : K (a.put o.dst v) w') : o.wp P a w K Q := by
  unfold Oper.wp
  rw [hr]
  exact hK

theorem run_call {P : Program} {o : Oper} {f : FuncId} {fn : Func} {c : Code} {xs : Array Operand} {ts : Array TypeId} (hf : P.funcs[f]? = some fn) (hname : (fn.name == "runtime.NumGoroutine") = false) (hb : fn.body = some c)
    (h : o.op = .call { callee := .value (.func f), args := xs, argTypes := ts }) (a : Act) (w : World) :
    (execOp a.eval o).run P w = .ok (.enter f (xs.map a.eval)) w := by
  unfold execOp
  rw [h]
  simp [go_sem, Act.eval, run_enter hf hname hb]

theorem run_move {P : Program} {o : Oper} {t : Nat} (h : o.op = .move (.tmp t)) (a : Act) (w : World) : (execOp a.eval o).run P w = .ok (.value (a.eval (.tmp t))) w := by
  unfold execOp
  rw [h]
  rfl
theorem run_assign {P : Program} {o : Oper} {t : Nat} (h : o.op = .assign (.tmp t)) (a : Act) (w : World) : (execOp a.eval o).run P w = .ok (.value (a.eval (.tmp t))) w := by
  unfold execOp
  rw [h]
  rfl
theorem run_extract {P : Program} {o : Oper} {t i : Nat} {vs : Array Value} {v : Value} (h : o.op = .extract (.tmp t) i) {a : Act} (he : a.eval (.tmp t) = .tuple vs) (hv : vs[i]? = some v) (w : World) : (execOp a.eval o).run P w = .ok (.value v) w := by
  unfold execOp
  rw [h]
  dsimp only
  rw [he]
  simp [go_sem, Instr.extract, hv]



structure Shape.At (S : Shape) (n size i : Nat) (o : Oper) : Prop where
  guard : o.guard = none
  dst : o.dst = if (S.kd i).isPut then none else some (S.f i)
  back : ∀ e ∈ o.after, Region.binds .any e = true → e.on < i
  need : ∀ j ∈ S.need i, (S.kd j).isPut = false ∧ ∃ e ∈ o.after, Region.binds .any e = true ∧ e.on = j
  slot : (S.kd i).isPut = false → S.f i < size
  inj : ∀ j, j < n → i ≠ j → (S.kd i).isPut = false → (S.kd j).isPut = false → S.f i ≠ S.f j
  box : ∀ T z, S.kd i = .box T z → S.st i < n ∧ S.kd (S.st i) = .put i (S.src i) ∧ i ∈ S.need (S.st i) ∧ S.src i ∈ S.need (S.st i) ∧ noInts z = true
  put : ∀ p s, S.kd i = .put p s → p < n ∧ S.st p = i ∧ S.src p = s ∧ p ∈ S.need i ∧ s ∈ S.need i ∧ (∃ T z, S.kd p = .box T z) ∧ (S.kd s).isVal = true

theorem Shape.ok_at {S : Shape} {ops : Array Oper} {size i : Nat} {o : Oper} (h : S.ok ops size = true) (ho : ops[i]? = some o) : S.At ops.size size i o := by
  have hi : i < ops.size := (Array.getElem?_eq_some_iff.1 ho).1
  have h1 := List.all_eq_true.1 h i (List.mem_range.2 hi)
  simp only [ho] at h1
  rw [Bool.and_eq_true, Bool.and_eq_true, Bool.and_eq_true, Bool.and_eq_true, Bool.and_eq_true, Bool.and_eq_true] at h1
  obtain ⟨⟨⟨⟨⟨⟨g1, g2⟩, g3⟩, g4⟩, g5⟩, g6⟩, g7⟩ := h1
  refine ⟨by simpa using g1, by simpa using g2, fun e he hb => ?_, fun j hj => ?_, fun hp => ?_, fun j hj hne hp hq => ?_, fun T z hk => ?_, fun p s hk => ?_⟩
  · have := List.all_eq_true.1 g3 e (by simpa using he)
    simpa [hb] using this
  · have h2 := List.all_eq_true.1 g4 j hj
    rw [Bool.and_eq_true] at h2
    refine ⟨by simpa using h2.1, ?_⟩
    obtain ⟨e, he, hx⟩ := List.any_eq_true.1 h2.2
    simp at hx
    exact ⟨e, by simpa using he, hx.1, hx.2⟩
  · simpa [hp] using g5
  · have h2 := List.all_eq_true.1 g6 j (List.mem_range.2 hj)
    simpa [hne, hp, hq] using h2
  · simp only [hk] at g7
    rw [Bool.and_eq_true, Bool.and_eq_true, Bool.and_eq_true, Bool.and_eq_true] at g7
    obtain ⟨⟨⟨⟨a1, a2⟩, a3⟩, a4⟩, a5⟩ := g7
    refine ⟨by simpa using a1, ?_, by simpa using a3, by simpa using a4, a5⟩
    cases hst : S.kd (S.st i) with
    | val => rw [hst] at a2; simp at a2
    | box T z => rw [hst] at a2; simp at a2
    | put p s => rw [hst] at a2; simp at a2; rw [a2.1, a2.2]
  · simp only [hk] at g7
    rw [Bool.and_eq_true, Bool.and_eq_true, Bool.and_eq_true, Bool.and_eq_true, Bool.and_eq_true, Bool.and_eq_true] at g7
    obtain ⟨⟨⟨⟨⟨⟨a1, a2⟩, a3⟩, a4⟩, a5⟩, a6⟩, a7⟩ := g7
    refine ⟨by simpa using a1, by simpa using a2, by simpa using a3, by simpa using a4, by simpa using a5, ?_, a7⟩
    cases hp : S.kd p with
    | val => rw [hp] at a6; simp at a6
    | box T z => exact ⟨T, z, rfl⟩
    | put p' s' => rw [hp] at a6; simp at a6

theorem notput_val {k : Kd} (h : k.isVal = true) : k.isPut = false := by cases k <;> simp_all [Kd.isVal, Kd.isPut]

theorem Shape.mem_slots {S : Shape} {n i : Nat} (hi : i < n) (h : (S.kd i).isPut = false) : S.f i ∈ S.slots n :=
  List.mem_map.2 ⟨i, List.mem_filter.2 ⟨List.mem_range.2 hi, by simp [h]⟩, rfl⟩

section
variable {P : Program} {ops : Array Oper} {Q : Exit → Act → World → Prop}

theorem Shape.region {id : Nat} {a0 : Act} {W : World} {base : Nat} (S : Shape) (Φ : Nat → (Nat → Value) → World → Prop) (hm : P.follows .mixedOrders = true) (hok : S.ok ops a0.tmps.size = true)
    (hdep : ∀ i v v' w, i < ops.size → (∀ j, (j = i ∨ j ∈ S.need i) → v j = v' j) → Φ i v w → Φ i v' w)
    (hstab : ∀ i v, i < ops.size → Stable base (Φ i v))
    (hval : ∀ i o, ops[i]? = some o → (S.kd i).isVal = true → ∀ a w, Agree (S.slots ops.size) a0 a → Below base W.drew w → base ≤ w.heap.size →
      (∀ j ∈ S.need i, (S.kd j).isVal = true → Φ j (S.vals a) w) → ∀ K : Act → World → Prop, (∀ v w', Below w.heap.size w w' → Φ i (updV (S.vals a) i v) w' → K (a.put o.dst v) w') → o.wp P a w K Q)
    (hbox : ∀ i o T z, ops[i]? = some o → S.kd i = .box T z → ∀ (a : Act) (w : World), (execOp a.eval o).run P w = .ok (.value (.pointer (some ⟨w.heap.size, 0, none⟩))) (w.alloc (.cells z T)))
    (hput : ∀ i o p s T z, ops[i]? = some o → S.kd i = .put p s → S.kd p = .box T z → ∀ (a : Act) (w : World) (g : Nat), S.vals a p = .pointer (some ⟨g, 0, none⟩) → Φ s (S.vals a) w → Box w g T z →
      ∃ us : List Value, S.vals a s = .agg us.toArray ∧ us.length = z.size ∧ (∀ u ∈ us, isInt u = false) ∧ (execOp a.eval o).run P w = .ok .skip (setFrom w g 0 us))
    (hbase : base = W.heap.size)
    (hend : ∀ a w blk, S.Inv ops.size base a0 W.drew Φ (fun i => i < ops.size) a w blk → Q .normal a w) :
    (Code.region id ops true).wp P Q a0 W := by
  subst hbase
  refine wp_region_any hm (wpAny_inv (md := .any) (Inv := fun L a w => ∃ blk, S.Inv ops.size W.heap.size a0 W.drew Φ (fun i => L.getD i false = true) a w blk) ?step ?fin _ _ _ _ (by simp) (by simp) ⟨fun _ => 0, ?init⟩)
  case init =>
    have h0 : ∀ i, ¬ ((Array.replicate ops.size false).getD i false = true) := by
      intro i h
      rw [Array.getD_eq_getD_getElem?, Array.getElem?_replicate] at h
      split at h <;> simp at h
    exact ⟨Agree.refl _ _, Below.refl _ _, Nat.le_refl _, fun i _ h => absurd h (h0 i), fun i _ h => absurd h (h0 i), fun i T z _ h => absurd h (h0 i), fun i j Ti zi Tj zj _ _ h => absurd h (h0 i)⟩
  case fin =>
    intro L a w hs ⟨blk, hI⟩ hr
    have hall : ∀ i, i < ops.size → L.getD i false = true := by
      intro i
      induction i using Nat.strongRecOn with
      | ind i ih =>
        intro hi
        cases hL : L.getD i false with
        | true => rfl
        | false =>
          exfalso
          have hun : L.getD i true = false := by
            have : i < L.size := by omega
            simpa [this] using hL
          have ho : ops[i]? = some ops[i] := Array.getElem?_eq_getElem hi
          have hA := Shape.ok_at hok ho
          have hm : i ∈ Region.ready .any ops L := mem_ready.2 ⟨hun, _, ho, fun e he hb => by
            have hlt := hA.back e he hb
            exact ih e.on hlt (by omega)⟩
          rw [hr] at hm
          cases hm
    refine hend a w blk ⟨hI.agree, hI.below, hI.hsz, ?_, fun i hi _ => hI.vals i hi (hall i hi), fun i T z hi _ hk => ?_, fun i j Ti zi Tj zj hi hj _ _ => hI.apart i j Ti zi Tj zj hi hj (hall i hi) (hall j hj)⟩
    · intro i hi _ j hj
      have ho : ops[i]? = some ops[i] := Array.getElem?_eq_getElem hi
      have hA := Shape.ok_at hok ho
      obtain ⟨_, e, he, hb, rfl⟩ := hA.need j hj
      have := hA.back e he hb
      show e.on < ops.size
      omega
    · obtain ⟨h1, h2, h3, h4⟩ := hI.boxes i T z hi (hall i hi) hk
      have ho : ops[i]? = some ops[i] := Array.getElem?_eq_getElem hi
      have hst := ((Shape.ok_at hok ho).box T z hk).1
      exact ⟨h1, h2, fun h => absurd hst h, fun _ => h4 (hall _ hst)⟩
  case step =>
    intro L a w i hs ⟨blk, hI⟩ hr
    obtain ⟨hun, o, ho, hafter⟩ := mem_ready.1 hr
    have hi : i < ops.size := (Array.getElem?_eq_some_iff.1 ho).1
    have hiL : i < L.size := by omega
    have hnot : ¬ L.getD i false = true := by
      have : L.getD i false = false := by simpa [hiL] using hun
      rw [this]; decide
    have hA := Shape.ok_at hok ho
    have hneed : ∀ j ∈ S.need i, L.getD j false = true := by
      intro j hj
      obtain ⟨_, e, he, hb, rfl⟩ := hA.need j hj
      exact hafter e he hb
    have hset : ∀ j, (L.setIfInBounds i true).getD j false = true ↔ (j = i ∨ L.getD j false = true) := by
      intro j
      by_cases hj : j = i
      · subst hj; simp [hiL]
      · rw [getD_set_ne false (Ne.symm hj)]; simp [hj]
    have hneedlt : ∀ k, k < ops.size → ∀ j ∈ S.need k, j < ops.size ∧ (S.kd j).isPut = false := by
      intro k hk j hj
      have ho : ops[k]? = some ops[k] := Array.getElem?_eq_getElem hk
      have hA := Shape.ok_at hok ho
      obtain ⟨h1, e, he, hb, rfl⟩ := hA.need j hj
      have := hA.back e he hb
      exact ⟨by omega, h1⟩
    have hclosed : ∀ k, k < ops.size → (L.setIfInBounds i true).getD k false = true → ∀ j ∈ S.need k, (L.setIfInBounds i true).getD j false = true := by
      intro k hk hL j hj
      rw [hset] at hL ⊢
      rcases hL with rfl | hL
      · exact .inr (hneed j hj)
      · exact .inr (hI.closed k hk hL j hj)
    have hw : Region.wanted o (yielded ops a.tmps) = true := by
      unfold Region.wanted
      rw [hA.guard]
    unfold wpOp
    simp only [ho, hw, if_true]
    left
    cases hk : S.kd i with
    | val =>
      have hv : (S.kd i).isVal = true := by rw [hk]; rfl
      have hnp := notput_val hv
      have hdst : o.dst = some (S.f i) := by rw [hA.dst, hnp]; rfl
      refine hval i o ho hv a w hI.agree hI.below hI.hsz (fun j hj hjv => hI.vals j (hneedlt i hi j hj).1 (hneed j hj) hjv) _ fun v w' hb hΦ => ?_
      rw [hdst]
      have hslot := hA.slot hnp
      have hself : S.vals (a.put (some (S.f i)) v) i = v := eval_put_self (by rw [hI.agree.1]; exact hslot) v
      have hother : ∀ j, j < ops.size → j ≠ i → (S.kd j).isPut = false → S.vals (a.put (some (S.f i)) v) j = S.vals a j := fun j hj hne hp => eval_put_ne (hA.inj j hj (Ne.symm hne) hnp hp) v
      have hne_of : ∀ k, k < ops.size → L.getD k false = true → k ≠ i := fun k _ hL e => hnot (e ▸ hL)
      refine ⟨blk, hI.agree.put (Shape.mem_slots hi hnp) v, hI.below.trans (hb.mono hI.hsz), Nat.le_trans hI.hsz hb.size, hclosed, ?_, ?_, ?_⟩
      · intro k hk' hL hkv
        rw [hset] at hL
        by_cases hki : k = i
        · subst hki
          refine hdep k _ _ w' hi (fun j hj => ?_) hΦ
          rcases hj with rfl | hj
          · simp [updV, hself]
          · have hjne : j ≠ k := hne_of j (hneedlt k hi j hj).1 (hneed j hj)
            simp only [updV, if_neg hjne]
            exact (hother j (hneedlt k hi j hj).1 hjne (hneedlt k hi j hj).2).symm
        · have hLk := hL.resolve_left hki
          refine (hstab k _ hk').1 w w' (hdep k (S.vals a) _ w hk' (fun j hj => ?_) (hI.vals k hk' hLk hkv)) hb
          rcases hj with rfl | hj
          · exact (hother j hk' hki (notput_val hkv)).symm
          · exact (hother j (hneedlt k hk' j hj).1 (hne_of j (hneedlt k hk' j hj).1 (hI.closed k hk' hLk j hj)) (hneedlt k hk' j hj).2).symm
      · intro k T z hk' hL hkb
        rw [hset] at hL
        have hki : k ≠ i := fun e => by subst e; rw [hk] at hkb; cases hkb
        have hLk := hL.resolve_left hki
        obtain ⟨h1, h2, h3, h4⟩ := hI.boxes k T z hk' hLk hkb
        have hAk := Shape.ok_at hok (Array.getElem?_eq_getElem hk')
        obtain ⟨s1, s2, s3, s4, s5⟩ := hAk.box T z hkb
        have hsti : S.st k ≠ i := fun e => by rw [e, hk] at s2; cases s2
        have hLst : ((L.setIfInBounds i true).getD (S.st k) false = true) ↔ (L.getD (S.st k) false = true) := by rw [hset]; simp [hsti]
        have hlt : ∀ {c : Array Value}, Box w (blk k) T c → Box w' (blk k) T c := fun hb' => hb'.below hb hb'.lt
        refine ⟨(hother k hk' hki (by rw [hkb]; rfl)).trans h1, h2, fun hn => hlt (h3 (fun x => hn (hLst.2 x))), fun hy => ?_⟩
        obtain ⟨us, u1, u2, u3, u4⟩ := h4 (hLst.1 hy)
        have hsrcL := hI.closed (S.st k) s1 (hLst.1 hy) (S.src k) s4
        refine ⟨us, (hother (S.src k) (hneedlt _ s1 _ s4).1 (hne_of _ (hneedlt _ s1 _ s4).1 hsrcL) (hneedlt _ s1 _ s4).2).trans u1, u2, u3, hlt u4⟩
      · intro k j Tk zk Tj zj hk' hj' hLk hLj hkk hkj hne
        rw [hset] at hLk hLj
        have h1 : k ≠ i := fun e => by subst e; rw [hk] at hkk; cases hkk
        have h2 : j ≠ i := fun e => by subst e; rw [hk] at hkj; cases hkj
        exact hI.apart k j Tk zk Tj zj hk' hj' (hLk.resolve_left h1) (hLj.resolve_left h2) hkk hkj hne
    | box T z =>
      have hnp : (S.kd i).isPut = false := by rw [hk]; rfl
      have hdst : o.dst = some (S.f i) := by rw [hA.dst, hnp]; rfl
      have hslot := hA.slot hnp
      unfold Oper.wp
      rw [hbox i o T z ho hk a w]
      show ∃ blk, _
      rw [hdst]
      have hself : ∀ v, S.vals (a.put (some (S.f i)) v) i = v := fun v => eval_put_self (by rw [hI.agree.1]; exact hslot) v
      have hother : ∀ v j, j < ops.size → j ≠ i → (S.kd j).isPut = false → S.vals (a.put (some (S.f i)) v) j = S.vals a j := fun v j hj hne hp => eval_put_ne (hA.inj j hj (Ne.symm hne) hnp hp) v
      have hne_of : ∀ k, k < ops.size → L.getD k false = true → k ≠ i := fun k _ hL e => hnot (e ▸ hL)
      have hb : Below w.heap.size w (w.alloc (.cells z T)) := (Below.refl _ _).alloc (Nat.le_refl _) _
      obtain ⟨t1, t2, t3, t4, t5⟩ := hA.box T z hk
      refine ⟨fun k => if k = i then w.heap.size else blk k, hI.agree.put (Shape.mem_slots hi hnp) _, hI.below.trans (hb.mono hI.hsz), Nat.le_trans hI.hsz hb.size, hclosed, ?_, ?_, ?_⟩
      · intro k hk' hL hkv
        rw [hset] at hL
        have hki : k ≠ i := fun e => by subst e; rw [hk] at hkv; cases hkv
        have hLk := hL.resolve_left hki
        refine (hstab k _ hk').1 w _ (hdep k (S.vals a) _ w hk' (fun j hj => ?_) (hI.vals k hk' hLk hkv)) hb
        rcases hj with rfl | hj
        · exact (hother _ j hk' hki (notput_val hkv)).symm
        · exact (hother _ j (hneedlt k hk' j hj).1 (hne_of j (hneedlt k hk' j hj).1 (hI.closed k hk' hLk j hj)) (hneedlt k hk' j hj).2).symm
      · intro k T' z' hk' hL hkb
        rw [hset] at hL
        by_cases hki : k = i
        · subst hki
          rw [hk] at hkb
          cases hkb
          refine ⟨by rw [hself]; simp, by simp; exact hI.hsz, fun _ => by simp; exact Box.new w T z, fun hy => ?_⟩
          rw [hset] at hy
          rcases hy with hy | hy
          · rw [hy, hk] at t2; cases t2
          · exact absurd (hI.closed _ t1 hy _ t3) hnot
        · have hLk := hL.resolve_left hki
          obtain ⟨h1, h2, h3, h4⟩ := hI.boxes k T' z' hk' hLk hkb
          have hAk := Shape.ok_at hok (Array.getElem?_eq_getElem hk')
          obtain ⟨s1, s2, s3, s4, s5⟩ := hAk.box T' z' hkb
          have hsti : S.st k ≠ i := fun e => by rw [e, hk] at s2; cases s2
          have hLst : ((L.setIfInBounds i true).getD (S.st k) false = true) ↔ (L.getD (S.st k) false = true) := by rw [hset]; simp [hsti]
          have hlt : ∀ {c : Array Value}, Box w (blk k) T' c → Box (w.alloc (.cells z T)) (blk k) T' c := fun hb' => hb'.below hb hb'.lt
          simp only [if_neg hki]
          refine ⟨(hother _ k hk' hki (by rw [hkb]; rfl)).trans h1, h2, fun hn => hlt (h3 (fun x => hn (hLst.2 x))), fun hy => ?_⟩
          obtain ⟨us, u1, u2, u3, u4⟩ := h4 (hLst.1 hy)
          have hsrcL := hI.closed (S.st k) s1 (hLst.1 hy) (S.src k) s4
          exact ⟨us, (hother _ (S.src k) (hneedlt _ s1 _ s4).1 (hne_of _ (hneedlt _ s1 _ s4).1 hsrcL) (hneedlt _ s1 _ s4).2).trans u1, u2, u3, hlt u4⟩
      · have hltk : ∀ k T' z', k < ops.size → L.getD k false = true → S.kd k = .box T' z' → blk k < w.heap.size := by
          intro k T' z' hk' hLk hkb
          obtain ⟨h1, h2, h3, h4⟩ := hI.boxes k T' z' hk' hLk hkb
          by_cases hst : L.getD (S.st k) false = true
          · obtain ⟨us, _, _, _, u4⟩ := h4 hst
            exact u4.lt
          · exact (h3 hst).lt
        intro k j Tk zk Tj zj hk' hj' hLk hLj hkk hkj hne
        rw [hset] at hLk hLj
        by_cases h1 : k = i
        · have h2 : j ≠ i := fun e => hne (h1.trans e.symm)
          have := hltk j Tj zj hj' (hLj.resolve_left h2) hkj
          simp only [if_pos h1, if_neg h2]; omega
        · by_cases h2 : j = i
          · have := hltk k Tk zk hk' (hLk.resolve_left h1) hkk
            simp only [if_neg h1, if_pos h2]; omega
          · simp only [if_neg h1, if_neg h2]
            exact hI.apart k j Tk zk Tj zj hk' hj' (hLk.resolve_left h1) (hLj.resolve_left h2) hkk hkj hne
    | put p s =>
      have hdst : o.dst = none := by rw [hA.dst, hk]; rfl
      obtain ⟨p1, p2, p3, p4, p5, ⟨T, z, hp⟩, hsv⟩ := hA.put p s hk
      have hLp := hneed p p4
      have hLs := hneed s p5
      obtain ⟨h1, h2, h3, h4⟩ := hI.boxes p T z p1 hLp hp
      have hbx := h3 (by rw [p2]; exact hnot)
      obtain ⟨us, u1, u2, u3, u4⟩ := hput i o p s T z ho hk hp a w (blk p) h1 (hI.vals s (hneedlt i hi s p5).1 hLs hsv) hbx
      unfold Oper.wp
      rw [u4]
      show ∃ blk, _
      rw [hdst]
      have hAp := Shape.ok_at hok (Array.getElem?_eq_getElem p1)
      have hz := (hAp.box T z hp).2.2.2.2
      refine ⟨blk, hI.agree, setFrom_below h2 _ _ _ _ hI.below, by rw [setFrom_size]; exact hI.hsz, hclosed, ?_, ?_, ?_⟩
      · intro k hk' hL hkv
        rw [hset] at hL
        have hki : k ≠ i := fun e => by subst e; rw [hk] at hkv; cases hkv
        exact (hstab k _ hk').setFrom h2 us u3 w 0 z (hI.vals k hk' (hL.resolve_left hki) hkv) hbx hz
      · intro k T' z' hk' hL hkb
        rw [hset] at hL
        have hki : k ≠ i := fun e => by subst e; rw [hk] at hkb; cases hkb
        have hLk := hL.resolve_left hki
        obtain ⟨g1, g2, g3, g4⟩ := hI.boxes k T' z' hk' hLk hkb
        by_cases hkp : k = p
        · subst hkp
          rw [hp] at hkb
          cases hkb
          refine ⟨g1, g2, fun hn => absurd ((hset _).2 (.inl p2)) hn, fun _ => ⟨us, by rw [p3]; exact u1, u2, u3, setFrom_box0 us hbx u2.symm⟩⟩
        · have hAk := Shape.ok_at hok (Array.getElem?_eq_getElem hk')
          obtain ⟨s1, s2, s3, s4, s5⟩ := hAk.box T' z' hkb
          have hsti : S.st k ≠ i := fun e => by rw [e, hk] at s2; cases s2; exact hkp rfl
          have hLst : ((L.setIfInBounds i true).getD (S.st k) false = true) ↔ (L.getD (S.st k) false = true) := by rw [hset]; simp [hsti]
          have hne := hI.apart k p T' z' T z hk' p1 hLk hLp hkb hp hkp
          have hlt : ∀ {c : Array Value}, Box w (blk k) T' c → Box (setFrom w (blk p) 0 us) (blk k) T' c := fun hb' => (setFrom_other hne us w 0).trans hb'
          refine ⟨g1, g2, fun hn => hlt (g3 (fun x => hn (hLst.2 x))), fun hy => ?_⟩
          obtain ⟨vs, v1, v2, v3, v4⟩ := g4 (hLst.1 hy)
          exact ⟨vs, v1, v2, v3, hlt v4⟩
      · intro k j Tk zk Tj zj hk' hj' hLk hLj hkk hkj hne
        rw [hset] at hLk hLj
        have e1 : k ≠ i := fun e => by subst e; rw [hk] at hkk; cases hkk
        have e2 : j ≠ i := fun e => by subst e; rw [hk] at hkj; cases hkj
        exact hI.apart k j Tk zk Tj zj hk' hj' (hLk.resolve_left e1) (hLj.resolve_left e2) hkk hkj hne
end
end Go.Proofs.YtbidadkcdchomaaDoor

/- package plan: isStart, areVessels. -/
set_option linter.unusedVariables false
set_option linter.unusedSimpArgs false
namespace Go.Proofs.YtbidadkcdchomaaDoor
open Go.RowKit

def okStart (b : BN) (z : Int) : Bool := decide ((b.rdy : Int) ≤ z) && decide (z ≤ 9223372036854775807 - (durN b : Int))
set_option maxHeartbeats 1000000 in
theorem isStart_any (b : BN) (ta : Option Addr) (tl tc : Nat) (z : Int) (W : World) (hs : Il W ta tl (vI b.tm)) (hm : ∀ k, k < b.tm.length → b.tm[k]! ≤ 30) (hl : b.tm.length ≤ 3) :
    Calls Tryd.prog 43 #[.agg #[.int .i64 (b.rdy : Int), .slice ta tl tc], .int .i64 z] W fun e w' => e = .returned (.bool (okStart b z)) ∧ Below W.heap.size W w' := by
  have HB := Lib.hid (box_below W (.cells #[.int .i64 (b.rdy : Int), .slice ta tl tc] 43))
  have hd : durN b ≤ 90 := by
    have := sum_le b.tm 30 hm
    have : b.tm.length * 30 ≤ 3 * 30 := Nat.mul_le_mul_right _ hl
    unfold durN; omega
  have HC := Lib.hid (duration_any (b.rdy : Int) ta tl tc b.tm _ (hs.keep HB.out) hm hl)
  have HD := Lib.hid (show (b.tm.sum : Nat) = durN b from rfl)
  rw [HD.out] at HC
  clear HD hs hm hl
  by_cases h1 : (b.rdy : Int) ≤ z
  · by_cases h2 : z ≤ 9223372036854775807 - (durN b : Int)
    · have e : okStart b z = true := by unfold okStart; simp [h1, h2]
      rw [e]
      clear e
      go_enter Tryd.func43, Tryd.ntmps43
      go_wp2_with (go_at_call 36; refine HC.out.mono ?_; rintro e w2 ⟨rfl, hb⟩; have HB2 := Lib.hid (HB.out.trans (hb.mono HB.out.size)); clear hb)
      go_ret
      exact ⟨rfl, HB2.out⟩
    · have e : okStart b z = false := by unfold okStart; simp [h2]
      rw [e]
      clear e
      have q : decide (z ≤ 9223372036854775807 - (durN b : Int)) = false := decide_eq_false h2
      go_enter Tryd.func43, Tryd.ntmps43
      go_wp2_with (go_at_call 36; refine HC.out.mono ?_; rintro e w2 ⟨rfl, hb⟩; have HB2 := Lib.hid (HB.out.trans (hb.mono HB.out.size)); clear hb)
      go_ret
      exact ⟨rfl, HB2.out⟩
  · have e : okStart b z = false := by unfold okStart; simp [h1]
    rw [e]
    clear e
    go_enter Tryd.func43, Tryd.ntmps43
    go_wp2
    go_ret
    exact ⟨rfl, HB.out⟩

def AreV (vs cs : List Int) : Prop := cs.length = vs.length ∧ ∀ k, k < cs.length → 0 ≤ cs[k]?.getD 0 ∧ cs[k]?.getD 0 < vs[k]?.getD 0
set_option maxHeartbeats 1000000 in
theorem areV_any (va : Option Addr) (vl vc : Nat) (ca : Option Addr) (cl cc : Nat) (vs cs : List Int) (W : World) (hv : Il W va vl vs) (hc : Il W ca cl cs) (hcl : cl ≤ 9223372036854775807) (hvl : vl ≤ 9223372036854775807) :
    Calls Tryd.prog 44 #[.slice va vl vc, .slice ca cl cc] W (YesNo (AreV vs cs) W) := by
  have HV := Lib.hid hv
  have HVL := Lib.hid hv.len
  have HC := Lib.hid hc
  have HCL := Lib.hid hc.len
  clear hv hc
  go_enter Tryd.func44, Tryd.ntmps44
  by_cases g1 : cl = vl
  · have q1 : ((cl : Int) != (vl : Int)) = false := by simp; omega
    have HG := Lib.hid g1
    clear g1
    go_wp2
    go_loop [14] (fun t => ∃ i : Nat, i ≤ cl ∧ t = .int .i64 (i : Int) ∧ Hid (∀ k, k < i → 0 ≤ cs[k]?.getD 0 ∧ cs[k]?.getD 0 < vs[k]?.getD 0)) (fun t => cl - (intOf t).toNat)
    case atStart => exact ⟨0, by omega, rfl, Lib.hid fun j hj => absurd hj (by omega)⟩
    case round =>
      obtain ⟨i, hi, rfl, HA⟩ := hrel
      by_cases h1 : i < cl
      · have u1 : (i : Int) < (cl : Int) := by omega
        have u0 : (0 : Int) ≤ (i : Int) := by omega
        have u2 : (i : Int) < (vl : Int) := by have := HG.out; omega
        obtain ⟨b, off, rfl, hc⟩ := HC.out.at (by omega)
        have hci := hc i h1
        obtain ⟨b2, off2, rfl, hv⟩ := HV.out.at (by omega)
        have hvi := hv i (by omega)
        obtain ⟨x, hx⟩ : ∃ x, x = cs[i]?.getD 0 := ⟨_, rfl⟩
        obtain ⟨y, hy⟩ : ∃ y, y = vs[i]?.getD 0 := ⟨_, rfl⟩
        rw [← hx] at hci
        rw [← hy] at hvi
        have HX := Lib.hid hx
        have HY := Lib.hid hy
        clear hc hv hx hy
        by_cases c1 : x < 0
        · go_wp2
          go_ret
          exact ⟨.inr ⟨fun h => by have := h.2 i (by rw [HCL.out]; exact h1); rw [← HX.out] at this; omega, rfl⟩, rfl⟩
        · by_cases c2 : y ≤ x
          · go_wp2
            go_ret
            exact ⟨.inr ⟨fun h => by have := h.2 i (by rw [HCL.out]; exact h1); rw [← HX.out, ← HY.out] at this; omega, rfl⟩, rfl⟩
          · go_wp2
            go_round
            case rel =>
              refine ⟨i + 1, by omega, by go_num, Lib.hid fun j hj => ?_⟩
              rcases Nat.lt_succ_iff_lt_or_eq.1 hj with hj | rfl
              · exact HA.out j hj
              · rw [← HX.out, ← HY.out]; omega
            case measure => simp only [intOf]; omega
      · have u1 : ¬ (i : Int) < (cl : Int) := by omega
        go_wp2
        go_ret
        exact ⟨.inl ⟨⟨by rw [HCL.out, HVL.out]; exact HG.out, fun j hj => HA.out j (by rw [HCL.out] at hj; omega)⟩, rfl⟩, rfl⟩
  · have q1 : ((cl : Int) != (vl : Int)) = true := by simp; omega
    go_wp2
    go_ret
    exact ⟨.inr ⟨fun h => g1 (by rw [← HCL.out, ← HVL.out]; exact h.1), rfl⟩, rfl⟩
end Go.Proofs.YtbidadkcdchomaaDoor
