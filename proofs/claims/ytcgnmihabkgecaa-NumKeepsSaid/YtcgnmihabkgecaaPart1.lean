/- Part 1 of the contracts: Math, Base, Dig1, Shelf, Dig2. -/
import Derived.Lib.Hide
import Derived.WalkKit
import Derived.WalkSpells
import Derived.WalkLawsBesides
import Derived.BigQuiet
import Derived.Deep.QuietTactic
import Derived.Laws.CopyOwn
import Derived.Deep.DeepCutAuto
import Derived.Test.YtcgnmihabkgecaaProg
import Derived.Shelf.Strings.Builder1
import Derived.Shelf.Strings.Builder2
import Derived.Shelf.Small.Bits
import Derived.Shelf.Small.Wraps
import Derived.Shelf.Strings.BuilderF
import Derived.Shelf.Strings.BuilderK
import Derived.Shelf.Strings.Builder2Cap
import Derived.Shelf.Strings.Prefix
import Derived.Shelf.Bits.Mul64
import Derived.Shelf.Strings.Repeat
import Derived.Shelf.Strings.BuilderCap

/- Plain facts on rows of digits: their value to a base, lowest digit first. No program. -/
set_option linter.unusedVariables false
namespace Go.Proofs.Ytcgnmihabkgecaa

def val (B : Nat) : List Nat → Nat
  | [] => 0
  | d :: ds => d + B * val B ds

theorem val_nil (B : Nat) : val B [] = 0 := rfl
theorem val_cons (B d : Nat) (ds : List Nat) : val B (d :: ds) = d + B * val B ds := rfl

def Dig (B : Nat) (xs : List Nat) : Prop := ∀ x ∈ xs, x < B
/-- no zero at the top -/
def Top (xs : List Nat) : Prop := xs ≠ [] → xs.getLastD 0 ≠ 0

theorem val_append (B : Nat) (xs ys : List Nat) : val B (xs ++ ys) = val B xs + B ^ xs.length * val B ys := by
  induction xs with
  | nil => simp [val]
  | cons x xs ih => simp only [List.cons_append, val, ih, List.length_cons, Nat.pow_succ]; grind

theorem val_snoc (B : Nat) (xs : List Nat) (d : Nat) : val B (xs ++ [d]) = val B xs + B ^ xs.length * d := by
  rw [val_append]; simp [val]

theorem Dig.tail {B d : Nat} {ds : List Nat} (h : Dig B (d :: ds)) : Dig B ds := fun x hx => h x (by simp [hx])
theorem Dig.head {B d : Nat} {ds : List Nat} (h : Dig B (d :: ds)) : d < B := h d (by simp)
theorem Dig.nil (B : Nat) : Dig B [] := fun x hx => by simp at hx
theorem Dig.cons {B d : Nat} {ds : List Nat} (h : d < B) (k : Dig B ds) : Dig B (d :: ds) := by
  intro x hx; simp at hx; rcases hx with rfl | hx
  · exact h
  · exact k x hx
theorem Dig.append {B : Nat} {xs ys : List Nat} (h : Dig B xs) (k : Dig B ys) : Dig B (xs ++ ys) := by
  intro x hx; simp at hx; rcases hx with hx | hx
  · exact h x hx
  · exact k x hx
theorem Dig.take {B : Nat} {xs : List Nat} (h : Dig B xs) (n : Nat) : Dig B (xs.take n) := fun x hx => h x (List.mem_of_mem_take hx)
theorem Dig.drop {B : Nat} {xs : List Nat} (h : Dig B xs) (n : Nat) : Dig B (xs.drop n) := fun x hx => h x (List.mem_of_mem_drop hx)
theorem Dig.get {B : Nat} {xs : List Nat} (h : Dig B xs) (hB : 0 < B) (i : Nat) : xs[i]?.getD 0 < B := by
  by_cases hi : i < xs.length
  · rw [List.getElem?_eq_getElem hi]; exact h _ (List.getElem_mem hi)
  · rw [List.getElem?_eq_none (by omega)]; exact hB
theorem Dig.set {B : Nat} {xs : List Nat} (h : Dig B xs) (i : Nat) {d : Nat} (hd : d < B) : Dig B (xs.set i d) := by
  intro x hx
  rcases List.mem_or_eq_of_mem_set hx with hx | rfl
  · exact h x hx
  · exact hd
theorem Dig.replicate {B : Nat} (hB : 0 < B) (n : Nat) : Dig B (List.replicate n 0) := by
  intro x hx; have := List.eq_of_mem_replicate hx; omega

theorem val_lt {B : Nat} (hB : 0 < B) {xs : List Nat} (h : Dig B xs) : val B xs < B ^ xs.length := by
  induction xs with
  | nil => simp [val]
  | cons x xs ih =>
    have := ih h.tail
    have h0 := h.head
    simp only [val, List.length_cons, Nat.pow_succ]
    have : B * (val B xs + 1) ≤ B * B ^ xs.length := Nat.mul_le_mul_left _ this
    rw [Nat.mul_add] at this
    rw [Nat.mul_comm (B ^ xs.length) B]
    omega

theorem val_take_succ (B : Nat) (xs : List Nat) (i : Nat) : val B (xs.take (i + 1)) = val B (xs.take i) + B ^ i * (xs[i]?.getD 0) := by
  by_cases hi : i < xs.length
  · rw [List.take_succ_eq_append_getElem hi, val_snoc, List.getElem?_eq_getElem hi]
    simp [List.length_take, Nat.min_eq_left (Nat.le_of_lt hi)]
  · rw [List.take_of_length_le (by omega), List.take_of_length_le (by omega), List.getElem?_eq_none (by omega)]; simp

theorem val_split (B : Nat) (xs : List Nat) (i : Nat) (hi : i ≤ xs.length) : val B xs = val B (xs.take i) + B ^ i * val B (xs.drop i) := by
  conv => lhs; rw [← List.take_append_drop i xs]
  rw [val_append]; simp [List.length_take, Nat.min_eq_left hi]

theorem val_set (B : Nat) (xs : List Nat) (i d : Nat) (hi : i < xs.length) : val B (xs.set i d) + B ^ i * (xs[i]?.getD 0) = val B xs + B ^ i * d := by
  induction xs generalizing i with
  | nil => simp at hi
  | cons x xs ih =>
    cases i with
    | zero => simp [val]; omega
    | succ i =>
      have := ih i (by simpa using hi)
      simp only [List.set_cons_succ, val, List.getElem?_cons_succ, Nat.pow_succ]
      grind

theorem val_replicate (B n : Nat) : val B (List.replicate n 0) = 0 := by
  induction n with
  | zero => rfl
  | succ n ih => simp [List.replicate_succ, val, ih]

theorem val_append_zero (B : Nat) (xs : List Nat) : val B (xs ++ [0]) = val B xs := by rw [val_snoc]; simp

/-- A top that is not 0: at least B to the power of the length less 1. -/
theorem val_ge {B : Nat} {xs : List Nat} (ht : Top xs) (hne : xs ≠ []) : B ^ (xs.length - 1) ≤ val B xs := by
  have ⟨d, hd⟩ : ∃ d, xs = xs.dropLast ++ [d] := ⟨xs.getLast hne, (List.dropLast_concat_getLast hne).symm⟩
  have hd0 : d ≠ 0 := by
    have := ht hne
    rw [hd] at this
    simpa using this
  rw [hd, val_snoc]
  simp only [List.length_append, List.length_dropLast, List.length_cons, List.length_nil]
  have : B ^ (xs.length - 1) * 1 ≤ B ^ (xs.length - 1) * d := Nat.mul_le_mul_left _ (by omega)
  simp only [Nat.zero_add, Nat.add_sub_cancel]
  omega

theorem Top.tail {x : Nat} {xs : List Nat} (h : Top (x :: xs)) : Top xs := by
  intro hne
  have := h (by simp)
  cases xs with
  | nil => exact absurd rfl hne
  | cons y ys => simpa [List.getLastD] using this

theorem val_pos {B : Nat} (hB : 0 < B) {xs : List Nat} (ht : Top xs) (hne : xs ≠ []) : 0 < val B xs :=
  Nat.lt_of_lt_of_le (Nat.pow_pos hB) (val_ge ht hne)

theorem val_zero_iff {B : Nat} (hB : 0 < B) {xs : List Nat} (ht : Top xs) : val B xs = 0 ↔ xs = [] := by
  constructor
  · intro h
    by_cases hne : xs = []
    · exact hne
    · have := val_pos hB ht hne; omega
  · rintro rfl; rfl

/-- Digits with a top that is not 0 are known by their value. -/
theorem val_inj {B : Nat} (hB : 0 < B) : ∀ {xs ys : List Nat}, Dig B xs → Dig B ys → Top xs → Top ys → val B xs = val B ys → xs = ys
  | [], ys, _, _, _, ty, h => by
    have := (val_zero_iff hB ty).1 (by rw [← h]; rfl)
    exact this.symm
  | x :: xs, [], _, _, tx, _, h => by
    have := (val_zero_iff hB tx).1 (by rw [h]; rfl)
    exact this
  | x :: xs, y :: ys, dx, dy, tx, ty, h => by
    simp only [val] at h
    have hx := dx.head
    have hy := dy.head
    have e : x = y := by
      have h1 := congrArg (· % B) h
      simp only [Nat.add_mul_mod_self_left] at h1
      rwa [Nat.mod_eq_of_lt hx, Nat.mod_eq_of_lt hy] at h1
    subst e
    have e2 : val B xs = val B ys := Nat.eq_of_mul_eq_mul_left hB (by omega)
    rw [val_inj hB dx.tail dy.tail tx.tail ty.tail e2]

theorem len_le_of_lt {B : Nat} (hB : 1 < B) {xs : List Nat} (ht : Top xs) {k : Nat} (h : val B xs < B ^ k) : xs.length ≤ k := by
  by_cases hne : xs = []
  · simp [hne]
  · have h1 := val_ge (B := B) ht hne
    have h2 : B ^ (xs.length - 1) < B ^ k := Nat.lt_of_le_of_lt h1 h
    have := (Nat.pow_lt_pow_iff_right hB).1 h2
    omega

/-- of two rows with tops the longer one is the greater -/
theorem val_lt_of_len {B : Nat} (hB : 0 < B) {xs ys : List Nat} (dx : Dig B xs) (ty : Top ys) (h : xs.length < ys.length) : val B xs < val B ys := by
  have h1 := val_lt hB dx
  have h2 := val_ge (B := B) ty (by intro e; simp [e] at h)
  exact Nat.lt_of_lt_of_le h1 (Nat.le_trans (Nat.pow_le_pow_right hB (by omega)) h2)

/-- the first place from the top at which two rows part decides -/
theorem val_lt_of_part {B : Nat} (hB : 0 < B) {xs ys : List Nat} (hl : xs.length = ys.length) (dx : Dig B xs) {i : Nat} (hi : i < xs.length)
    (hab : xs.drop (i + 1) = ys.drop (i + 1)) (hlt : xs[i]?.getD 0 < ys[i]?.getD 0) : val B xs < val B ys := by
  rw [val_split B xs (i + 1) (by omega), val_split B ys (i + 1) (by omega), hab, val_take_succ, val_take_succ]
  have h1 := val_lt hB (dx.take i)
  rw [List.length_take, Nat.min_eq_left (Nat.le_of_lt hi)] at h1
  have h2 : B ^ i * (xs[i]?.getD 0 + 1) ≤ B ^ i * (ys[i]?.getD 0) := Nat.mul_le_mul_left _ hlt
  rw [Nat.mul_add] at h2
  omega

theorem drop_eq_cons (xs : List Nat) (i : Nat) (hi : i < xs.length) : xs.drop i = xs[i]?.getD 0 :: xs.drop (i + 1) := by
  rw [List.drop_eq_getElem_cons hi, List.getElem?_eq_getElem hi]; rfl

theorem eq_of_drop {xs ys : List Nat} (hl : xs.length = ys.length) (i : Nat) (hi : i < xs.length) (h : xs.drop (i + 1) = ys.drop (i + 1)) (he : xs[i]?.getD 0 = ys[i]?.getD 0) :
    xs.drop i = ys.drop i := by
  rw [drop_eq_cons xs i hi, drop_eq_cons ys i (by omega), h, he]

theorem getD_append_zero (xs : List Nat) (i : Nat) : (xs ++ [0])[i]?.getD 0 = xs[i]?.getD 0 := by
  by_cases hi : i < xs.length
  · rw [List.getElem?_append_left hi]
  · rw [List.getElem?_append_right (by omega), List.getElem?_eq_none (l := xs) (by omega)]
    cases h : i - xs.length with
    | zero => rfl
    | succ n => rfl

theorem Top.nil : Top [] := fun h => absurd rfl h

/-- a row cut at n, all zeros from n on, and not 0 just below -/
theorem top_take {xs : List Nat} {n : Nat} (hn : n ≤ xs.length) (h : n = 0 ∨ xs[n - 1]?.getD 0 ≠ 0) : Top (xs.take n) := by
  intro hne
  rcases h with rfl | h
  · simp at hne
  · have hn0 : 0 < n := by
      rcases Nat.eq_zero_or_pos n with rfl | h0
      · simp at hne
      · exact h0
    have e : xs.take n = xs.take (n - 1) ++ [xs[n - 1]?.getD 0] := by
      have h1 : n - 1 < xs.length := by omega
      conv => lhs; rw [show n = (n - 1) + 1 by omega]
      rw [List.take_succ_eq_append_getElem h1, List.getElem?_eq_getElem h1]; rfl
    rw [e]
    simpa using h

theorem val_take_of_zeros {B : Nat} {xs : List Nat} {n : Nat} (h : ∀ j, n ≤ j → xs[j]?.getD 0 = 0) : val B (xs.take n) = val B xs := by
  have key : ∀ m, val B (xs.take (n + m)) = val B (xs.take n) := by
    intro m
    induction m with
    | zero => rfl
    | succ m ih => rw [← Nat.add_assoc, val_take_succ, h (n + m) (by omega), ih]; simp
  by_cases hn : n ≤ xs.length
  · have := key (xs.length - n)
    rw [show n + (xs.length - n) = xs.length by omega, List.take_of_length_le (Nat.le_refl _)] at this
    exact this.symm
  · rw [List.take_of_length_le (by omega)]

end Go.Proofs.Ytcgnmihabkgecaa

/- Words for memory: a slice that reads as a row of numbers; a block that is known whole. No function of the program is walked here. -/
set_option linter.unusedVariables false
namespace Go.Proofs.Ytcgnmihabkgecaa
open Go.RowKit

/-- The slice (ao, len) reads as the numbers xs. -/
def Sl (k : IntKind) (w : World) (ao : Option Addr) (len : Nat) (xs : List Nat) : Prop :=
  xs.length = len ∧ ∃ b off, (0 < len → ao = some ⟨b, off, none⟩) ∧ ∀ i, i < len → w.cell? ⟨b, off + i, none⟩ = some (.int k ((xs[i]?.getD 0 : Nat) : Int))

/-- The numbers as cells. -/
def cs (k : IntKind) (zs : List Nat) : Array Value := (zs.map fun z => Value.int k ((z : Nat) : Int)).toArray

/-- Block b holds the numbers zs, all of them, and may be written. -/
def Blk (k : IntKind) (w : World) (b : Nat) (e : TypeId) (zs : List Nat) : Prop := w.heap[b]? = some (.cells (cs k zs) e (0, 0))

theorem cs_get (k : IntKind) (zs : List Nat) (i : Nat) (hi : i < zs.length) : (cs k zs)[i]? = some (.int k ((zs[i]?.getD 0 : Nat) : Int)) := by
  simp [cs, List.getElem?_eq_getElem hi]

theorem cs_size (k : IntKind) (zs : List Nat) : (cs k zs).size = zs.length := by simp [cs]

theorem cs_set (k : IntKind) (zs : List Nat) (i x : Nat) : (cs k zs).setIfInBounds i (.int k (x : Int)) = cs k (zs.set i x) := by
  simp [cs, List.map_set]

section
variable {k : IntKind} {w w' : World} {b e : Nat} {zs : List Nat}

theorem Blk.cell (h : Blk k w b e zs) (i : Nat) (hi : i < zs.length) : w.cell? ⟨b, i, none⟩ = some (.int k ((zs[i]?.getD 0 : Nat) : Int)) := by
  simp only [World.cell?]
  rw [show w.heap[b]? = some (.cells (cs k zs) e (0, 0)) from h]
  simp [cs_get k zs i hi]

theorem Blk.frozen (h : Blk k w b e zs) (i : Nat) : w.frozen? ⟨b, i, none⟩ = false := by
  simp only [World.frozen?]
  rw [show w.heap[b]? = some (.cells (cs k zs) e (0, 0)) from h]
  simp

theorem Blk.lt (h : Blk k w b e zs) : b < w.heap.size := (Array.getElem?_eq_some_iff.1 h).1

theorem Blk.of_block (h : Blk k w b e zs) (hb : w'.heap[b]? = w.heap[b]?) : Blk k w' b e zs := hb.trans h

theorem Blk.below {B : Nat} (h : Blk k w b e zs) (hb : Below B w w') (hB : b < B) : Blk k w' b e zs := h.of_block (hb.block b hB)

theorem Blk.grown {row : Option Nat} (h : Blk k w b e zs) (hg : w.grownBy w' row) (hne : some b ≠ row) : Blk k w' b e zs := h.of_block (hg.block b h.lt hne)

theorem Blk.drew (h : Blk k w b e zs) : Blk k w.drew b e zs := h
theorem Blk.drewN (h : Blk k w b e zs) (n : Nat) : Blk k (w.drewN n) b e zs := h

theorem Blk.alloc (h : Blk k w b e zs) (o : Obj) : Blk k (w.alloc o) b e zs := h.of_block (Below.heap_alloc w o b h.lt)

theorem Blk.set (h : Blk k w b e zs) (i x : Nat) (v : Int) (hv : v = (x : Int)) : Blk k (w.setCell ⟨b, i, none⟩ (.int k v)) b e (zs.set i x) := by
  subst hv
  unfold Blk
  simp only [World.setCell, Array.getElem?_modify]
  rw [show w.heap[b]? = some (.cells (cs k zs) e (0, 0)) from h]
  simp [cs_set]

theorem Blk.new (w : World) (k : IntKind) (e : Nat) (zs : List Nat) : Blk k (w.alloc (.cells (cs k zs) e)) w.heap.size e zs := heap_alloc_new w _

theorem Blk.new' (w : World) (k : IntKind) (e : Nat) (zs : List Nat) (c : Array Value) (hc : c = cs k zs) : Blk k (w.alloc (.cells c e)) w.heap.size e zs := by
  subst hc; exact heap_alloc_new w _

/-- A view of a block that is known whole. -/
theorem Blk.sl (h : Blk k w b e zs) (off len : Nat) (hl : off + len ≤ zs.length) : Sl k w (some ⟨b, off, none⟩) len ((zs.drop off).take len) := by
  refine ⟨by simp; omega, b, off, fun _ => rfl, fun i hi => ?_⟩
  rw [h.cell (off + i) (by omega)]
  simp [hi]

theorem Blk.sl0 (h : Blk k w b e zs) (len : Nat) (hl : len ≤ zs.length) : Sl k w (some ⟨b, 0, none⟩) len (zs.take len) := by
  have := h.sl 0 len (by omega)
  simpa using this

theorem Blk.whole (h : Blk k w b e zs) {len : Nat} (hl : zs.length = len) : Sl k w (some ⟨b, 0, none⟩) len zs := by
  have := h.sl0 len (by omega)
  rwa [List.take_of_length_le (by omega)] at this

theorem Sl.nil (k : IntKind) (w : World) (ao : Option Addr) : Sl k w ao 0 [] := ⟨rfl, 0, 0, fun h => by omega, fun i hi => by omega⟩

theorem Sl.len {ao : Option Addr} {len : Nat} {xs : List Nat} (h : Sl k w ao len xs) : xs.length = len := h.1

theorem Sl.keep {ao : Option Addr} {len : Nat} {xs : List Nat} (h : Sl k w ao len xs) (hb : Below w.heap.size w w') : Sl k w' ao len xs := by
  obtain ⟨h1, b, off, h2, h3⟩ := h
  exact ⟨h1, b, off, h2, fun i hi => cell_later hb (h3 i hi)⟩

theorem Sl.drewN {ao : Option Addr} {len : Nat} {xs : List Nat} (h : Sl k w ao len xs) (n : Nat) : Sl k (w.drewN n) ao len xs := h
theorem Sl.drew {ao : Option Addr} {len : Nat} {xs : List Nat} (h : Sl k w ao len xs) : Sl k w.drew ao len xs := h

/-- Kept over writes to one block that is another. -/
theorem Sl.keepBut {ao : Option Addr} {len : Nat} {xs : List Nat} {W : World} (h : Sl k W ao len xs) (hb : Below W.heap.size W w) : Sl k w ao len xs := h.keep hb

end

theorem below_drewN1 {B : Nat} {a w : World} (h : Below B a w) (n : Nat) : Below B a (w.drewN n) := below_drewN h n

/-- Two steps, the second said of what was there behind the first. -/
theorem below_then {w w1 w2 : World} (h : Below w.heap.size w w1) (k : Below w1.heap.size w1 w2) : Below w.heap.size w w2 :=
  h.trans (k.mono h.size)

/-! Laws for make and copy, in these words. -/
theorem wpList_mk {P : Program} {w : World} {ops : Array Oper} {rest : List Oper} {o : Oper} {a : Act} {Q : Exit → Act → World → Prop}
    (hg : o.guard = none) (l : Operand) (t : TypeId) (hop : o.op = Op.makeSlice t l l) (e : TypeId) (k : IntKind) (bytes : Nat)
    (h1 : P.underlying t = some (.slice e)) (h2 : (P.info? e).map (fun i => (i.zero, i.size, i.bytes)) = some (some (.int k 0), 1, bytes))
    (L : Int) (n : Nat) (hl : a.eval l = .int .i64 L) (hL : L = (n : Int)) (b2 : bytes * n ≤ 281474976710656) (b3 : n ≤ 9223372036854775807)
    (hK : ∀ w1, Blk k w1 w.heap.size e (List.replicate n 0) → Below w.heap.size w w1 → w.heap.size < w1.heap.size → wpList P ops Q rest (a.put o.dst (.slice (some ⟨w.heap.size, 0, none⟩) n n)) w1) :
    wpList P ops Q (o :: rest) a w := by
  obtain ⟨i0, hi, hz0, hz1, hz2⟩ := info_parts h2
  refine wpList_plain hg fun K hK' => ?_
  subst hL
  have hb' : (i0.bytes : Int) * (n : Int) ≤ 281474976710656 := by
    have h : ((i0.bytes * n : Nat) : Int) ≤ 281474976710656 := by rw [hz2]; omega
    rwa [Int.natCast_mul] at h
  have hr := run_make (P := P) w t e i0 _ h1 hi hz0 .i64 .i64 n n (by omega) (Int.le_refl _) hb' (by omega)
  simp only [Int.toNat_natCast] at hr
  unfold Oper.wp
  simp [execOp, hop, hl, hr, Result.andThen]
  refine hK' _ _ (hK _ (Blk.new' w k e _ _ ?_) ((Below.refl _ _).alloc (Nat.le_refl _) _) (by simp))
  rw [hz1]
  apply Array.toList_inj.1
  simp [Value.cells, toList_madeCells_one, cs]

theorem wpList_cp {P : Program} {w : World} {ops : Array Oper} {rest : List Oper} {o : Oper} {a : Act} {Q : Exit → Act → World → Prop} (hgd : o.guard = none) (d s : Operand) (dT sT : TypeId)
    (ho : o.op = .call { callee := .builtin .copy, args := #[d, s], argTypes := #[dT, sT] }) (e : TypeId) (k : IntKind) (hu : P.underlying dT = some (.slice e)) (hsz : (P.info? e).map (·.size) = some 1)
    (g dLen dCap : Nat) (sp : Option Addr) (sLen sCap : Nat) (hd : a.eval d = .slice (some ⟨g, 0, none⟩) dLen dCap) (hs : a.eval s = .slice sp sLen sCap)
    (zs xs : List Nat) (hb : Blk k w g e zs) (hx : Sl k w sp sLen xs) (hle : sLen ≤ dLen) (hfit : sLen ≤ zs.length) (B : Nat) (w0 : World) (hbel : Below B w0 w) (hBg : B ≤ g)
    (h : ∀ w1, Blk k w1 g e (xs ++ zs.drop sLen) → Below B w0 w1 → w1.heap.size = w.heap.size → wpList P ops Q rest (a.put o.dst (goInt sLen)) w1) :
    wpList P ops Q (o :: rest) a w := by
  obtain ⟨hl, b, off, h0, hc⟩ := hx
  by_cases h00 : sLen = 0
  · subst h00
    obtain rfl : xs = [] := List.eq_nil_of_length_eq_zero hl
    refine wpList_copy_nothing hgd d s dT sT ho e hu hsz _ sp dLen dCap 0 sCap hd hs (by simp) ?_
    exact h w (by simpa using hb) hbel rfl
  · obtain rfl := h0 (by omega)
    have hl2 : (cs k xs).toList.length = sLen := by simp [cs, hl]
    refine wpList_copy_own hgd d s dT sT ho e hu hsz g 0 dLen dCap ⟨b, off, none⟩ sLen sCap hd hs (cs k zs) e hb (cs k xs).toList (by rw [hl2]; exact (Nat.min_eq_left hle).symm) ?_ (by rw [hl2, cs_size]; omega) ?_ ?_
    · intro j v hv
      have hj : j < sLen := by
        have := (List.getElem?_eq_some_iff.1 hv).1
        omega
      have e1 : ((⟨b, off, none⟩ : Addr).add j) = ⟨b, off + j, none⟩ := by unfold Addr.add; split <;> simp_all
      rw [e1, hc j hj]
      have := cs_get k xs j (by omega)
      rw [← hv]; simpa using this.symm
    · intro v hv
      simp [cs] at hv
      obtain ⟨z, _, rfl⟩ := hv
      rfl
    · rw [hl2]
      refine h _ ?_ (below_setRow hbel hBg _) (by simp)
      show _ = _
      rw [setRow_heap w g _ _ e _ hb]
      congr 2
      apply Array.toList_inj.1
      simp [cs]

def B32 : Nat := 4294967296
theorem B32_eq : B32 = 4294967296 := rfl
theorem B32_pos : 0 < B32 := by decide
theorem B32_gt : 1 < B32 := by decide

/-- The slice is the digits to the base 2^32 of n, without a zero at the top. -/
def N32 (w : World) (ao : Option Addr) (len : Nat) (n : Nat) : Prop := ∃ xs, Sl .u32 w ao len xs ∧ Dig B32 xs ∧ Top xs ∧ val B32 xs = n

theorem N32.keep {w w' : World} {ao : Option Addr} {len n : Nat} (h : N32 w ao len n) (hb : Below w.heap.size w w') : N32 w' ao len n := by
  obtain ⟨xs, h1, h2⟩ := h
  exact ⟨xs, h1.keep hb, h2⟩
theorem N32.drewN {w : World} {ao : Option Addr} {len n : Nat} (h : N32 w ao len n) (m : Nat) : N32 (w.drewN m) ao len n := h
theorem N32.nil (w : World) (ao : Option Addr) : N32 w ao 0 0 := ⟨[], Sl.nil _ _ _, Dig.nil _, Top.nil, rfl⟩
theorem N32.zero {w : World} {ao : Option Addr} {len n : Nat} (h : N32 w ao len n) : n = 0 ↔ len = 0 := by
  obtain ⟨xs, h1, h2, h3, rfl⟩ := h
  rw [val_zero_iff B32_pos h3, ← h1.len, List.length_eq_zero_iff]
theorem N32.lt {w : World} {ao : Option Addr} {len n : Nat} (h : N32 w ao len n) : n < B32 ^ len := by
  obtain ⟨xs, h1, h2, h3, rfl⟩ := h
  have := val_lt B32_pos h2
  rwa [h1.len] at this
theorem N32.len_le {w : World} {ao : Option Addr} {len n k : Nat} (h : N32 w ao len n) (hn : n < B32 ^ k) : len ≤ k := by
  obtain ⟨xs, h1, h2, h3, rfl⟩ := h
  rw [← h1.len]
  exact len_le_of_lt B32_gt h3 hn

theorem ret_slice {a b : Option Addr} {l l' c c' : Nat} (h1 : a = b) (h2 : l = l') (h3 : c = c') : Ending.returned (.slice a l c) = .returned (.slice b l' c') := by
  subst h1 h2 h3; rfl
theorem ret_int {k : IntKind} {a b : Int} (h : a = b) : Ending.returned (.int k a) = .returned (.int k b) := by rw [h]
theorem ret_bool {a b : Bool} (h : a = b) : Ending.returned (.bool a) = .returned (.bool b) := by rw [h]

end Go.Proofs.Ytcgnmihabkgecaa

/- The small functions on digits: digit, trim, duplicate, fromWord, toWord, isOne, isOdd. -/
set_option linter.unusedVariables false
namespace Go.Proofs.Ytcgnmihabkgecaa
open Go.RowKit

set_option maxHeartbeats 400000 in
theorem digit_any (ao : Option Addr) (len cap : Nat) (xs : List Nat) (I : Int) (i : Nat) (w : World) (hs : Sl .u32 w ao len xs) (hI : I = (i : Int)) :
    Calls Try.prog 51 #[.slice ao len cap, .int .i64 I] w fun e w' => e = .returned (.int .u32 ((xs[i]?.getD 0 : Nat) : Int)) ∧ w = w' := by
  subst hI
  obtain ⟨hx, b, off, h0, hc⟩ := hs
  have hX := Lib.hid hx
  clear hx
  by_cases hil : i < len
  · obtain rfl := h0 (by omega)
    have hci := hc i hil
    clear hc h0
    go_enter Try.func51, Try.ntmps51
    go_wp2
    go_ret
    exact ⟨rfl, rfl⟩
  · have hn : xs[i]?.getD 0 = 0 := by rw [List.getElem?_eq_none (by have := hX.out; omega)]; rfl
    rw [hn]
    clear hn h0 hc
    go_enter Try.func51, Try.ntmps51
    go_wp2
    go_ret
    exact ⟨rfl, rfl⟩

/-- digit inside a region that draws its order -/
theorem digit_quiet (ao : Option Addr) (len cap : Nat) (xs : List Nat) (I : Int) (i y n : Nat) (w : World) (hs : Sl .u32 w ao len xs) (hI : I = (i : Int)) (hy : y = xs[i]?.getD 0) :
    Calls Try.prog 51 #[.slice ao len cap, .int .i64 I] (w.drewN n) fun e w'' => e = .returned (.int .u32 (y : Int)) ∧ ∃ m, w'' = w.drewN m :=
  (digit_any ao len cap xs I i (w.drewN n) (hs.drewN n) hI).mono fun e w' ⟨h1, h2⟩ => ⟨by rw [h1, hy], n, h2.symm⟩

def TrimPost (w : World) (ao : Option Addr) (len : Nat) (xs : List Nat) (e : Ending) : Prop :=
  ∃ ao' n, e = .returned (.slice ao' n n) ∧ n ≤ len ∧ (0 < n → ao' = ao) ∧ (n = 0 → ao' = none) ∧ Top (xs.take n) ∧ (∀ j, n ≤ j → xs[j]?.getD 0 = 0)

set_option maxHeartbeats 400000 in
theorem trim_raw (ao : Option Addr) (len cap : Nat) (xs : List Nat) (w : World) (hs : Sl .u32 w ao len xs) (hcap : len ≤ cap) (hl : cap ≤ 9223372036854775807) :
    Calls Try.prog 52 #[.slice ao len cap] w fun e w' => TrimPost w ao len xs e ∧ w = w' := by
  obtain ⟨hx, b, off, h0, hc⟩ := hs
  have hX := Lib.hid hx
  clear hx
  go_enter Try.func52, Try.ntmps52
  go_wp2
  go_loop [3] (fun t => ∃ n : Nat, n ≤ len ∧ t = .int .i64 n ∧ ∀ j, n ≤ j → xs[j]?.getD 0 = 0) (fun t => (intOf t).toNat)
  case atStart => exact ⟨len, Nat.le_refl _, rfl, fun j hj => by rw [List.getElem?_eq_none (by have := hX.out; omega)]; rfl⟩
  case round =>
    obtain ⟨n, hn, rfl, hz⟩ := hrel
    have hZ := Lib.hid hz
    clear hz
    have hX2 := hX.out
    by_cases h1 : n = 0
    · subst h1
      go_wp2
      go_ret
      exact ⟨⟨none, 0, rfl, by omega, fun h => by omega, fun _ => rfl, by simpa using Top.nil, hZ.out⟩, rfl⟩
    · have hlen : 0 < len := by omega
      obtain rfl := h0 hlen
      obtain ⟨m, rfl⟩ : ∃ m, n = m + 1 := ⟨n - 1, by omega⟩
      have hcell := hc m (by omega)
      clear hc h0
      obtain ⟨x, hxe⟩ : ∃ x, x = xs[m]?.getD 0 := ⟨_, rfl⟩
      rw [← hxe] at hcell
      have hE := Lib.hid hxe
      clear hxe hX2
      by_cases hx0 : x = 0
      · subst hx0
        go_wp2
        go_round
        case rel => exact ⟨m, by omega, by go_num, fun j hj => (by
          by_cases hj' : j = m
          · subst hj'; exact hE.out.symm
          · exact hZ.out j (by omega))⟩
        case measure => simp [intOf]
      · have hb : ((x : Int) == 0) = false := by simp; omega
        go_wp2
        go_ret
        exact ⟨⟨_, m + 1, rfl, hn, fun _ => rfl, fun h => by omega, top_take (by have := hX.out; omega) (Or.inr (by have := hE.out; simp only [Nat.add_sub_cancel]; omega)), hZ.out⟩, rfl⟩

/-- What trim hands back reads as the row without the zeros at its top. -/
theorem trim_sl {k : IntKind} {w : World} {ao ao' : Option Addr} {len n : Nat} {xs : List Nat} (h : Sl k w ao len xs) (hn : n ≤ len) (ha : 0 < n → ao' = ao) : Sl k w ao' n (xs.take n) := by
  obtain ⟨h1, b, off, h2, h3⟩ := h
  refine ⟨by simp; omega, b, off, fun h0 => (ha h0).trans (h2 (by omega)), fun i hi => ?_⟩
  rw [h3 i (by omega)]
  simp [hi]

def DupPost (len : Nat) (xs : List Nat) (w : World) (e : Ending) (w' : World) : Prop :=
  (len = 0 ∧ e = .returned (.slice none 0 0) ∧ w = w') ∨
  (0 < len ∧ e = .returned (.slice (some ⟨w.heap.size, 0, none⟩) len len) ∧ Blk .u32 w' w.heap.size 61 xs ∧ Below w.heap.size w w' ∧ w.heap.size < w'.heap.size)

set_option maxHeartbeats 400000 in
theorem duplicate_any (ao : Option Addr) (len cap : Nat) (xs : List Nat) (w : World) (hs : Sl .u32 w ao len xs) (hl : len ≤ 1000000000) :
    Calls Try.prog 29 #[.slice ao len cap] w (DupPost len xs w) := by
  have hX := Lib.hid hs
  have hx := hs.len
  clear hs
  by_cases h0 : len = 0
  · have hb : ((len : Int) == 0) = true := by simp; omega
    have hx2 := Lib.hid hx
    clear hx
    subst h0
    go_enter Try.func29, Try.ntmps29
    go_wp2
    go_ret
    exact .inl ⟨rfl, rfl, rfl⟩
  · have hb : ((len : Int) == 0) = false := by simp; omega
    have hx2 := Lib.hid hx
    clear hx
    go_enter Try.func29, Try.ntmps29
    go_wp2_with (first
      | (at_make; refine wpList_mk rfl _ 25 rfl 61 .u32 4 Try.underlying25 (by kernel_rfl) _ len rfl rfl (by omega) (by omega) ?_; intro w1 hB1 hb1 hz1)
      | ((with_reducible show wpList _ _ _ _ _ _); refine wpList_cp rfl _ _ _ _ rfl 61 .u32 Try.underlying25 (by kernel_rfl) w.heap.size _ _ _ _ _ rfl rfl (List.replicate len 0) xs hB1 (hX.out.keep hb1) (Nat.le_refl _) (by simp) w.heap.size w hb1 (Nat.le_refl _) ?_; intro w2 hB2 hb2 hz2))
    go_ret
    refine .inr ⟨by omega, rfl, ?_, hb2, by omega⟩
    simpa using hB2

end Go.Proofs.Ytcgnmihabkgecaa

/- The contracts that the program calls come to, at the numbers of this program. -/
namespace Go.Proofs
open Go.Shelf
def Try.lays170_ren : Go.Shelf.Ren := ⟨fun | 170 => 76 | n => n, fun | 70 => 102 | 3 => 3 | 0 => 0 | 72 => 104 | 37 => 74 | 5 => 5 | n => n, fun | n => n⟩
theorem Try.lays170 : Go.Proofs.Lays.n170 Try.prog Try.lays170_ren := {
  mixed := by kernel_rfl
  f170 := Try.func76.trans (congrArg some (by kernel_rfl))
  t0 := Try.underlying0
  a0 := Try.isAgg0
  z0 := Try.sizeOf0
  v0 := Try.zeroValue0
  t3 := Try.underlying3
  a3 := Try.isAgg3
  z3 := Try.sizeOf3
  v3 := Try.zeroValue3
  t37 := Try.underlying74
  a37 := Try.isAgg74
  z37 := Try.sizeOf74
  v37 := Try.zeroValue74
  t70 := Try.underlying102
  a70 := Try.isAgg102
  z70 := Try.sizeOf102
  v70 := Try.zeroValue102
  t72 := Try.underlying104
  a72 := Try.isAgg104
  z72 := Try.sizeOf104
  v72 := Try.zeroValue104 }
open Go.RowKit in
theorem Try.Builder_Len (B b : Nat) (bs : List Value) (w : World) (h : Lib.IsBuilder 104 5 B b bs w) :
    Calls Try.prog 76 #[.pointer (some ⟨b, 0, none⟩)] w fun e w' => e = .returned (.int .i64 bs.length) ∧ w' = w := Any.Builder_Len Try.lays170 B b bs w h
def Try.lays169_ren : Go.Shelf.Ren := ⟨fun | 169 => 77 | n => n, fun | 70 => 102 | 9 => 9 | 0 => 0 | 72 => 104 | 37 => 74 | 127 => 120 | 3 => 3 | 5 => 5 | n => n, fun | n => n⟩
theorem Try.lays169 : Go.Proofs.Lays.n169 Try.prog Try.lays169_ren := {
  mixed := by kernel_rfl
  f169 := Try.func77.trans (congrArg some (by kernel_rfl))
  t0 := Try.underlying0
  a0 := Try.isAgg0
  z0 := Try.sizeOf0
  v0 := Try.zeroValue0
  t3 := Try.underlying3
  a3 := Try.isAgg3
  z3 := Try.sizeOf3
  v3 := Try.zeroValue3
  t9 := Try.underlying9
  a9 := Try.isAgg9
  z9 := Try.sizeOf9
  v9 := Try.zeroValue9
  t37 := Try.underlying74
  a37 := Try.isAgg74
  z37 := Try.sizeOf74
  v37 := Try.zeroValue74
  t70 := Try.underlying102
  a70 := Try.isAgg102
  z70 := Try.sizeOf102
  v70 := Try.zeroValue102
  t72 := Try.underlying104
  a72 := Try.isAgg104
  z72 := Try.sizeOf104
  v72 := Try.zeroValue104
  t127 := Try.underlying120
  a127 := Try.isAgg120
  z127 := Try.sizeOf120
  v127 := Try.zeroValue120 }
theorem Try.Builder_Extra_169 : Builder.Extra Try.prog Try.lays169_ren := {
  sizeBuilder := by kernel_rfl
  liesBuilder := by kernel_rfl
  t5 := Try.underlying5
  a5 := Try.isAgg5
  z5 := Try.sizeOf5
  v5 := Try.zeroValue5
  infoByte := by kernel_rfl
  cellsByte := by kernel_rfl
  sizeByte := by kernel_rfl
  neB5 := by decide }
open Go.RowKit in
theorem Try.Builder_String (B b : Nat) (l : List UInt8) (w : World) (h : Lib.IsBuilder 104 5 B b (Lib.byteCells l) w) (h0 : l ≠ []) :
    Calls Try.prog 77 #[.pointer (some ⟨b, 0, none⟩)] w fun e w' => e = .returned (.string ⟨l.toArray⟩) ∧ Below B w w' := Any.Builder_String Try.lays169 Try.Builder_Extra_169 B b l w h h0
open Go.RowKit in
theorem Try.Builder_String_empty (B b : Nat) (w : World) (h : Lib.IsBuilder 104 5 B b [] w) (hBw : B ≤ w.heap.size) :
    Calls Try.prog 77 #[.pointer (some ⟨b, 0, none⟩)] w fun e w' => e = .returned (.string ⟨#[]⟩) ∧ Below B w w' := Any.Builder_String_empty Try.lays169 Try.Builder_Extra_169 B b w h hBw
open Go.RowKit in
theorem Try.Builder_String_any (B b : Nat) (l : List UInt8) (w : World) (h : Lib.IsBuilder 104 5 B b (Lib.byteCells l) w) (hBw : B ≤ w.heap.size) :
    Calls Try.prog 77 #[.pointer (some ⟨b, 0, none⟩)] w fun e w' => e = .returned (.string ⟨l.toArray⟩) ∧ Below B w w' := Any.Builder_String_any Try.lays169 Try.Builder_Extra_169 B b l w h hBw
def Try.lays241_ren : Go.Shelf.Ren := ⟨fun | 241 => 88 | 277 => 93 | n => n, fun | 70 => 102 | 3 => 3 | 0 => 0 | 72 => 104 | 37 => 74 | 5 => 5 | n => n, fun | n => n⟩
theorem Try.lays241 : Go.Proofs.Lays.n241 Try.prog Try.lays241_ren := {
  mixed := by kernel_rfl
  f241 := Try.func88.trans (congrArg some (by kernel_rfl))
  f277 := Try.func93.trans (congrArg some (by kernel_rfl))
  t0 := Try.underlying0
  a0 := Try.isAgg0
  z0 := Try.sizeOf0
  v0 := Try.zeroValue0
  t3 := Try.underlying3
  a3 := Try.isAgg3
  z3 := Try.sizeOf3
  v3 := Try.zeroValue3
  t37 := Try.underlying74
  a37 := Try.isAgg74
  z37 := Try.sizeOf74
  v37 := Try.zeroValue74
  t70 := Try.underlying102
  a70 := Try.isAgg102
  z70 := Try.sizeOf102
  v70 := Try.zeroValue102
  t72 := Try.underlying104
  a72 := Try.isAgg104
  z72 := Try.sizeOf104
  v72 := Try.zeroValue104 }
theorem Try.Builder_Extra_241 : Builder.Extra Try.prog Try.lays241_ren := {
  sizeBuilder := by kernel_rfl
  liesBuilder := by kernel_rfl
  t5 := Try.underlying5
  a5 := Try.isAgg5
  z5 := Try.sizeOf5
  v5 := Try.zeroValue5
  infoByte := by kernel_rfl
  cellsByte := by kernel_rfl
  sizeByte := by kernel_rfl
  neB5 := by decide }
open Go.RowKit in
theorem Try.Builder_grow_fresh (B b n : Nat) (w : World) (hB : B ≤ b) (hbk : w.heap[b]? = some (.cells #[.pointer (some ⟨b, 0, none⟩), .slice none 0 0] 104 (0, 0))) (hBw : B ≤ w.heap.size) (hn : n ≤ 281474976710656) :
    Calls Try.prog 88 #[.pointer (some ⟨b, 0, none⟩), .int .i64 n] w fun e w' => e = .returned (.tuple #[]) ∧ (Lib.BuilderAt 104 5 B b (.pointer (some ⟨b, 0, none⟩)) [] w' ∧ Below B w w') := Any.Builder_grow_fresh Try.lays241 Try.Builder_Extra_241 B b n w hB hbk hBw hn
def Try.lays165_ren : Go.Shelf.Ren := ⟨fun | 165 => 74 | 240 => 87 | 241 => 88 | 276 => 92 | 277 => 93 | n => n, fun | 70 => 102 | 3 => 3 | 0 => 0 | 4 => 4 | 9 => 9 | 20 => 20 | 72 => 104 | 37 => 74 | 164 => 121 | 5 => 5 | n => n, fun | n => n⟩
theorem Try.lays165 : Go.Proofs.Lays.n165 Try.prog Try.lays165_ren := {
  mixed := by kernel_rfl
  f165 := Try.func74.trans (congrArg some (by kernel_rfl))
  f240 := Try.func87.trans (congrArg some (by kernel_rfl))
  f241 := Try.func88.trans (congrArg some (by kernel_rfl))
  f276 := Try.func92.trans (congrArg some (by kernel_rfl))
  f277 := Try.func93.trans (congrArg some (by kernel_rfl))
  t0 := Try.underlying0
  a0 := Try.isAgg0
  z0 := Try.sizeOf0
  v0 := Try.zeroValue0
  t3 := Try.underlying3
  a3 := Try.isAgg3
  z3 := Try.sizeOf3
  v3 := Try.zeroValue3
  t4 := Try.underlying4
  a4 := Try.isAgg4
  z4 := Try.sizeOf4
  v4 := Try.zeroValue4
  t9 := Try.underlying9
  a9 := Try.isAgg9
  z9 := Try.sizeOf9
  v9 := Try.zeroValue9
  t20 := Try.underlying20
  a20 := Try.isAgg20
  z20 := Try.sizeOf20
  v20 := Try.zeroValue20
  t37 := Try.underlying74
  a37 := Try.isAgg74
  z37 := Try.sizeOf74
  v37 := Try.zeroValue74
  t70 := Try.underlying102
  a70 := Try.isAgg102
  z70 := Try.sizeOf102
  v70 := Try.zeroValue102
  t72 := Try.underlying104
  a72 := Try.isAgg104
  z72 := Try.sizeOf104
  v72 := Try.zeroValue104
  t164 := Try.underlying121
  a164 := Try.isAgg121
  z164 := Try.sizeOf121
  v164 := Try.zeroValue121 }
theorem Try.Builder_Extra_165 : Builder.Extra Try.prog Try.lays165_ren := {
  sizeBuilder := by kernel_rfl
  liesBuilder := by kernel_rfl
  t5 := Try.underlying5
  a5 := Try.isAgg5
  z5 := Try.sizeOf5
  v5 := Try.zeroValue5
  infoByte := by kernel_rfl
  cellsByte := by kernel_rfl
  sizeByte := by kernel_rfl
  neB5 := by decide }
open Go.RowKit in
theorem Try.Builder_Grow_fresh (B b n : Nat) (w : World) (hB : B ≤ b) (hbk : w.heap[b]? = some (.cells #[.pointer none, .slice none 0 0] 104 (0, 0))) (hBw : B ≤ w.heap.size) (hn : n ≤ 281474976710656) :
    Calls Try.prog 74 #[.pointer (some ⟨b, 0, none⟩), .int .i64 n] w fun e w' => e = .returned (.tuple #[]) ∧ (Lib.BuilderAt 104 5 B b (.pointer (some ⟨b, 0, none⟩)) [] w' ∧ Below B w w') := Any.Builder_Grow_fresh Try.lays165 Try.Builder_Extra_165 B b n w hB hbk hBw hn
def Try.lays128_ren : Go.Shelf.Ren := ⟨fun | 128 => 83 | n => n, fun | 51 => 61 | 3 => 3 | 4 => 4 | 46 => 81 | 5 => 5 | 9 => 9 | n => n, fun | n => n⟩
theorem Try.lays128 : Go.Proofs.Lays.n128 Try.prog Try.lays128_ren := {
  mixed := by kernel_rfl
  f128 := Try.func83.trans (congrArg some (by kernel_rfl))
  t3 := Try.underlying3
  a3 := Try.isAgg3
  z3 := Try.sizeOf3
  v3 := Try.zeroValue3
  t4 := Try.underlying4
  a4 := Try.isAgg4
  z4 := Try.sizeOf4
  v4 := Try.zeroValue4
  t5 := Try.underlying5
  a5 := Try.isAgg5
  z5 := Try.sizeOf5
  v5 := Try.zeroValue5
  t9 := Try.underlying9
  a9 := Try.isAgg9
  z9 := Try.sizeOf9
  v9 := Try.zeroValue9
  t46 := Try.underlying81
  a46 := Try.isAgg81
  z46 := Try.sizeOf81
  v46 := Try.zeroValue81
  t51 := Try.underlying61
  a51 := Try.isAgg61
  z51 := Try.sizeOf61
  v51 := Try.zeroValue61 }
theorem Try.bits_Len32 (x : Int) (w : World) (h0 : 0 ≤ x) (h1 : x ≤ 4294967295) :
    Calls Try.prog 83 #[.int .u32 x] w fun e w' => e = .returned (.int .i64 (Lib.bitLen x.toNat)) ∧ w' = w := Any.bits_Len32 Try.lays128 x w h0 h1
def Try.lays133_ren : Go.Shelf.Ren := ⟨fun | 133 => 67 | 128 => 83 | n => n, fun | 51 => 61 | 3 => 3 | 4 => 4 | 46 => 81 | 5 => 5 | 9 => 9 | n => n, fun | n => n⟩
theorem Try.lays133 : Go.Proofs.Lays.n133 Try.prog Try.lays133_ren := {
  mixed := by kernel_rfl
  f128 := Try.func83.trans (congrArg some (by kernel_rfl))
  f133 := Try.func67.trans (congrArg some (by kernel_rfl))
  t3 := Try.underlying3
  a3 := Try.isAgg3
  z3 := Try.sizeOf3
  v3 := Try.zeroValue3
  t4 := Try.underlying4
  a4 := Try.isAgg4
  z4 := Try.sizeOf4
  v4 := Try.zeroValue4
  t5 := Try.underlying5
  a5 := Try.isAgg5
  z5 := Try.sizeOf5
  v5 := Try.zeroValue5
  t9 := Try.underlying9
  a9 := Try.isAgg9
  z9 := Try.sizeOf9
  v9 := Try.zeroValue9
  t46 := Try.underlying81
  a46 := Try.isAgg81
  z46 := Try.sizeOf81
  v46 := Try.zeroValue81
  t51 := Try.underlying61
  a51 := Try.isAgg61
  z51 := Try.sizeOf61
  v51 := Try.zeroValue61 }
theorem Try.bits_LeadingZeros32 (x : Int) (w : World) (h0 : 0 ≤ x) (h1 : x ≤ 4294967295) :
    Calls Try.prog 67 #[.int .u32 x] w fun e w' => e = .returned (.int .i64 (32 - (Lib.bitLen x.toNat : Int))) ∧ w' = w := Any.bits_LeadingZeros32 Try.lays133 x w h0 h1
def Try.lays210_ren : Go.Shelf.Ren := ⟨fun | 210 => 91 | 206 => 86 | n => n, fun | 9 => 9 | 4 => 4 | 3 => 3 | n => n, fun | n => n⟩
theorem Try.lays210 : Go.Proofs.Lays.n210 Try.prog Try.lays210_ren := {
  mixed := by kernel_rfl
  f206 := Try.func86.trans (congrArg some (by kernel_rfl))
  f210 := Try.func91.trans (congrArg some (by kernel_rfl))
  t3 := Try.underlying3
  a3 := Try.isAgg3
  z3 := Try.sizeOf3
  v3 := Try.zeroValue3
  t4 := Try.underlying4
  a4 := Try.isAgg4
  z4 := Try.sizeOf4
  v4 := Try.zeroValue4
  t9 := Try.underlying9
  a9 := Try.isAgg9
  z9 := Try.sizeOf9
  v9 := Try.zeroValue9 }
open Go.RowKit in
theorem Try.stringslite_CutPrefix (s p : ByteArray) (w : World) :
    Calls Try.prog 91 #[.string s, .string p] w fun e w' => e = .returned (.tuple #[.string ⟨(Lib.trimPrefix s.data.toList p.data.toList).toArray⟩, .bool (Lib.hasPrefix s.data.toList p.data.toList)]) ∧ w' = w := Any.stringslite_CutPrefix Try.lays210 s p w
def Try.lays103_ren : Go.Shelf.Ren := ⟨fun | 103 => 80 | 210 => 91 | 206 => 86 | n => n, fun | 9 => 9 | 4 => 4 | 24 => 111 | 3 => 3 | n => n, fun | n => n⟩
theorem Try.lays103 : Go.Proofs.Lays.n103 Try.prog Try.lays103_ren := {
  mixed := by kernel_rfl
  f103 := Try.func80.trans (congrArg some (by kernel_rfl))
  f206 := Try.func86.trans (congrArg some (by kernel_rfl))
  f210 := Try.func91.trans (congrArg some (by kernel_rfl))
  t3 := Try.underlying3
  a3 := Try.isAgg3
  z3 := Try.sizeOf3
  v3 := Try.zeroValue3
  t4 := Try.underlying4
  a4 := Try.isAgg4
  z4 := Try.sizeOf4
  v4 := Try.zeroValue4
  t9 := Try.underlying9
  a9 := Try.isAgg9
  z9 := Try.sizeOf9
  v9 := Try.zeroValue9
  t24 := Try.underlying111
  a24 := Try.isAgg111
  z24 := Try.sizeOf111
  v24 := Try.zeroValue111 }
open Go.RowKit in
theorem Try.strings_CutPrefix (s p : ByteArray) (w : World) :
    Calls Try.prog 80 #[.string s, .string p] w fun e w' => e = .returned (.tuple #[.string ⟨(Lib.trimPrefix s.data.toList p.data.toList).toArray⟩, .bool (Lib.hasPrefix s.data.toList p.data.toList)]) ∧ w' = w := Any.strings_CutPrefix Try.lays103 s p w
open Go.RowKit in
theorem Try.Builder_Len_f (B b : Nat) (bs : List Value) (w : World) (h : Lib.IsBuilderF 104 5 B b bs w) :
    Calls Try.prog 76 #[.pointer (some ⟨b, 0, none⟩)] w fun e w' => e = .returned (.int .i64 bs.length) ∧ w' = w := Any.Builder_Len_f Try.lays170 B b bs w h
open Go.RowKit in
theorem Try.Builder_String_f (B b : Nat) (l : List UInt8) (w : World) (h : Lib.IsBuilderF 104 5 B b (Lib.byteCells l) w) (h0 : l ≠ []) :
    Calls Try.prog 77 #[.pointer (some ⟨b, 0, none⟩)] w fun e w' => e = .returned (.string ⟨l.toArray⟩) ∧ (Lib.IsBuilderF 104 5 B b (Lib.byteCells l) w' ∧ Below B w w') := Any.Builder_String_f Try.lays169 Try.Builder_Extra_169 B b l w h h0
open Go.RowKit in
theorem Try.Builder_String_empty_f (B b : Nat) (w : World) (h : Lib.IsBuilderF 104 5 B b [] w) (hBw : B ≤ w.heap.size) :
    Calls Try.prog 77 #[.pointer (some ⟨b, 0, none⟩)] w fun e w' => e = .returned (.string ⟨#[]⟩) ∧ (Lib.IsBuilderF 104 5 B b [] w' ∧ Below B w w') := Any.Builder_String_empty_f Try.lays169 Try.Builder_Extra_169 B b w h hBw
open Go.RowKit in
theorem Try.Builder_String_any_f (B b : Nat) (l : List UInt8) (w : World) (h : Lib.IsBuilderF 104 5 B b (Lib.byteCells l) w) (hBw : B ≤ w.heap.size) :
    Calls Try.prog 77 #[.pointer (some ⟨b, 0, none⟩)] w fun e w' => e = .returned (.string ⟨l.toArray⟩) ∧ (Lib.IsBuilderF 104 5 B b (Lib.byteCells l) w' ∧ Below B w w') := Any.Builder_String_any_f Try.lays169 Try.Builder_Extra_169 B b l w h hBw
open Go.RowKit in
theorem Try.Builder_String_k (B b : Nat) (l : List UInt8) (w : World) (h : Lib.IsBuilderF 104 5 B b (Lib.byteCells l) w) (h0 : l ≠ []) :
    Calls Try.prog 77 #[.pointer (some ⟨b, 0, none⟩)] w fun e w' => e = .returned (.string ⟨l.toArray⟩) ∧ (Lib.IsBuilderF 104 5 B b (Lib.byteCells l) w' ∧ Below B w w' ∧ Lib.OthersKept 5 (some b) w w') := Any.Builder_String_k Try.lays169 Try.Builder_Extra_169 B b l w h h0
open Go.RowKit in
theorem Try.Builder_String_empty_k (B b : Nat) (w : World) (h : Lib.IsBuilderF 104 5 B b [] w) (hBw : B ≤ w.heap.size) :
    Calls Try.prog 77 #[.pointer (some ⟨b, 0, none⟩)] w fun e w' => e = .returned (.string ⟨#[]⟩) ∧ (Lib.IsBuilderF 104 5 B b [] w' ∧ Below B w w' ∧ Lib.OthersKept 5 (some b) w w') := Any.Builder_String_empty_k Try.lays169 Try.Builder_Extra_169 B b w h hBw
open Go.RowKit in
theorem Try.Builder_String_any_k (B b : Nat) (l : List UInt8) (w : World) (h : Lib.IsBuilderF 104 5 B b (Lib.byteCells l) w) (hBw : B ≤ w.heap.size) :
    Calls Try.prog 77 #[.pointer (some ⟨b, 0, none⟩)] w fun e w' => e = .returned (.string ⟨l.toArray⟩) ∧ (Lib.IsBuilderF 104 5 B b (Lib.byteCells l) w' ∧ Below B w w' ∧ Lib.OthersKept 5 (some b) w w') := Any.Builder_String_any_k Try.lays169 Try.Builder_Extra_169 B b l w h hBw
open Go.RowKit in
theorem Try.Builder_grow_fresh_cap (B b n : Nat) (w : World) (hB : B ≤ b) (hbk : w.heap[b]? = some (.cells #[.pointer (some ⟨b, 0, none⟩), .slice none 0 0] 104 (0, 0))) (hBw : B ≤ w.heap.size) (hn : n ≤ 281474976710656) :
    Calls Try.prog 88 #[.pointer (some ⟨b, 0, none⟩), .int .i64 n] w fun e w' => e = .returned (.tuple #[]) ∧ (Lib.BuilderAt 104 5 B b (.pointer (some ⟨b, 0, none⟩)) [] w' ∧ Below B w w') ∧ ∃ p cap, w'.cell? ⟨b, 1, none⟩ = some (.slice p 0 cap) ∧ n ≤ cap := Any.Builder_grow_fresh_cap Try.lays241 Try.Builder_Extra_241 B b n w hB hbk hBw hn
open Go.RowKit in
theorem Try.Builder_Grow_fresh_cap (B b n : Nat) (w : World) (hB : B ≤ b) (hbk : w.heap[b]? = some (.cells #[.pointer none, .slice none 0 0] 104 (0, 0))) (hBw : B ≤ w.heap.size) (hn : n ≤ 281474976710656) :
    Calls Try.prog 74 #[.pointer (some ⟨b, 0, none⟩), .int .i64 n] w fun e w' => e = .returned (.tuple #[]) ∧ (Lib.BuilderAt 104 5 B b (.pointer (some ⟨b, 0, none⟩)) [] w' ∧ Below B w w') ∧ ∃ p cap, w'.cell? ⟨b, 1, none⟩ = some (.slice p 0 cap) ∧ n ≤ cap := Any.Builder_Grow_fresh_cap Try.lays165 Try.Builder_Extra_165 B b n w hB hbk hBw hn
def Try.lays206_ren : Go.Shelf.Ren := ⟨fun | 206 => 86 | n => n, fun | 9 => 9 | 4 => 4 | 3 => 3 | n => n, fun | n => n⟩
theorem Try.lays206 : Go.Proofs.Lays.n206 Try.prog Try.lays206_ren := {
  mixed := by kernel_rfl
  f206 := Try.func86.trans (congrArg some (by kernel_rfl))
  t3 := Try.underlying3
  a3 := Try.isAgg3
  z3 := Try.sizeOf3
  v3 := Try.zeroValue3
  t4 := Try.underlying4
  a4 := Try.isAgg4
  z4 := Try.sizeOf4
  v4 := Try.zeroValue4
  t9 := Try.underlying9
  a9 := Try.isAgg9
  z9 := Try.sizeOf9
  v9 := Try.zeroValue9 }
open Go.RowKit Go.Lib in
theorem Try.stringslite_HasPrefix (s p : ByteArray) (w : World) :
    Calls Try.prog 86 #[.string s, .string p] w fun e w' => e = .returned (.bool (Lib.hasPrefix s.data.toList p.data.toList)) ∧ w' = w := Any.stringslite_HasPrefix Try.lays206 s p w
def Try.lays99_ren : Go.Shelf.Ren := ⟨fun | 99 => 73 | 206 => 86 | n => n, fun | 9 => 9 | 4 => 4 | 3 => 3 | n => n, fun | n => n⟩
theorem Try.lays99 : Go.Proofs.Lays.n99 Try.prog Try.lays99_ren := {
  mixed := by kernel_rfl
  f99 := Try.func73.trans (congrArg some (by kernel_rfl))
  f206 := Try.func86.trans (congrArg some (by kernel_rfl))
  t3 := Try.underlying3
  a3 := Try.isAgg3
  z3 := Try.sizeOf3
  v3 := Try.zeroValue3
  t4 := Try.underlying4
  a4 := Try.isAgg4
  z4 := Try.sizeOf4
  v4 := Try.zeroValue4
  t9 := Try.underlying9
  a9 := Try.isAgg9
  z9 := Try.sizeOf9
  v9 := Try.zeroValue9 }
open Go.RowKit Go.Lib in
theorem Try.strings_HasPrefix (s p : ByteArray) (w : World) :
    Calls Try.prog 73 #[.string s, .string p] w fun e w' => e = .returned (.bool (Lib.hasPrefix s.data.toList p.data.toList)) ∧ w' = w := Any.strings_HasPrefix Try.lays99 s p w
def Try.lays208_ren : Go.Shelf.Ren := ⟨fun | 208 => 90 | 206 => 86 | n => n, fun | 9 => 9 | 4 => 4 | 3 => 3 | n => n, fun | n => n⟩
theorem Try.lays208 : Go.Proofs.Lays.n208 Try.prog Try.lays208_ren := {
  mixed := by kernel_rfl
  f206 := Try.func86.trans (congrArg some (by kernel_rfl))
  f208 := Try.func90.trans (congrArg some (by kernel_rfl))
  t3 := Try.underlying3
  a3 := Try.isAgg3
  z3 := Try.sizeOf3
  v3 := Try.zeroValue3
  t4 := Try.underlying4
  a4 := Try.isAgg4
  z4 := Try.sizeOf4
  v4 := Try.zeroValue4
  t9 := Try.underlying9
  a9 := Try.isAgg9
  z9 := Try.sizeOf9
  v9 := Try.zeroValue9 }
open Go.RowKit Go.Lib in
theorem Try.stringslite_TrimPrefix (s p : ByteArray) (w : World) :
    Calls Try.prog 90 #[.string s, .string p] w fun e w' => e = .returned (.string ⟨(Lib.trimPrefix s.data.toList p.data.toList).toArray⟩) ∧ w' = w := Any.stringslite_TrimPrefix Try.lays208 s p w
def Try.lays101_ren : Go.Shelf.Ren := ⟨fun | 101 => 79 | 208 => 90 | 206 => 86 | n => n, fun | 9 => 9 | 4 => 4 | 3 => 3 | n => n, fun | n => n⟩
theorem Try.lays101 : Go.Proofs.Lays.n101 Try.prog Try.lays101_ren := {
  mixed := by kernel_rfl
  f101 := Try.func79.trans (congrArg some (by kernel_rfl))
  f206 := Try.func86.trans (congrArg some (by kernel_rfl))
  f208 := Try.func90.trans (congrArg some (by kernel_rfl))
  t3 := Try.underlying3
  a3 := Try.isAgg3
  z3 := Try.sizeOf3
  v3 := Try.zeroValue3
  t4 := Try.underlying4
  a4 := Try.isAgg4
  z4 := Try.sizeOf4
  v4 := Try.zeroValue4
  t9 := Try.underlying9
  a9 := Try.isAgg9
  z9 := Try.sizeOf9
  v9 := Try.zeroValue9 }
open Go.RowKit Go.Lib in
theorem Try.strings_TrimPrefix (s p : ByteArray) (w : World) :
    Calls Try.prog 79 #[.string s, .string p] w fun e w' => e = .returned (.string ⟨(Lib.trimPrefix s.data.toList p.data.toList).toArray⟩) ∧ w' = w := Any.strings_TrimPrefix Try.lays101 s p w
def Try.lays264_ren : Go.Shelf.Ren := ⟨fun | 264 => 85 | n => n, fun | 53 => 79 | 46 => 81 | n => n, fun | n => n⟩
theorem Try.lays264 : Go.Proofs.Lays.n264 Try.prog Try.lays264_ren := {
  mixed := by kernel_rfl
  f264 := Try.func85.trans (congrArg some (by kernel_rfl))
  t46 := Try.underlying81
  a46 := Try.isAgg81
  z46 := Try.sizeOf81
  v46 := Try.zeroValue81
  t53 := Try.underlying79
  a53 := Try.isAgg79
  z53 := Try.sizeOf79
  v53 := Try.zeroValue79 }
open Go.RowKit Go.Lib in
theorem Try.bits_Mul64 (x y : Nat) (hx : x < 18446744073709551616) (hy : y < 18446744073709551616) (w : World) :
    Calls Try.prog 85 #[.int .u64 x, .int .u64 y] w fun e w' => e = .returned (.tuple #[.int .u64 ((x * y / 18446744073709551616 : Nat) : Int), .int .u64 ((x * y % 18446744073709551616 : Nat) : Int)]) ∧ w' = w := Any.bits_Mul64 Try.lays264 x y hx hy w
def Try.lays212_ren : Go.Shelf.Ren := ⟨fun | 212 => 72 | 263 => 84 | 264 => 85 | n => n, fun | 46 => 81 | 51 => 61 | 146 => 116 | 53 => 79 | 148 => 118 | n => n, fun | n => n⟩
theorem Try.lays212 : Go.Proofs.Lays.n212 Try.prog Try.lays212_ren := {
  mixed := by kernel_rfl
  f212 := Try.func72.trans (congrArg some (by kernel_rfl))
  f263 := Try.func84.trans (congrArg some (by kernel_rfl))
  f264 := Try.func85.trans (congrArg some (by kernel_rfl))
  t46 := Try.underlying81
  a46 := Try.isAgg81
  z46 := Try.sizeOf81
  v46 := Try.zeroValue81
  t51 := Try.underlying61
  a51 := Try.isAgg61
  z51 := Try.sizeOf61
  v51 := Try.zeroValue61
  t53 := Try.underlying79
  a53 := Try.isAgg79
  z53 := Try.sizeOf79
  v53 := Try.zeroValue79
  t146 := Try.underlying116
  a146 := Try.isAgg116
  z146 := Try.sizeOf116
  v146 := Try.zeroValue116
  t148 := Try.underlying118
  a148 := Try.isAgg118
  z148 := Try.sizeOf118
  v148 := Try.zeroValue118 }
open Go.RowKit Go.Lib in
theorem Try.bits_Mul (x y : Nat) (hx : x < 18446744073709551616) (hy : y < 18446744073709551616) (w : World) :
    Calls Try.prog 72 #[.int .u64 x, .int .u64 y] w fun e w' => e = .returned (.tuple #[.int .u64 ((x * y / 18446744073709551616 : Nat) : Int), .int .u64 ((x * y % 18446744073709551616 : Nat) : Int)]) ∧ w' = w := Any.bits_Mul Try.lays212 x y hx hy w
def Try.lays105_ren : Go.Shelf.Ren := ⟨fun | 105 => 62 | 212 => 72 | 99 => 73 | 165 => 74 | 166 => 75 | 170 => 76 | 169 => 77 | 263 => 84 | 264 => 85 | 206 => 86 | 240 => 87 | 241 => 88 | 276 => 92 | 277 => 93 | n => n, fun | 9 => 9 | 3 => 3 | 4 => 4 | 20 => 20 | 0 => 0 | 46 => 81 | 109 => 99 | 5 => 5 | 72 => 104 | 76 => 108 | 51 => 61 | 146 => 116 | 53 => 79 | 148 => 118 | 70 => 102 | 37 => 74 | 75 => 107 | 127 => 120 | 164 => 121 | 80 => 34 | n => n, fun | n => n⟩
theorem Try.lays105 : Go.Proofs.Lays.n105 Try.prog Try.lays105_ren := {
  mixed := by kernel_rfl
  f99 := Try.func73.trans (congrArg some (by kernel_rfl))
  f105 := Try.func62.trans (congrArg some (by kernel_rfl))
  f165 := Try.func74.trans (congrArg some (by kernel_rfl))
  f166 := Try.func75.trans (congrArg some (by kernel_rfl))
  f169 := Try.func77.trans (congrArg some (by kernel_rfl))
  f170 := Try.func76.trans (congrArg some (by kernel_rfl))
  f206 := Try.func86.trans (congrArg some (by kernel_rfl))
  f212 := Try.func72.trans (congrArg some (by kernel_rfl))
  f240 := Try.func87.trans (congrArg some (by kernel_rfl))
  f241 := Try.func88.trans (congrArg some (by kernel_rfl))
  f263 := Try.func84.trans (congrArg some (by kernel_rfl))
  f264 := Try.func85.trans (congrArg some (by kernel_rfl))
  f276 := Try.func92.trans (congrArg some (by kernel_rfl))
  f277 := Try.func93.trans (congrArg some (by kernel_rfl))
  t0 := Try.underlying0
  a0 := Try.isAgg0
  z0 := Try.sizeOf0
  v0 := Try.zeroValue0
  t3 := Try.underlying3
  a3 := Try.isAgg3
  z3 := Try.sizeOf3
  v3 := Try.zeroValue3
  t4 := Try.underlying4
  a4 := Try.isAgg4
  z4 := Try.sizeOf4
  v4 := Try.zeroValue4
  t5 := Try.underlying5
  a5 := Try.isAgg5
  z5 := Try.sizeOf5
  v5 := Try.zeroValue5
  t9 := Try.underlying9
  a9 := Try.isAgg9
  z9 := Try.sizeOf9
  v9 := Try.zeroValue9
  t20 := Try.underlying20
  a20 := Try.isAgg20
  z20 := Try.sizeOf20
  v20 := Try.zeroValue20
  t37 := Try.underlying74
  a37 := Try.isAgg74
  z37 := Try.sizeOf74
  v37 := Try.zeroValue74
  t46 := Try.underlying81
  a46 := Try.isAgg81
  z46 := Try.sizeOf81
  v46 := Try.zeroValue81
  t51 := Try.underlying61
  a51 := Try.isAgg61
  z51 := Try.sizeOf61
  v51 := Try.zeroValue61
  t53 := Try.underlying79
  a53 := Try.isAgg79
  z53 := Try.sizeOf79
  v53 := Try.zeroValue79
  t70 := Try.underlying102
  a70 := Try.isAgg102
  z70 := Try.sizeOf102
  v70 := Try.zeroValue102
  t72 := Try.underlying104
  a72 := Try.isAgg104
  z72 := Try.sizeOf104
  v72 := Try.zeroValue104
  t75 := Try.underlying107
  a75 := Try.isAgg107
  z75 := Try.sizeOf107
  v75 := Try.zeroValue107
  t76 := Try.underlying108
  a76 := Try.isAgg108
  z76 := Try.sizeOf108
  v76 := Try.zeroValue108
  t109 := Try.underlying99
  a109 := Try.isAgg99
  z109 := Try.sizeOf99
  v109 := Try.zeroValue99
  t127 := Try.underlying120
  a127 := Try.isAgg120
  z127 := Try.sizeOf120
  v127 := Try.zeroValue120
  t146 := Try.underlying116
  a146 := Try.isAgg116
  z146 := Try.sizeOf116
  v146 := Try.zeroValue116
  t148 := Try.underlying118
  a148 := Try.isAgg118
  z148 := Try.sizeOf118
  v148 := Try.zeroValue118
  t164 := Try.underlying121
  a164 := Try.isAgg121
  z164 := Try.sizeOf121
  v164 := Try.zeroValue121 }
theorem Try.Builder_Extra_105 : Builder.Extra Try.prog Try.lays105_ren := {
  sizeBuilder := by kernel_rfl
  liesBuilder := by kernel_rfl
  t5 := Try.underlying5
  a5 := Try.isAgg5
  z5 := Try.sizeOf5
  v5 := Try.zeroValue5
  infoByte := by kernel_rfl
  cellsByte := by kernel_rfl
  sizeByte := by kernel_rfl
  neB5 := by decide }
open Go.RowKit Go.Lib in
theorem Try.strings_Repeat_main (s : ByteArray) (c : Nat) (w : World) (hc2 : 2 ≤ c) (hc : c ≤ 9223372036854775807) (hlen : s.size * c ≤ 140737488355328) (h0 : 0 < s.size) :
    Calls Try.prog 62 #[.string s, .int .i64 c] w fun e w' => e = .returned (.string ⟨(Lib.repeatL s.data.toList c).toArray⟩) ∧ Below w.heap.size w w' := Any.strings_Repeat_main Try.lays105 Try.Builder_Extra_105 s c w hc2 hc hlen h0
open Go.RowKit Go.Lib in
theorem Try.strings_Repeat_zero (s : ByteArray) (w : World) :
    Calls Try.prog 62 #[.string s, .int .i64 0] w fun e w' => e = .returned (.string ⟨#[]⟩) ∧ w' = w := Any.strings_Repeat_zero Try.lays105 s w
open Go.RowKit Go.Lib in
theorem Try.strings_Repeat_one (s : ByteArray) (w : World) :
    Calls Try.prog 62 #[.string s, .int .i64 1] w fun e w' => e = .returned (.string s) ∧ w' = w := Any.strings_Repeat_one Try.lays105 s w
open Go.RowKit Go.Lib in
theorem Try.strings_Repeat_empty (s : ByteArray) (c : Nat) (w : World) (hc2 : 2 ≤ c) (hc : c ≤ 9223372036854775807) (h0 : s.size = 0) :
    Calls Try.prog 62 #[.string s, .int .i64 c] w fun e w' => e = .returned (.string ⟨#[]⟩) ∧ w' = w := Any.strings_Repeat_empty Try.lays105 s c w hc2 hc h0
open Go.RowKit Go.Lib in
theorem Try.strings_Repeat_negative (s : ByteArray) (c : Int) (w : World) (hc : c < 0) :
    Calls Try.prog 62 #[.string s, .int .i64 c] w fun e w' => e = .panicked [{ v := repeatPanic Try.lays105_ren "strings: negative Repeat count", recovered := false }] ∧ w' = w := Any.strings_Repeat_negative Try.lays105 s c w hc
open Go.RowKit Go.Lib in
theorem Try.strings_Repeat_overflow (s : ByteArray) (c : Nat) (w : World) (hc : c ≤ 9223372036854775807) (hs : s.size ≤ 9223372036854775807) (hbig : 9223372036854775807 < s.size * c) :
    Calls Try.prog 62 #[.string s, .int .i64 c] w fun e w' => e = .panicked [{ v := repeatPanic Try.lays105_ren "strings: Repeat output length overflow", recovered := false }] ∧ w' = w := Any.strings_Repeat_overflow Try.lays105 s c w hc hs hbig
open Go.RowKit Go.Lib in
theorem Try.strings_Repeat (s : ByteArray) (c : Nat) (w : World) (hc : c ≤ 9223372036854775807) (hlen : s.size * c ≤ 140737488355328) :
    Calls Try.prog 62 #[.string s, .int .i64 c] w fun e w' => e = .returned (.string ⟨(Lib.repeatL s.data.toList c).toArray⟩) ∧ Below w.heap.size w w' := Any.strings_Repeat Try.lays105 Try.Builder_Extra_105 s c w hc hlen
end Go.Proofs

/- fromWord, toWord, bitLength, isOne, isOdd, compare. -/
set_option linter.unusedVariables false
namespace Go.Proofs.Ytcgnmihabkgecaa
open Go.RowKit

/-- Returned: a slice with the digits of n; what was there is as it was. -/
def Out32 (w : World) (n : Nat) (e : Ending) (w' : World) : Prop := ∃ ao len cap, e = .returned (.slice ao len cap) ∧ N32 w' ao len n ∧ Below w.heap.size w w'

set_option maxHeartbeats 400000 in
theorem fromWord_any (N : Int) (n : Nat) (w : World) (hN : N = (n : Int)) (hn : n ≤ 18446744073709551615) :
    Calls Try.prog 49 #[.int .u64 N] w (Out32 w n) := by
  subst hN
  have hB := Blk.new' w .u32 61 [n % B32, n / B32] #[Value.int IntKind.u32 (↑n % 4294967296), Value.int IntKind.u32 (↑n / 4294967296)] (by simp [cs, B32_eq])
  have hS := hB.sl0 2 (by simp)
  have hbel : Below w.heap.size w (w.alloc (Obj.cells #[Value.int IntKind.u32 (↑n % 4294967296), Value.int IntKind.u32 (↑n / 4294967296)] 61)) := (Below.refl _ _).alloc (Nat.le_refl _) _
  clear hB
  have HS := Lib.hid hS
  have HB := Lib.hid hbel
  clear hS hbel
  go_enter Try.func49, Try.ntmps49
  go_wp2_with (go_at_call 52; refine (trim_raw _ _ _ _ _ HS.out (by omega) (by omega)).mono ?_; rintro e w1 ⟨⟨ao, m, rfl, hm, ha, hz, ht, hzz⟩, rfl⟩)
  go_ret
  refine ⟨ao, m, m, rfl, ⟨_, (trim_sl HS.out hm ha), ?_, ht, ?_⟩, HB.out⟩
  · refine Dig.take ?_ _
    refine Dig.take ?_ _
    exact Dig.cons (Nat.mod_lt _ B32_pos) (Dig.cons (by rw [B32_eq]; omega) (Dig.nil _))
  · rw [val_take_of_zeros hzz]
    simp only [List.take_succ_cons, List.take_zero, val, B32_eq]
    omega

/-- a + 2^32 x as Go's 'or' has it -/
theorem or_shift (a x i m : Nat) (ha : a < 2 ^ i) (hm : m = 2 ^ i) (h : x * m < 18446744073709551616) (h2 : a < 18446744073709551616) :
    bits BinOp.or IntKind.u64 (a : Int) ((x : Int) * (m : Int)) = ((a + x * m : Nat) : Int) := by
  rw [show ((x : Int) * (m : Int)) = ((x * m : Nat) : Int) by push_cast; rfl]
  rw [u64_or_nat _ _ h2 h]
  congr 1
  subst hm
  have := Nat.two_pow_add_eq_or_of_lt ha x
  rw [Nat.or_comm, Nat.mul_comm x, ← this]
  omega

set_option maxHeartbeats 400000 in
theorem toWord_any (ao : Option Addr) (len cap : Nat) (n : Nat) (w : World) (hs : N32 w ao len n) (hl : len ≤ 2) :
    Calls Try.prog 59 #[.slice ao len cap] w fun e w' => e = .returned (.int .u64 (n : Int)) ∧ w = w' := by
  obtain ⟨xs, hsl, hd, ht, hv⟩ := hs
  have d0 := hd.get B32_pos 0
  have d1 := hd.get B32_pos 1
  obtain ⟨x0, e0⟩ : ∃ x, x = xs[0]?.getD 0 := ⟨_, rfl⟩
  obtain ⟨x1, e1⟩ : ∃ x, x = xs[1]?.getD 0 := ⟨_, rfl⟩
  rw [B32_eq, ← e0] at d0
  rw [B32_eq, ← e1] at d1
  have H := Lib.hid hsl
  have E0 := Lib.hid e0
  have E1 := Lib.hid e1
  have V := Lib.hid hv
  have T := Lib.hid ht
  clear hsl e0 e1 hv hd ht
  go_enter Try.func59, Try.ntmps59
  go_wp2_with fail
  refine (digit_any _ _ _ xs _ 0 _ H.out rfl).mono ?_
  rw [← E0.out]
  rintro e w1 ⟨rfl, rfl⟩
  go_wp2_with fail
  refine (digit_any _ _ _ xs _ 1 _ H.out rfl).mono ?_
  rw [← E1.out]
  rintro e w1 ⟨rfl, rfl⟩
  go_wp2_with fail
  go_ret
  refine ⟨ret_int ?_, rfl⟩
  have h := or_shift x0 x1 32 4294967296 (by omega) (by decide) (by omega) (by omega)
  refine h.trans ?_
  have hx := H.out.len
  have hv := V.out
  have : xs = xs.take 2 := (List.take_of_length_le (by omega)).symm
  rw [this, val_take_succ, val_take_succ] at hv
  have e0 := E0.out
  have e1 := E1.out
  simp [val, B32_eq] at hv
  omega

/-- how many binary digits -/
def blen (n : Nat) : Nat := if n = 0 then 0 else Nat.log2 n + 1

theorem blen_zero : blen 0 = 0 := rfl
theorem blen_le {n k : Nat} : blen n ≤ k ↔ n < 2 ^ k := by
  unfold blen
  split
  · rename_i h; subst h; simp [Nat.pow_pos]
  · rename_i h; rw [← Nat.log2_lt h]; omega

theorem blen_eq {n k : Nat} (h1 : 2 ^ k ≤ n) (h2 : n < 2 ^ (k + 1)) : blen n = k + 1 := by
  have a := (blen_le (n := n) (k := k + 1)).2 h2
  have b : ¬ blen n ≤ k := fun h => by have := blen_le.1 h; omega
  omega

theorem blen_low {n : Nat} (h : n ≠ 0) : 2 ^ (blen n - 1) ≤ n := by
  unfold blen
  rw [if_neg h]
  exact Nat.log2_self_le h

theorem blen_lt (n : Nat) : n < 2 ^ blen n := blen_le.1 (Nat.le_refl _)

/-- of a row of digits with a top: by the top digit -/
theorem blen_digits {n m t l : Nat} (hm : m < 2 ^ (32 * l)) (ht : t ≠ 0) (hn : n = m + 2 ^ (32 * l) * t) : blen n = 32 * l + blen t := by
  have h1 := blen_low ht
  have h2 := blen_lt t
  have h3 : blen t ≠ 0 := by intro e; rw [e] at h2; simp at h2; omega
  have e : blen n = (32 * l + (blen t - 1)) + 1 := by
    apply blen_eq
    · rw [Nat.pow_add]
      have := Nat.mul_le_mul_left (2 ^ (32 * l)) h1
      omega
    · rw [Nat.add_assoc, show blen t - 1 + 1 = blen t by omega, Nat.pow_add]
      have := Nat.mul_le_mul_left (2 ^ (32 * l)) (Nat.succ_le_of_lt h2)
      rw [Nat.succ_eq_add_one, Nat.mul_add] at this
      omega
  omega

theorem aux_blen : ∀ (f x : Nat), x < 2 ^ f → Lib.bitLenAux f x = blen x
  | 0, x, h => by
    obtain rfl : x = 0 := by simpa using h
    rfl
  | f + 1, x, h => by
    simp only [Lib.bitLenAux]
    split
    · rename_i h0; subst h0; rfl
    · rename_i h0
      rw [aux_blen f (x / 2) (by rw [Nat.pow_succ] at h; omega)]
      by_cases h1 : x = 1
      · subst h1; rfl
      · have e : blen x = blen (x / 2) + 1 := by
          have h2 := blen_low (n := x / 2) (by omega)
          have h3 := blen_lt (x / 2)
          have h4 : blen (x / 2) ≠ 0 := by intro e; rw [e] at h3; simp at h3; omega
          have := blen_eq (n := x) (k := blen (x / 2)) (by
            rw [show blen (x / 2) = (blen (x / 2) - 1) + 1 by omega, Nat.pow_succ]; omega) (by rw [Nat.pow_succ]; omega)
          exact this
        omega

theorem lib_blen (x : Nat) (h : x < 4294967296) : Lib.bitLen x = blen x := aux_blen 64 x (by omega)

theorem B32_pow (k : Nat) : B32 ^ k = 2 ^ (32 * k) := by
  rw [Nat.pow_mul]; rfl

set_option maxHeartbeats 400000 in
theorem bitLength_any (ao : Option Addr) (len cap : Nat) (n : Nat) (w : World) (hs : N32 w ao len n) (hl : len ≤ 1000000000) :
    Calls Try.prog 54 #[.slice ao len cap] w fun e w' => e = .returned (.int .i64 (blen n : Nat)) ∧ w = w' := by
  obtain ⟨xs, ⟨hx, b, off, h0, hc⟩, hd, ht, hv⟩ := hs
  have hL := Lib.hid hl
  by_cases hz : len = 0
  · have hn : n = 0 := by
      obtain rfl : xs = [] := List.eq_nil_of_length_eq_zero (by omega)
      exact hv.symm
    rw [hn]
    subst hz
    clear hx hc hv hd ht h0 hl hn
    go_enter Try.func54, Try.ntmps54
    go_wp2
    go_ret
    exact ⟨rfl, rfl⟩
  · obtain ⟨m, rfl⟩ : ∃ m, len = m + 1 := ⟨len - 1, by omega⟩
    obtain rfl := h0 (by omega)
    have hcell := hc m (by omega)
    have hb := hd.get B32_pos m
    have hne : xs[m]?.getD 0 ≠ 0 := by
      have := ht (by intro e; simp [e] at hx)
      rw [List.getLastD_eq_getLast?, List.getLast?_eq_getElem?, hx] at this
      simpa using this
    have hval : n = val B32 (xs.take m) + 2 ^ (32 * m) * (xs[m]?.getD 0) := by
      rw [← hv, ← B32_pow, ← val_take_succ, List.take_of_length_le (by omega)]
    have hlt : val B32 (xs.take m) < 2 ^ (32 * m) := by
      have := val_lt B32_pos (hd.take m)
      rw [List.length_take, Nat.min_eq_left (by omega), B32_pow] at this
      exact this
    have hfin := blen_digits hlt hne hval
    have hle : blen (xs[m]?.getD 0) ≤ 32 := blen_le.2 (by rw [B32_eq] at hb; exact hb)
    rw [hfin]
    obtain ⟨x, hxe⟩ : ∃ x, x = xs[m]?.getD 0 := ⟨_, rfl⟩
    rw [← hxe] at hcell hb hne hle ⊢
    rw [B32_eq] at hb
    have hm : m ≤ 1000000000 := by omega
    have HE := Lib.hid (lib_blen x hb)
    clear hx hc hv hd ht h0 hl hz hval hlt hfin hxe hne
    go_enter Try.func54, Try.ntmps54
    go_wp2_with (go_at_call 67; refine (Try.bits_LeadingZeros32 _ _ (by omega) (by omega)).mono ?_; rw [Int.toNat_natCast, HE.out]; rintro e w1 ⟨rfl, rfl⟩)
    go_ret
    refine ⟨ret_int ?_, rfl⟩
    push_cast
    omega

def isOneB (n : Nat) : Bool := n == 1

set_option maxHeartbeats 400000 in
theorem isOne_any (ao : Option Addr) (len cap : Nat) (n : Nat) (w : World) (hs : N32 w ao len n) (hl : len ≤ 1000000000) :
    Calls Try.prog 60 #[.slice ao len cap] w fun e w' => e = .returned (.bool (n == 1)) ∧ w = w' := by
  obtain ⟨xs, ⟨hx, b, off, h0, hc⟩, hd, ht, hv⟩ := hs
  have hiff : (n == 1) = (len == 1 && xs[0]?.getD 0 == 1) := by
    rw [Bool.eq_iff_iff]
    simp only [beq_iff_eq, Bool.and_eq_true]
    constructor
    · rintro rfl
      have : xs = [1] := val_inj B32_pos hd (Dig.cons (by decide) (Dig.nil _)) ht (fun _ => by simp) (by rw [hv]; rfl)
      subst this
      exact ⟨hx.symm, rfl⟩
    · rintro ⟨rfl, h2⟩
      match xs, hx with
      | [y], _ => simp at h2; subst h2; exact hv.symm
  rw [hiff]
  by_cases h1 : len = 1
  · subst h1
    obtain rfl := h0 (by omega)
    have hcell := hc 0 (by omega)
    rw [Nat.add_zero] at hcell
    obtain ⟨x, hxe⟩ : ∃ x, x = xs[0]?.getD 0 := ⟨_, rfl⟩
    rw [← hxe] at hcell ⊢
    clear hx hc hd ht h0 hl hiff hv hxe
    by_cases hx1 : x = 1
    · subst hx1
      go_enter Try.func60, Try.ntmps60
      go_wp2
      go_ret
      exact ⟨rfl, rfl⟩
    · have hb : ((x : Int) == 1) = false := by simp; omega
      have hb2 : (x == 1) = false := by simp; omega
      rw [hb2]
      clear hb2
      go_enter Try.func60, Try.ntmps60
      go_wp2
      go_ret
      exact ⟨rfl, rfl⟩
  · have hb : ((len : Int) == 1) = false := by simp; omega
    have hb2 : (len == 1) = false := by simp; omega
    rw [hb2]
    clear hx hc hd ht h0 hiff hv hb2
    go_enter Try.func60, Try.ntmps60
    go_wp2
    go_ret
    exact ⟨rfl, rfl⟩

theorem u32_and_one (x : Nat) (h : x < 4294967296) : bits BinOp.and IntKind.u32 (x : Int) 1 = ((x % 2 : Nat) : Int) := by
  have := u32_and_nat x 1 h (by decide)
  rw [Nat.and_one_is_mod] at this
  exact this

set_option maxHeartbeats 400000 in
theorem isOdd_any (ao : Option Addr) (len cap : Nat) (n : Nat) (w : World) (hs : N32 w ao len n) :
    Calls Try.prog 38 #[.slice ao len cap] w fun e w' => e = .returned (.bool (n % 2 == 1)) ∧ w = w' := by
  obtain ⟨xs, hsl, hd, ht, hv⟩ := hs
  have hx := hd.get B32_pos 0
  obtain ⟨x, hxe⟩ : ∃ x, x = xs[0]?.getD 0 := ⟨_, rfl⟩
  have hn : n % 2 = x % 2 := by
    rw [← hv, hxe]
    cases xs with
    | nil => rfl
    | cons y ys => simp [val, B32_eq]; omega
  rw [hn]
  rw [← hxe] at hx
  rw [B32_eq] at hx
  have H := Lib.hid hsl
  have HX := Lib.hid hxe
  clear hsl hd ht hv hxe hn
  go_enter Try.func38, Try.ntmps38
  go_wp2_with (go_at_call 51; refine (digit_any _ _ _ xs _ 0 _ H.out rfl).mono ?_; rw [← HX.out]; rintro e w1 ⟨rfl, rfl⟩)
  go_ret
  refine ⟨ret_bool ?_, rfl⟩
  have h := u32_and_one x hx
  rw [h]
  rw [Bool.eq_iff_iff]
  simp only [beq_iff_eq]
  omega
end Go.Proofs.Ytcgnmihabkgecaa
