/- Part 1 of the contracts: Math, Base, Dig1. -/
import Derived.Lib.Hide
import Derived.WalkKit
import Derived.WalkSpells
import Derived.WalkLawsBesides
import Derived.BigQuiet
import Derived.Deep.QuietTactic
import Derived.Laws.CopyOwn
import Derived.Deep.DeepCutAuto
import Derived.Test.YtbihgllfllkkaaaGreatProg

/- Plain facts on rows of digits: their value to a base, lowest digit first. No program. -/
set_option linter.unusedVariables false
namespace Go.Proofs.YtbihgllfllkkaaaGreat

def val (B : Nat) : List Nat → Nat
  | [] => 0
  | d :: ds => d + B * val B ds

theorem val_nil (B : Nat) : val B [] = 0 := rfl
theorem val_cons (B d : Nat) (ds : List Nat) : val B (d :: ds) = d + B * val B ds := rfl

def Dig (B : Nat) (xs : List Nat) : Prop := ∀ x ∈ xs, x < B
/-- no zero at the top -/
def Top (xs : List Nat) : Prop := xs ≠ [] → xs.getLastD 0 ≠ 0

theorem val_append (B : Nat) (xs ys : List Nat) : val B (xs ++ ys) = val B xs + B ^ xs.length * val B ys := by
  induction xs with
  | nil => simp [val]
  | cons x xs ih => simp only [List.cons_append, val, ih, List.length_cons, Nat.pow_succ]; grind

theorem val_snoc (B : Nat) (xs : List Nat) (d : Nat) : val B (xs ++ [d]) = val B xs + B ^ xs.length * d := by
  rw [val_append]; simp [val]

theorem Dig.tail {B d : Nat} {ds : List Nat} (h : Dig B (d :: ds)) : Dig B ds := fun x hx => h x (by simp [hx])
theorem Dig.head {B d : Nat} {ds : List Nat} (h : Dig B (d :: ds)) : d < B := h d (by simp)
theorem Dig.nil (B : Nat) : Dig B [] := fun x hx => by simp at hx
theorem Dig.cons {B d : Nat} {ds : List Nat} (h : d < B) (k : Dig B ds) : Dig B (d :: ds) := by
  intro x hx; simp at hx; rcases hx with rfl | hx
  · exact h
  · exact k x hx
theorem Dig.append {B : Nat} {xs ys : List Nat} (h : Dig B xs) (k : Dig B ys) : Dig B (xs ++ ys) := by
  intro x hx; simp at hx; rcases hx with hx | hx
  · exact h x hx
  · exact k x hx
theorem Dig.take {B : Nat} {xs : List Nat} (h : Dig B xs) (n : Nat) : Dig B (xs.take n) := fun x hx => h x (List.mem_of_mem_take hx)
theorem Dig.drop {B : Nat} {xs : List Nat} (h : Dig B xs) (n : Nat) : Dig B (xs.drop n) := fun x hx => h x (List.mem_of_mem_drop hx)
theorem Dig.get {B : Nat} {xs : List Nat} (h : Dig B xs) (hB : 0 < B) (i : Nat) : xs[i]?.getD 0 < B := by
  by_cases hi : i < xs.length
  · rw [List.getElem?_eq_getElem hi]; exact h _ (List.getElem_mem hi)
  · rw [List.getElem?_eq_none (by omega)]; exact hB
theorem Dig.set {B : Nat} {xs : List Nat} (h : Dig B xs) (i : Nat) {d : Nat} (hd : d < B) : Dig B (xs.set i d) := by
  intro x hx
  rcases List.mem_or_eq_of_mem_set hx with hx | rfl
  · exact h x hx
  · exact hd
theorem Dig.replicate {B : Nat} (hB : 0 < B) (n : Nat) : Dig B (List.replicate n 0) := by
  intro x hx; have := List.eq_of_mem_replicate hx; omega

theorem val_lt {B : Nat} (hB : 0 < B) {xs : List Nat} (h : Dig B xs) : val B xs < B ^ xs.length := by
  induction xs with
  | nil => simp [val]
  | cons x xs ih =>
    have := ih h.tail
    have h0 := h.head
    simp only [val, List.length_cons, Nat.pow_succ]
    have : B * (val B xs + 1) ≤ B * B ^ xs.length := Nat.mul_le_mul_left _ this
    rw [Nat.mul_add] at this
    rw [Nat.mul_comm (B ^ xs.length) B]
    omega

theorem val_take_succ (B : Nat) (xs : List Nat) (i : Nat) : val B (xs.take (i + 1)) = val B (xs.take i) + B ^ i * (xs[i]?.getD 0) := by
  by_cases hi : i < xs.length
  · rw [List.take_succ_eq_append_getElem hi, val_snoc, List.getElem?_eq_getElem hi]
    simp [List.length_take, Nat.min_eq_left (Nat.le_of_lt hi)]
  · rw [List.take_of_length_le (by omega), List.take_of_length_le (by omega), List.getElem?_eq_none (by omega)]; simp

theorem val_split (B : Nat) (xs : List Nat) (i : Nat) (hi : i ≤ xs.length) : val B xs = val B (xs.take i) + B ^ i * val B (xs.drop i) := by
  conv => lhs; rw [← List.take_append_drop i xs]
  rw [val_append]; simp [List.length_take, Nat.min_eq_left hi]

theorem val_set (B : Nat) (xs : List Nat) (i d : Nat) (hi : i < xs.length) : val B (xs.set i d) + B ^ i * (xs[i]?.getD 0) = val B xs + B ^ i * d := by
  induction xs generalizing i with
  | nil => simp at hi
  | cons x xs ih =>
    cases i with
    | zero => simp [val]; omega
    | succ i =>
      have := ih i (by simpa using hi)
      simp only [List.set_cons_succ, val, List.getElem?_cons_succ, Nat.pow_succ]
      grind

theorem val_replicate (B n : Nat) : val B (List.replicate n 0) = 0 := by
  induction n with
  | zero => rfl
  | succ n ih => simp [List.replicate_succ, val, ih]

theorem val_append_zero (B : Nat) (xs : List Nat) : val B (xs ++ [0]) = val B xs := by rw [val_snoc]; simp

/-- A top that is not 0: at least B to the power of the length less 1. -/
theorem val_ge {B : Nat} {xs : List Nat} (ht : Top xs) (hne : xs ≠ []) : B ^ (xs.length - 1) ≤ val B xs := by
  have ⟨d, hd⟩ : ∃ d, xs = xs.dropLast ++ [d] := ⟨xs.getLast hne, (List.dropLast_concat_getLast hne).symm⟩
  have hd0 : d ≠ 0 := by
    have := ht hne
    rw [hd] at this
    simpa using this
  rw [hd, val_snoc]
  simp only [List.length_append, List.length_dropLast, List.length_cons, List.length_nil]
  have : B ^ (xs.length - 1) * 1 ≤ B ^ (xs.length - 1) * d := Nat.mul_le_mul_left _ (by omega)
  simp only [Nat.zero_add, Nat.add_sub_cancel]
  omega

theorem Top.tail {x : Nat} {xs : List Nat} (h : Top (x :: xs)) : Top xs := by
  intro hne
  have := h (by simp)
  cases xs with
  | nil => exact absurd rfl hne
  | cons y ys => simpa [List.getLastD] using this

theorem val_pos {B : Nat} (hB : 0 < B) {xs : List Nat} (ht : Top xs) (hne : xs ≠ []) : 0 < val B xs :=
  Nat.lt_of_lt_of_le (Nat.pow_pos hB) (val_ge ht hne)

theorem val_zero_iff {B : Nat} (hB : 0 < B) {xs : List Nat} (ht : Top xs) : val B xs = 0 ↔ xs = [] := by
  constructor
  · intro h
    by_cases hne : xs = []
    · exact hne
    · have := val_pos hB ht hne; omega
  · rintro rfl; rfl

/-- Digits with a top that is not 0 are known by their value. -/
theorem val_inj {B : Nat} (hB : 0 < B) : ∀ {xs ys : List Nat}, Dig B xs → Dig B ys → Top xs → Top ys → val B xs = val B ys → xs = ys
  | [], ys, _, _, _, ty, h => by
    have := (val_zero_iff hB ty).1 (by rw [← h]; rfl)
    exact this.symm
  | x :: xs, [], _, _, tx, _, h => by
    have := (val_zero_iff hB tx).1 (by rw [h]; rfl)
    exact this
  | x :: xs, y :: ys, dx, dy, tx, ty, h => by
    simp only [val] at h
    have hx := dx.head
    have hy := dy.head
    have e : x = y := by
      have h1 := congrArg (· % B) h
      simp only [Nat.add_mul_mod_self_left] at h1
      rwa [Nat.mod_eq_of_lt hx, Nat.mod_eq_of_lt hy] at h1
    subst e
    have e2 : val B xs = val B ys := Nat.eq_of_mul_eq_mul_left hB (by omega)
    rw [val_inj hB dx.tail dy.tail tx.tail ty.tail e2]

theorem len_le_of_lt {B : Nat} (hB : 1 < B) {xs : List Nat} (ht : Top xs) {k : Nat} (h : val B xs < B ^ k) : xs.length ≤ k := by
  by_cases hne : xs = []
  · simp [hne]
  · have h1 := val_ge (B := B) ht hne
    have h2 : B ^ (xs.length - 1) < B ^ k := Nat.lt_of_le_of_lt h1 h
    have := (Nat.pow_lt_pow_iff_right hB).1 h2
    omega

/-- of two rows with tops the longer one is the greater -/
theorem val_lt_of_len {B : Nat} (hB : 0 < B) {xs ys : List Nat} (dx : Dig B xs) (ty : Top ys) (h : xs.length < ys.length) : val B xs < val B ys := by
  have h1 := val_lt hB dx
  have h2 := val_ge (B := B) ty (by intro e; simp [e] at h)
  exact Nat.lt_of_lt_of_le h1 (Nat.le_trans (Nat.pow_le_pow_right hB (by omega)) h2)

/-- the first place from the top at which two rows part decides -/
theorem val_lt_of_part {B : Nat} (hB : 0 < B) {xs ys : List Nat} (hl : xs.length = ys.length) (dx : Dig B xs) {i : Nat} (hi : i < xs.length)
    (hab : xs.drop (i + 1) = ys.drop (i + 1)) (hlt : xs[i]?.getD 0 < ys[i]?.getD 0) : val B xs < val B ys := by
  rw [val_split B xs (i + 1) (by omega), val_split B ys (i + 1) (by omega), hab, val_take_succ, val_take_succ]
  have h1 := val_lt hB (dx.take i)
  rw [List.length_take, Nat.min_eq_left (Nat.le_of_lt hi)] at h1
  have h2 : B ^ i * (xs[i]?.getD 0 + 1) ≤ B ^ i * (ys[i]?.getD 0) := Nat.mul_le_mul_left _ hlt
  rw [Nat.mul_add] at h2
  omega

theorem drop_eq_cons (xs : List Nat) (i : Nat) (hi : i < xs.length) : xs.drop i = xs[i]?.getD 0 :: xs.drop (i + 1) := by
  rw [List.drop_eq_getElem_cons hi, List.getElem?_eq_getElem hi]; rfl

theorem eq_of_drop {xs ys : List Nat} (hl : xs.length = ys.length) (i : Nat) (hi : i < xs.length) (h : xs.drop (i + 1) = ys.drop (i + 1)) (he : xs[i]?.getD 0 = ys[i]?.getD 0) :
    xs.drop i = ys.drop i := by
  rw [drop_eq_cons xs i hi, drop_eq_cons ys i (by omega), h, he]

theorem getD_append_zero (xs : List Nat) (i : Nat) : (xs ++ [0])[i]?.getD 0 = xs[i]?.getD 0 := by
  by_cases hi : i < xs.length
  · rw [List.getElem?_append_left hi]
  · rw [List.getElem?_append_right (by omega), List.getElem?_eq_none (l := xs) (by omega)]
    cases h : i - xs.length with
    | zero => rfl
    | succ n => rfl

theorem Top.nil : Top [] := fun h => absurd rfl h

/-- a row cut at n, all zeros from n on, and not 0 just below -/
theorem top_take {xs : List Nat} {n : Nat} (hn : n ≤ xs.length) (h : n = 0 ∨ xs[n - 1]?.getD 0 ≠ 0) : Top (xs.take n) := by
  intro hne
  rcases h with rfl | h
  · simp at hne
  · have hn0 : 0 < n := by
      rcases Nat.eq_zero_or_pos n with rfl | h0
      · simp at hne
      · exact h0
    have e : xs.take n = xs.take (n - 1) ++ [xs[n - 1]?.getD 0] := by
      have h1 : n - 1 < xs.length := by omega
      conv => lhs; rw [show n = (n - 1) + 1 by omega]
      rw [List.take_succ_eq_append_getElem h1, List.getElem?_eq_getElem h1]; rfl
    rw [e]
    simpa using h

theorem val_take_of_zeros {B : Nat} {xs : List Nat} {n : Nat} (h : ∀ j, n ≤ j → xs[j]?.getD 0 = 0) : val B (xs.take n) = val B xs := by
  have key : ∀ m, val B (xs.take (n + m)) = val B (xs.take n) := by
    intro m
    induction m with
    | zero => rfl
    | succ m ih => rw [← Nat.add_assoc, val_take_succ, h (n + m) (by omega), ih]; simp
  by_cases hn : n ≤ xs.length
  · have := key (xs.length - n)
    rw [show n + (xs.length - n) = xs.length by omega, List.take_of_length_le (Nat.le_refl _)] at this
    exact this.symm
  · rw [List.take_of_length_le (by omega)]

end Go.Proofs.YtbihgllfllkkaaaGreat

/- Words for memory: a slice that reads as a row of numbers; a block that is known whole. No function of the program is walked here. -/
set_option linter.unusedVariables false
namespace Go.Proofs.YtbihgllfllkkaaaGreat
open Go.RowKit

/-- The slice (ao, len) reads as the numbers xs. -/
def Sl (k : IntKind) (w : World) (ao : Option Addr) (len : Nat) (xs : List Nat) : Prop :=
  xs.length = len ∧ ∃ b off, (0 < len → ao = some ⟨b, off, none⟩) ∧ ∀ i, i < len → w.cell? ⟨b, off + i, none⟩ = some (.int k ((xs[i]?.getD 0 : Nat) : Int))

/-- The numbers as cells. -/
def cs (k : IntKind) (zs : List Nat) : Array Value := (zs.map fun z => Value.int k ((z : Nat) : Int)).toArray

/-- Block b holds the numbers zs, all of them, and may be written. -/
def Blk (k : IntKind) (w : World) (b : Nat) (e : TypeId) (zs : List Nat) : Prop := w.heap[b]? = some (.cells (cs k zs) e (0, 0))

theorem cs_get (k : IntKind) (zs : List Nat) (i : Nat) (hi : i < zs.length) : (cs k zs)[i]? = some (.int k ((zs[i]?.getD 0 : Nat) : Int)) := by
  simp [cs, List.getElem?_eq_getElem hi]

theorem cs_size (k : IntKind) (zs : List Nat) : (cs k zs).size = zs.length := by simp [cs]

theorem cs_set (k : IntKind) (zs : List Nat) (i x : Nat) : (cs k zs).setIfInBounds i (.int k (x : Int)) = cs k (zs.set i x) := by
  simp [cs, List.map_set]

section
variable {k : IntKind} {w w' : World} {b e : Nat} {zs : List Nat}

theorem Blk.cell (h : Blk k w b e zs) (i : Nat) (hi : i < zs.length) : w.cell? ⟨b, i, none⟩ = some (.int k ((zs[i]?.getD 0 : Nat) : Int)) := by
  simp only [World.cell?]
  rw [show w.heap[b]? = some (.cells (cs k zs) e (0, 0)) from h]
  simp [cs_get k zs i hi]

theorem Blk.frozen (h : Blk k w b e zs) (i : Nat) : w.frozen? ⟨b, i, none⟩ = false := by
  simp only [World.frozen?]
  rw [show w.heap[b]? = some (.cells (cs k zs) e (0, 0)) from h]
  simp

theorem Blk.lt (h : Blk k w b e zs) : b < w.heap.size := (Array.getElem?_eq_some_iff.1 h).1

theorem Blk.of_block (h : Blk k w b e zs) (hb : w'.heap[b]? = w.heap[b]?) : Blk k w' b e zs := hb.trans h

theorem Blk.below {B : Nat} (h : Blk k w b e zs) (hb : Below B w w') (hB : b < B) : Blk k w' b e zs := h.of_block (hb.block b hB)

theorem Blk.grown {row : Option Nat} (h : Blk k w b e zs) (hg : w.grownBy w' row) (hne : some b ≠ row) : Blk k w' b e zs := h.of_block (hg.block b h.lt hne)

theorem Blk.drew (h : Blk k w b e zs) : Blk k w.drew b e zs := h
theorem Blk.drewN (h : Blk k w b e zs) (n : Nat) : Blk k (w.drewN n) b e zs := h

theorem Blk.alloc (h : Blk k w b e zs) (o : Obj) : Blk k (w.alloc o) b e zs := h.of_block (Below.heap_alloc w o b h.lt)

theorem Blk.set (h : Blk k w b e zs) (i x : Nat) (v : Int) (hv : v = (x : Int)) : Blk k (w.setCell ⟨b, i, none⟩ (.int k v)) b e (zs.set i x) := by
  subst hv
  unfold Blk
  simp only [World.setCell, Array.getElem?_modify]
  rw [show w.heap[b]? = some (.cells (cs k zs) e (0, 0)) from h]
  simp [cs_set]

theorem Blk.new (w : World) (k : IntKind) (e : Nat) (zs : List Nat) : Blk k (w.alloc (.cells (cs k zs) e)) w.heap.size e zs := heap_alloc_new w _

theorem Blk.new' (w : World) (k : IntKind) (e : Nat) (zs : List Nat) (c : Array Value) (hc : c = cs k zs) : Blk k (w.alloc (.cells c e)) w.heap.size e zs := by
  subst hc; exact heap_alloc_new w _

/-- A view of a block that is known whole. -/
theorem Blk.sl (h : Blk k w b e zs) (off len : Nat) (hl : off + len ≤ zs.length) : Sl k w (some ⟨b, off, none⟩) len ((zs.drop off).take len) := by
  refine ⟨by simp; omega, b, off, fun _ => rfl, fun i hi => ?_⟩
  rw [h.cell (off + i) (by omega)]
  simp [hi]

theorem Blk.sl0 (h : Blk k w b e zs) (len : Nat) (hl : len ≤ zs.length) : Sl k w (some ⟨b, 0, none⟩) len (zs.take len) := by
  have := h.sl 0 len (by omega)
  simpa using this

theorem Blk.whole (h : Blk k w b e zs) {len : Nat} (hl : zs.length = len) : Sl k w (some ⟨b, 0, none⟩) len zs := by
  have := h.sl0 len (by omega)
  rwa [List.take_of_length_le (by omega)] at this

theorem Sl.nil (k : IntKind) (w : World) (ao : Option Addr) : Sl k w ao 0 [] := ⟨rfl, 0, 0, fun h => by omega, fun i hi => by omega⟩

theorem Sl.len {ao : Option Addr} {len : Nat} {xs : List Nat} (h : Sl k w ao len xs) : xs.length = len := h.1

theorem Sl.keep {ao : Option Addr} {len : Nat} {xs : List Nat} (h : Sl k w ao len xs) (hb : Below w.heap.size w w') : Sl k w' ao len xs := by
  obtain ⟨h1, b, off, h2, h3⟩ := h
  exact ⟨h1, b, off, h2, fun i hi => cell_later hb (h3 i hi)⟩

theorem Sl.drewN {ao : Option Addr} {len : Nat} {xs : List Nat} (h : Sl k w ao len xs) (n : Nat) : Sl k (w.drewN n) ao len xs := h
theorem Sl.drew {ao : Option Addr} {len : Nat} {xs : List Nat} (h : Sl k w ao len xs) : Sl k w.drew ao len xs := h

/-- Kept over writes to one block that is another. -/
theorem Sl.keepBut {ao : Option Addr} {len : Nat} {xs : List Nat} {W : World} (h : Sl k W ao len xs) (hb : Below W.heap.size W w) : Sl k w ao len xs := h.keep hb

end

theorem below_drewN1 {B : Nat} {a w : World} (h : Below B a w) (n : Nat) : Below B a (w.drewN n) := below_drewN h n

/-- Two steps, the second said of what was there behind the first. -/
theorem below_then {w w1 w2 : World} (h : Below w.heap.size w w1) (k : Below w1.heap.size w1 w2) : Below w.heap.size w w2 :=
  h.trans (k.mono h.size)

/-! Laws for make and copy, in these words. -/
theorem wpList_mk {P : Program} {w : World} {ops : Array Oper} {rest : List Oper} {o : Oper} {a : Act} {Q : Exit → Act → World → Prop}
    (hg : o.guard = none) (l : Operand) (t : TypeId) (hop : o.op = Op.makeSlice t l l) (e : TypeId) (k : IntKind) (bytes : Nat)
    (h1 : P.underlying t = some (.slice e)) (h2 : (P.info? e).map (fun i => (i.zero, i.size, i.bytes)) = some (some (.int k 0), 1, bytes))
    (L : Int) (n : Nat) (hl : a.eval l = .int .i64 L) (hL : L = (n : Int)) (b2 : bytes * n ≤ 281474976710656) (b3 : n ≤ 9223372036854775807)
    (hK : ∀ w1, Blk k w1 w.heap.size e (List.replicate n 0) → Below w.heap.size w w1 → w.heap.size < w1.heap.size → wpList P ops Q rest (a.put o.dst (.slice (some ⟨w.heap.size, 0, none⟩) n n)) w1) :
    wpList P ops Q (o :: rest) a w := by
  obtain ⟨i0, hi, hz0, hz1, hz2⟩ := info_parts h2
  refine wpList_plain hg fun K hK' => ?_
  subst hL
  have hb' : (i0.bytes : Int) * (n : Int) ≤ 281474976710656 := by
    have h : ((i0.bytes * n : Nat) : Int) ≤ 281474976710656 := by rw [hz2]; omega
    rwa [Int.natCast_mul] at h
  have hr := run_make (P := P) w t e i0 _ h1 hi hz0 .i64 .i64 n n (by omega) (Int.le_refl _) hb' (by omega)
  simp only [Int.toNat_natCast] at hr
  unfold Oper.wp
  simp [execOp, hop, hl, hr, Result.andThen]
  refine hK' _ _ (hK _ (Blk.new' w k e _ _ ?_) ((Below.refl _ _).alloc (Nat.le_refl _) _) (by simp))
  rw [hz1]
  apply Array.toList_inj.1
  simp [Value.cells, toList_madeCells_one, cs]

theorem wpList_cp {P : Program} {w : World} {ops : Array Oper} {rest : List Oper} {o : Oper} {a : Act} {Q : Exit → Act → World → Prop} (hgd : o.guard = none) (d s : Operand) (dT sT : TypeId)
    (ho : o.op = .call { callee := .builtin .copy, args := #[d, s], argTypes := #[dT, sT] }) (e : TypeId) (k : IntKind) (hu : P.underlying dT = some (.slice e)) (hsz : (P.info? e).map (·.size) = some 1)
    (g dLen dCap : Nat) (sp : Option Addr) (sLen sCap : Nat) (hd : a.eval d = .slice (some ⟨g, 0, none⟩) dLen dCap) (hs : a.eval s = .slice sp sLen sCap)
    (zs xs : List Nat) (hb : Blk k w g e zs) (hx : Sl k w sp sLen xs) (hle : sLen ≤ dLen) (hfit : sLen ≤ zs.length) (B : Nat) (w0 : World) (hbel : Below B w0 w) (hBg : B ≤ g)
    (h : ∀ w1, Blk k w1 g e (xs ++ zs.drop sLen) → Below B w0 w1 → w1.heap.size = w.heap.size → wpList P ops Q rest (a.put o.dst (goInt sLen)) w1) :
    wpList P ops Q (o :: rest) a w := by
  obtain ⟨hl, b, off, h0, hc⟩ := hx
  by_cases h00 : sLen = 0
  · subst h00
    obtain rfl : xs = [] := List.eq_nil_of_length_eq_zero hl
    refine wpList_copy_nothing hgd d s dT sT ho e hu hsz _ sp dLen dCap 0 sCap hd hs (by simp) ?_
    exact h w (by simpa using hb) hbel rfl
  · obtain rfl := h0 (by omega)
    have hl2 : (cs k xs).toList.length = sLen := by simp [cs, hl]
    refine wpList_copy_own hgd d s dT sT ho e hu hsz g 0 dLen dCap ⟨b, off, none⟩ sLen sCap hd hs (cs k zs) e hb (cs k xs).toList (by rw [hl2]; exact (Nat.min_eq_left hle).symm) ?_ (by rw [hl2, cs_size]; omega) ?_ ?_
    · intro j v hv
      have hj : j < sLen := by
        have := (List.getElem?_eq_some_iff.1 hv).1
        omega
      have e1 : ((⟨b, off, none⟩ : Addr).add j) = ⟨b, off + j, none⟩ := by unfold Addr.add; split <;> simp_all
      rw [e1, hc j hj]
      have := cs_get k xs j (by omega)
      rw [← hv]; simpa using this.symm
    · intro v hv
      simp [cs] at hv
      obtain ⟨z, _, rfl⟩ := hv
      rfl
    · rw [hl2]
      refine h _ ?_ (below_setRow hbel hBg _) (by simp)
      show _ = _
      rw [setRow_heap w g _ _ e _ hb]
      congr 2
      apply Array.toList_inj.1
      simp [cs]

def B32 : Nat := 4294967296
theorem B32_eq : B32 = 4294967296 := rfl
theorem B32_pos : 0 < B32 := by decide
theorem B32_gt : 1 < B32 := by decide

/-- The slice is the digits to the base 2^32 of n, without a zero at the top. -/
def N32 (w : World) (ao : Option Addr) (len : Nat) (n : Nat) : Prop := ∃ xs, Sl .u32 w ao len xs ∧ Dig B32 xs ∧ Top xs ∧ val B32 xs = n

theorem N32.keep {w w' : World} {ao : Option Addr} {len n : Nat} (h : N32 w ao len n) (hb : Below w.heap.size w w') : N32 w' ao len n := by
  obtain ⟨xs, h1, h2⟩ := h
  exact ⟨xs, h1.keep hb, h2⟩
theorem N32.drewN {w : World} {ao : Option Addr} {len n : Nat} (h : N32 w ao len n) (m : Nat) : N32 (w.drewN m) ao len n := h
theorem N32.nil (w : World) (ao : Option Addr) : N32 w ao 0 0 := ⟨[], Sl.nil _ _ _, Dig.nil _, Top.nil, rfl⟩
theorem N32.zero {w : World} {ao : Option Addr} {len n : Nat} (h : N32 w ao len n) : n = 0 ↔ len = 0 := by
  obtain ⟨xs, h1, h2, h3, rfl⟩ := h
  rw [val_zero_iff B32_pos h3, ← h1.len, List.length_eq_zero_iff]
theorem N32.lt {w : World} {ao : Option Addr} {len n : Nat} (h : N32 w ao len n) : n < B32 ^ len := by
  obtain ⟨xs, h1, h2, h3, rfl⟩ := h
  have := val_lt B32_pos h2
  rwa [h1.len] at this
theorem N32.len_le {w : World} {ao : Option Addr} {len n k : Nat} (h : N32 w ao len n) (hn : n < B32 ^ k) : len ≤ k := by
  obtain ⟨xs, h1, h2, h3, rfl⟩ := h
  rw [← h1.len]
  exact len_le_of_lt B32_gt h3 hn

theorem ret_slice {a b : Option Addr} {l l' c c' : Nat} (h1 : a = b) (h2 : l = l') (h3 : c = c') : Ending.returned (.slice a l c) = .returned (.slice b l' c') := by
  subst h1 h2 h3; rfl
theorem ret_int {k : IntKind} {a b : Int} (h : a = b) : Ending.returned (.int k a) = .returned (.int k b) := by rw [h]
theorem ret_bool {a b : Bool} (h : a = b) : Ending.returned (.bool a) = .returned (.bool b) := by rw [h]

end Go.Proofs.YtbihgllfllkkaaaGreat

/- The small functions on digits: digit, trim, duplicate, fromWord, toWord, isOne, isOdd. -/
set_option linter.unusedVariables false
namespace Go.Proofs.YtbihgllfllkkaaaGreat
open Go.RowKit

set_option maxHeartbeats 400000 in
theorem digit_any (ao : Option Addr) (len cap : Nat) (xs : List Nat) (I : Int) (i : Nat) (w : World) (hs : Sl .u32 w ao len xs) (hI : I = (i : Int)) :
    Calls Tryz.prog 131 #[.slice ao len cap, .int .i64 I] w fun e w' => e = .returned (.int .u32 ((xs[i]?.getD 0 : Nat) : Int)) ∧ w = w' := by
  subst hI
  obtain ⟨hx, b, off, h0, hc⟩ := hs
  have hX := Lib.hid hx
  clear hx
  by_cases hil : i < len
  · obtain rfl := h0 (by omega)
    have hci := hc i hil
    clear hc h0
    go_enter Tryz.func131, Tryz.ntmps131
    go_wp2
    go_ret
    exact ⟨rfl, rfl⟩
  · have hn : xs[i]?.getD 0 = 0 := by rw [List.getElem?_eq_none (by have := hX.out; omega)]; rfl
    rw [hn]
    clear hn h0 hc
    go_enter Tryz.func131, Tryz.ntmps131
    go_wp2
    go_ret
    exact ⟨rfl, rfl⟩

/-- digit inside a region that draws its order -/
theorem digit_quiet (ao : Option Addr) (len cap : Nat) (xs : List Nat) (I : Int) (i y n : Nat) (w : World) (hs : Sl .u32 w ao len xs) (hI : I = (i : Int)) (hy : y = xs[i]?.getD 0) :
    Calls Tryz.prog 131 #[.slice ao len cap, .int .i64 I] (w.drewN n) fun e w'' => e = .returned (.int .u32 (y : Int)) ∧ ∃ m, w'' = w.drewN m :=
  (digit_any ao len cap xs I i (w.drewN n) (hs.drewN n) hI).mono fun e w' ⟨h1, h2⟩ => ⟨by rw [h1, hy], n, h2.symm⟩

def TrimPost (w : World) (ao : Option Addr) (len : Nat) (xs : List Nat) (e : Ending) : Prop :=
  ∃ ao' n, e = .returned (.slice ao' n n) ∧ n ≤ len ∧ (0 < n → ao' = ao) ∧ (n = 0 → ao' = none) ∧ Top (xs.take n) ∧ (∀ j, n ≤ j → xs[j]?.getD 0 = 0)

set_option maxHeartbeats 400000 in
theorem trim_raw (ao : Option Addr) (len cap : Nat) (xs : List Nat) (w : World) (hs : Sl .u32 w ao len xs) (hcap : len ≤ cap) (hl : cap ≤ 9223372036854775807) :
    Calls Tryz.prog 130 #[.slice ao len cap] w fun e w' => TrimPost w ao len xs e ∧ w = w' := by
  obtain ⟨hx, b, off, h0, hc⟩ := hs
  have hX := Lib.hid hx
  clear hx
  go_enter Tryz.func130, Tryz.ntmps130
  go_wp2
  go_loop [3] (fun t => ∃ n : Nat, n ≤ len ∧ t = .int .i64 n ∧ ∀ j, n ≤ j → xs[j]?.getD 0 = 0) (fun t => (intOf t).toNat)
  case atStart => exact ⟨len, Nat.le_refl _, rfl, fun j hj => by rw [List.getElem?_eq_none (by have := hX.out; omega)]; rfl⟩
  case round =>
    obtain ⟨n, hn, rfl, hz⟩ := hrel
    have hZ := Lib.hid hz
    clear hz
    have hX2 := hX.out
    by_cases h1 : n = 0
    · subst h1
      go_wp2
      go_ret
      exact ⟨⟨none, 0, rfl, by omega, fun h => by omega, fun _ => rfl, by simpa using Top.nil, hZ.out⟩, rfl⟩
    · have hlen : 0 < len := by omega
      obtain rfl := h0 hlen
      obtain ⟨m, rfl⟩ : ∃ m, n = m + 1 := ⟨n - 1, by omega⟩
      have hcell := hc m (by omega)
      clear hc h0
      obtain ⟨x, hxe⟩ : ∃ x, x = xs[m]?.getD 0 := ⟨_, rfl⟩
      rw [← hxe] at hcell
      have hE := Lib.hid hxe
      clear hxe hX2
      by_cases hx0 : x = 0
      · subst hx0
        go_wp2
        go_round
        case rel => exact ⟨m, by omega, by go_num, fun j hj => (by
          by_cases hj' : j = m
          · subst hj'; exact hE.out.symm
          · exact hZ.out j (by omega))⟩
        case measure => simp [intOf]
      · have hb : ((x : Int) == 0) = false := by simp; omega
        go_wp2
        go_ret
        exact ⟨⟨_, m + 1, rfl, hn, fun _ => rfl, fun h => by omega, top_take (by have := hX.out; omega) (Or.inr (by have := hE.out; simp only [Nat.add_sub_cancel]; omega)), hZ.out⟩, rfl⟩

/-- What trim hands back reads as the row without the zeros at its top. -/
theorem trim_sl {k : IntKind} {w : World} {ao ao' : Option Addr} {len n : Nat} {xs : List Nat} (h : Sl k w ao len xs) (hn : n ≤ len) (ha : 0 < n → ao' = ao) : Sl k w ao' n (xs.take n) := by
  obtain ⟨h1, b, off, h2, h3⟩ := h
  refine ⟨by simp; omega, b, off, fun h0 => (ha h0).trans (h2 (by omega)), fun i hi => ?_⟩
  rw [h3 i (by omega)]
  simp [hi]

def DupPost (len : Nat) (xs : List Nat) (w : World) (e : Ending) (w' : World) : Prop :=
  (len = 0 ∧ e = .returned (.slice none 0 0) ∧ w = w') ∨
  (0 < len ∧ e = .returned (.slice (some ⟨w.heap.size, 0, none⟩) len len) ∧ Blk .u32 w' w.heap.size 107 xs ∧ Below w.heap.size w w' ∧ w.heap.size < w'.heap.size)

set_option maxHeartbeats 400000 in
theorem duplicate_any (ao : Option Addr) (len cap : Nat) (xs : List Nat) (w : World) (hs : Sl .u32 w ao len xs) (hl : len ≤ 1000000000) :
    Calls Tryz.prog 63 #[.slice ao len cap] w (DupPost len xs w) := by
  have hX := Lib.hid hs
  have hx := hs.len
  clear hs
  by_cases h0 : len = 0
  · have hb : ((len : Int) == 0) = true := by simp; omega
    have hx2 := Lib.hid hx
    clear hx
    subst h0
    go_enter Tryz.func63, Tryz.ntmps63
    go_wp2
    go_ret
    exact .inl ⟨rfl, rfl, rfl⟩
  · have hb : ((len : Int) == 0) = false := by simp; omega
    have hx2 := Lib.hid hx
    clear hx
    go_enter Tryz.func63, Tryz.ntmps63
    go_wp2_with (first
      | (at_make; refine wpList_mk rfl _ 29 rfl 107 .u32 4 Tryz.underlying29 (by kernel_rfl) _ len rfl rfl (by omega) (by omega) ?_; intro w1 hB1 hb1 hz1)
      | ((with_reducible show wpList _ _ _ _ _ _); refine wpList_cp rfl _ _ _ _ rfl 107 .u32 Tryz.underlying29 (by kernel_rfl) w.heap.size _ _ _ _ _ rfl rfl (List.replicate len 0) xs hB1 (hX.out.keep hb1) (Nat.le_refl _) (by simp) w.heap.size w hb1 (Nat.le_refl _) ?_; intro w2 hB2 hb2 hz2))
    go_ret
    refine .inr ⟨by omega, rfl, ?_, hb2, by omega⟩
    simpa using hB2

end Go.Proofs.YtbihgllfllkkaaaGreat
