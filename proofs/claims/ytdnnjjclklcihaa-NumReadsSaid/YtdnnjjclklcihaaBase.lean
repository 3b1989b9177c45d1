/- Words for memory: a slice that reads as a row of numbers; a block that is known whole. No function of the program is walked here. -/
import Derived.WalkKit
import Derived.Lib.Hide
import Derived.WalkSpells
import Derived.WalkLawsBesides
import Derived.BigQuiet
import Derived.Deep.QuietTactic
import Derived.Laws.CopyOwn
import Derived.Deep.DeepCutAuto
import Derived.Test.YtdnnjjclklcihaaMath
import Derived.Test.YtdnnjjclklcihaaProg
set_option linter.unusedVariables false
namespace Go.Proofs.Ytdnnjjclklcihaa
open Go.RowKit

/-- The slice (ao, len) reads as the numbers xs. -/
def Sl (k : IntKind) (w : World) (ao : Option Addr) (len : Nat) (xs : List Nat) : Prop :=
  xs.length = len ∧ ∃ b off, (0 < len → ao = some ⟨b, off, none⟩) ∧ ∀ i, i < len → w.cell? ⟨b, off + i, none⟩ = some (.int k ((xs[i]?.getD 0 : Nat) : Int))

/-- The numbers as cells. -/
def cs (k : IntKind) (zs : List Nat) : Array Value := (zs.map fun z => Value.int k ((z : Nat) : Int)).toArray

/-- Block b holds the numbers zs, all of them, and may be written. -/
def Blk (k : IntKind) (w : World) (b : Nat) (e : TypeId) (zs : List Nat) : Prop := w.heap[b]? = some (.cells (cs k zs) e (0, 0))

theorem cs_get (k : IntKind) (zs : List Nat) (i : Nat) (hi : i < zs.length) : (cs k zs)[i]? = some (.int k ((zs[i]?.getD 0 : Nat) : Int)) := by
  simp [cs, List.getElem?_eq_getElem hi]

theorem cs_size (k : IntKind) (zs : List Nat) : (cs k zs).size = zs.length := by simp [cs]

theorem cs_set (k : IntKind) (zs : List Nat) (i x : Nat) : (cs k zs).setIfInBounds i (.int k (x : Int)) = cs k (zs.set i x) := by
  simp [cs, List.map_set]

section
variable {k : IntKind} {w w' : World} {b e : Nat} {zs : List Nat}

theorem Blk.cell (h : Blk k w b e zs) (i : Nat) (hi : i < zs.length) : w.cell? ⟨b, i, none⟩ = some (.int k ((zs[i]?.getD 0 : Nat) : Int)) := by
  simp only [World.cell?]
  rw [show w.heap[b]? = some (.cells (cs k zs) e (0, 0)) from h]
  simp [cs_get k zs i hi]

theorem Blk.frozen (h : Blk k w b e zs) (i : Nat) : w.frozen? ⟨b, i, none⟩ = false := by
  simp only [World.frozen?]
  rw [show w.heap[b]? = some (.cells (cs k zs) e (0, 0)) from h]
  simp

theorem Blk.lt (h : Blk k w b e zs) : b < w.heap.size := (Array.getElem?_eq_some_iff.1 h).1

theorem Blk.of_block (h : Blk k w b e zs) (hb : w'.heap[b]? = w.heap[b]?) : Blk k w' b e zs := hb.trans h

theorem Blk.below {B : Nat} (h : Blk k w b e zs) (hb : Below B w w') (hB : b < B) : Blk k w' b e zs := h.of_block (hb.block b hB)

theorem Blk.grown {row : Option Nat} (h : Blk k w b e zs) (hg : w.grownBy w' row) (hne : some b ≠ row) : Blk k w' b e zs := h.of_block (hg.block b h.lt hne)

theorem Blk.drew (h : Blk k w b e zs) : Blk k w.drew b e zs := h
theorem Blk.drewN (h : Blk k w b e zs) (n : Nat) : Blk k (w.drewN n) b e zs := h

theorem Blk.alloc (h : Blk k w b e zs) (o : Obj) : Blk k (w.alloc o) b e zs := h.of_block (Below.heap_alloc w o b h.lt)

theorem Blk.set (h : Blk k w b e zs) (i x : Nat) (v : Int) (hv : v = (x : Int)) : Blk k (w.setCell ⟨b, i, none⟩ (.int k v)) b e (zs.set i x) := by
  subst hv
  unfold Blk
  simp only [World.setCell, Array.getElem?_modify]
  rw [show w.heap[b]? = some (.cells (cs k zs) e (0, 0)) from h]
  simp [cs_set]

theorem Blk.new (w : World) (k : IntKind) (e : Nat) (zs : List Nat) : Blk k (w.alloc (.cells (cs k zs) e)) w.heap.size e zs := heap_alloc_new w _

theorem Blk.new' (w : World) (k : IntKind) (e : Nat) (zs : List Nat) (c : Array Value) (hc : c = cs k zs) : Blk k (w.alloc (.cells c e)) w.heap.size e zs := by
  subst hc; exact heap_alloc_new w _

/-- A view of a block that is known whole. -/
theorem Blk.sl (h : Blk k w b e zs) (off len : Nat) (hl : off + len ≤ zs.length) : Sl k w (some ⟨b, off, none⟩) len ((zs.drop off).take len) := by
  refine ⟨by simp; omega, b, off, fun _ => rfl, fun i hi => ?_⟩
  rw [h.cell (off + i) (by omega)]
  simp [hi]

theorem Blk.sl0 (h : Blk k w b e zs) (len : Nat) (hl : len ≤ zs.length) : Sl k w (some ⟨b, 0, none⟩) len (zs.take len) := by
  have := h.sl 0 len (by omega)
  simpa using this

theorem Blk.whole (h : Blk k w b e zs) {len : Nat} (hl : zs.length = len) : Sl k w (some ⟨b, 0, none⟩) len zs := by
  have := h.sl0 len (by omega)
  rwa [List.take_of_length_le (by omega)] at this

theorem Sl.nil (k : IntKind) (w : World) (ao : Option Addr) : Sl k w ao 0 [] := ⟨rfl, 0, 0, fun h => by omega, fun i hi => by omega⟩

theorem Sl.len {ao : Option Addr} {len : Nat} {xs : List Nat} (h : Sl k w ao len xs) : xs.length = len := h.1

theorem Sl.keep {ao : Option Addr} {len : Nat} {xs : List Nat} (h : Sl k w ao len xs) (hb : Below w.heap.size w w') : Sl k w' ao len xs := by
  obtain ⟨h1, b, off, h2, h3⟩ := h
  exact ⟨h1, b, off, h2, fun i hi => cell_later hb (h3 i hi)⟩

theorem Sl.drewN {ao : Option Addr} {len : Nat} {xs : List Nat} (h : Sl k w ao len xs) (n : Nat) : Sl k (w.drewN n) ao len xs := h
theorem Sl.drew {ao : Option Addr} {len : Nat} {xs : List Nat} (h : Sl k w ao len xs) : Sl k w.drew ao len xs := h

/-- Kept over writes to one block that is another. -/
theorem Sl.keepBut {ao : Option Addr} {len : Nat} {xs : List Nat} {W : World} (h : Sl k W ao len xs) (hb : Below W.heap.size W w) : Sl k w ao len xs := h.keep hb

end

theorem below_drewN1 {B : Nat} {a w : World} (h : Below B a w) (n : Nat) : Below B a (w.drewN n) := below_drewN h n

/-- Two steps, the second said of what was there behind the first. -/
theorem below_then {w w1 w2 : World} (h : Below w.heap.size w w1) (k : Below w1.heap.size w1 w2) : Below w.heap.size w w2 :=
  h.trans (k.mono h.size)

/-! Laws for make and copy, in these words. -/
theorem wpList_mk {P : Program} {w : World} {ops : Array Oper} {rest : List Oper} {o : Oper} {a : Act} {Q : Exit → Act → World → Prop}
    (hg : o.guard = none) (l : Operand) (t : TypeId) (hop : o.op = Op.makeSlice t l l) (e : TypeId) (k : IntKind) (bytes : Nat)
    (h1 : P.underlying t = some (.slice e)) (h2 : (P.info? e).map (fun i => (i.zero, i.size, i.bytes)) = some (some (.int k 0), 1, bytes))
    (L : Int) (n : Nat) (hl : a.eval l = .int .i64 L) (hL : L = (n : Int)) (b2 : bytes * n ≤ 281474976710656) (b3 : n ≤ 9223372036854775807)
    (hK : ∀ w1, Blk k w1 w.heap.size e (List.replicate n 0) → Below w.heap.size w w1 → w.heap.size < w1.heap.size → wpList P ops Q rest (a.put o.dst (.slice (some ⟨w.heap.size, 0, none⟩) n n)) w1) :
    wpList P ops Q (o :: rest) a w := by
  obtain ⟨i0, hi, hz0, hz1, hz2⟩ := info_parts h2
  refine wpList_plain hg fun K hK' => ?_
  subst hL
  have hb' : (i0.bytes : Int) * (n : Int) ≤ 281474976710656 := by
    have h : ((i0.bytes * n : Nat) : Int) ≤ 281474976710656 := by rw [hz2]; omega
    rwa [Int.natCast_mul] at h
  have hr := run_make (P := P) w t e i0 _ h1 hi hz0 .i64 .i64 n n (by omega) (Int.le_refl _) hb' (by omega)
  simp only [Int.toNat_natCast] at hr
  unfold Oper.wp
  simp [execOp, hop, hl, hr, Result.andThen]
  refine hK' _ _ (hK _ (Blk.new' w k e _ _ ?_) ((Below.refl _ _).alloc (Nat.le_refl _) _) (by simp))
  rw [hz1]
  apply Array.toList_inj.1
  simp [Value.cells, toList_madeCells_one, cs]

theorem wpList_cp {P : Program} {w : World} {ops : Array Oper} {rest : List Oper} {o : Oper} {a : Act} {Q : Exit → Act → World → Prop} (hgd : o.guard = none) (d s : Operand) (dT sT : TypeId)
    (ho : o.op = .call { callee := .builtin .copy, args := #[d, s], argTypes := #[dT, sT] }) (e : TypeId) (k : IntKind) (hu : P.underlying dT = some (.slice e)) (hsz : (P.info? e).map (·.size) = some 1)
    (g dLen dCap : Nat) (sp : Option Addr) (sLen sCap : Nat) (hd : a.eval d = .slice (some ⟨g, 0, none⟩) dLen dCap) (hs : a.eval s = .slice sp sLen sCap)
    (zs xs : List Nat) (hb : Blk k w g e zs) (hx : Sl k w sp sLen xs) (hle : sLen ≤ dLen) (hfit : sLen ≤ zs.length) (B : Nat) (w0 : World) (hbel : Below B w0 w) (hBg : B ≤ g)
    (h : ∀ w1, Blk k w1 g e (xs ++ zs.drop sLen) → Below B w0 w1 → w1.heap.size = w.heap.size → wpList P ops Q rest (a.put o.dst (goInt sLen)) w1) :
    wpList P ops Q (o :: rest) a w := by
  obtain ⟨hl, b, off, h0, hc⟩ := hx
  by_cases h00 : sLen = 0
  · subst h00
    obtain rfl : xs = [] := List.eq_nil_of_length_eq_zero hl
    refine wpList_copy_nothing hgd d s dT sT ho e hu hsz _ sp dLen dCap 0 sCap hd hs (by simp) ?_
    exact h w (by simpa using hb) hbel rfl
  · obtain rfl := h0 (by omega)
    have hl2 : (cs k xs).toList.length = sLen := by simp [cs, hl]
    refine wpList_copy_own hgd d s dT sT ho e hu hsz g 0 dLen dCap ⟨b, off, none⟩ sLen sCap hd hs (cs k zs) e hb (cs k xs).toList (by rw [hl2]; exact (Nat.min_eq_left hle).symm) ?_ (by rw [hl2, cs_size]; omega) ?_ ?_
    · intro j v hv
      have hj : j < sLen := by
        have := (List.getElem?_eq_some_iff.1 hv).1
        omega
      have e1 : ((⟨b, off, none⟩ : Addr).add j) = ⟨b, off + j, none⟩ := by unfold Addr.add; split <;> simp_all
      rw [e1, hc j hj]
      have := cs_get k xs j (by omega)
      rw [← hv]; simpa using this.symm
    · intro v hv
      simp [cs] at hv
      obtain ⟨z, _, rfl⟩ := hv
      rfl
    · rw [hl2]
      refine h _ ?_ (below_setRow hbel hBg _) (by simp)
      show _ = _
      rw [setRow_heap w g _ _ e _ hb]
      congr 2
      apply Array.toList_inj.1
      simp [cs]

def B32 : Nat := 4294967296
theorem B32_eq : B32 = 4294967296 := rfl
theorem B32_pos : 0 < B32 := by decide
theorem B32_gt : 1 < B32 := by decide

/-- The slice is the digits to the base 2^32 of n, without a zero at the top. -/
def N32 (w : World) (ao : Option Addr) (len : Nat) (n : Nat) : Prop := ∃ xs, Sl .u32 w ao len xs ∧ Dig B32 xs ∧ Top xs ∧ val B32 xs = n

theorem N32.keep {w w' : World} {ao : Option Addr} {len n : Nat} (h : N32 w ao len n) (hb : Below w.heap.size w w') : N32 w' ao len n := by
  obtain ⟨xs, h1, h2⟩ := h
  exact ⟨xs, h1.keep hb, h2⟩
theorem N32.drewN {w : World} {ao : Option Addr} {len n : Nat} (h : N32 w ao len n) (m : Nat) : N32 (w.drewN m) ao len n := h
theorem N32.nil (w : World) (ao : Option Addr) : N32 w ao 0 0 := ⟨[], Sl.nil _ _ _, Dig.nil _, Top.nil, rfl⟩
theorem N32.zero {w : World} {ao : Option Addr} {len n : Nat} (h : N32 w ao len n) : n = 0 ↔ len = 0 := by
  obtain ⟨xs, h1, h2, h3, rfl⟩ := h
  rw [val_zero_iff B32_pos h3, ← h1.len, List.length_eq_zero_iff]
theorem N32.lt {w : World} {ao : Option Addr} {len n : Nat} (h : N32 w ao len n) : n < B32 ^ len := by
  obtain ⟨xs, h1, h2, h3, rfl⟩ := h
  have := val_lt B32_pos h2
  rwa [h1.len] at this
theorem N32.len_le {w : World} {ao : Option Addr} {len n k : Nat} (h : N32 w ao len n) (hn : n < B32 ^ k) : len ≤ k := by
  obtain ⟨xs, h1, h2, h3, rfl⟩ := h
  rw [← h1.len]
  exact len_le_of_lt B32_gt h3 hn

theorem ret_slice {a b : Option Addr} {l l' c c' : Nat} (h1 : a = b) (h2 : l = l') (h3 : c = c') : Ending.returned (.slice a l c) = .returned (.slice b l' c') := by
  subst h1 h2 h3; rfl
theorem ret_int {k : IntKind} {a b : Int} (h : a = b) : Ending.returned (.int k a) = .returned (.int k b) := by rw [h]
theorem ret_bool {a b : Bool} (h : a = b) : Ending.returned (.bool a) = .returned (.bool b) := by rw [h]

end Go.Proofs.Ytdnnjjclklcihaa
