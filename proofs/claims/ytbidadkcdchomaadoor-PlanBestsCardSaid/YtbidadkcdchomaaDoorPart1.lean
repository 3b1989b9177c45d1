/- Part 1 of the contracts: Words, Blk, PMath, PSrch, PW, PTask, PStay. -/
import Derived.WalkKit
import Derived.Lib.Hide
import Derived.WalkSpells
import Derived.WalkLawsBesides
import Derived.BigQuiet
import Derived.Deep.QuietTactic
import Derived.Laws.CopyOwn
import Derived.Deep.DeepCutAuto
import Derived.RegionTactic
import Derived.ChangeAlike
import Derived.Test.YtbidadkcdchomaaDoorProg
import Derived.Laws.Rows

/- Words for memory: a slice that reads as a row of integers; an own slice of integers that is appended to. No function of the program is walked here. -/
set_option linter.unusedVariables false
namespace Go.Proofs.YtbidadkcdchomaaDoor
open Go.RowKit

/-- The slice (ao, len) reads as the integers xs. -/
def Il (w : World) (ao : Option Addr) (len : Nat) (xs : List Int) : Prop :=
  xs.length = len ∧ ∃ b off, (0 < len → ao = some ⟨b, off, none⟩) ∧ ∀ i, i < len → w.cell? ⟨b, off + i, none⟩ = some (.int .i64 (xs[i]?.getD 0))

theorem Il.nil (w : World) (ao : Option Addr) : Il w ao 0 [] := ⟨rfl, 0, 0, fun h => by omega, fun i hi => by omega⟩
theorem Il.len {w : World} {ao : Option Addr} {len : Nat} {xs : List Int} (h : Il w ao len xs) : xs.length = len := h.1
theorem Il.keep {w w' : World} {ao : Option Addr} {len : Nat} {xs : List Int} (h : Il w ao len xs) (hb : Below w.heap.size w w') : Il w' ao len xs := by
  obtain ⟨h1, b, off, h2, h3⟩ := h
  exact ⟨h1, b, off, h2, fun i hi => cell_later hb (h3 i hi)⟩
theorem Il.drewN {w : World} {ao : Option Addr} {len : Nat} {xs : List Int} (h : Il w ao len xs) (n : Nat) : Il (w.drewN n) ao len xs := h
theorem Il.drew {w : World} {ao : Option Addr} {len : Nat} {xs : List Int} (h : Il w ao len xs) : Il w.drew ao len xs := h
/-- the block and the place of a slice that is not empty -/
theorem Il.at {w : World} {ao : Option Addr} {len : Nat} {xs : List Int} (h : Il w ao len xs) (h0 : 0 < len) : ∃ b off, ao = some ⟨b, off, none⟩ ∧ ∀ i, i < len → w.cell? ⟨b, off + i, none⟩ = some (.int .i64 (xs[i]?.getD 0)) := by
  obtain ⟨h1, b, off, h2, h3⟩ := h
  exact ⟨b, off, h2 h0, h3⟩

/-- The slice (v, n) starts at the head of a block of the call's own (from block base on) whose first cells are the integers xs; it may be written and appended to. -/
def OwnI (w : World) (base e : Nat) (v : Value) (n : Nat) (xs : List Int) : Prop := w.ownsRow base e 1 v n (xs.map fun z => Value.int .i64 z)

theorem OwnI.len {w : World} {base e n : Nat} {v : Value} {xs : List Int} (h : OwnI w base e v n xs) : xs.length = n := by
  have := h.1
  simpa using this
theorem OwnI.nil (w : World) (base e : Nat) : OwnI w base e (.slice none 0 0) 0 [] := World.ownsRow_nil _ _ _ _
theorem OwnI.ge {w : World} {base e n : Nat} {v : Value} {xs : List Int} (h : OwnI w base e v n xs) : ∀ b, v.ownBlock = some b → base ≤ b := fun b hb => (World.ownsRow.lt h b hb).1
theorem OwnI.later {w w' : World} {base e n : Nat} {v : Value} {xs : List Int} (h : OwnI w base e v n xs) (hb : Below w.heap.size w w') : OwnI w' base e v n xs := by
  refine ⟨h.1, ?_⟩
  rcases h.2 with h2 | ⟨g, cap, cur, h3, h4, h5, h6⟩
  · exact .inl h2
  · exact .inr ⟨g, cap, cur, h3, h4, (hb.block g (Array.getElem?_eq_some_iff.1 h5).1).trans h5, h6⟩
theorem OwnI.base {w : World} {base base' e n : Nat} {v : Value} {xs : List Int} (h : OwnI w base e v n xs) (hb : base' ≤ base) : OwnI w base' e v n xs := by
  refine ⟨h.1, ?_⟩
  rcases h.2 with h2 | ⟨g, cap, cur, h3, h4, h5⟩
  · exact .inl h2
  · exact .inr ⟨g, cap, cur, h3, by omega, h5⟩

/-- It is a slice (of no block, or of one) that reads as the integers. -/
theorem OwnI.il {w : World} {base e n : Nat} {v : Value} {xs : List Int} (h : OwnI w base e v n xs) : ∃ ao cap, v = .slice ao n cap ∧ n ≤ cap ∧ cap ≤ maxLen ∧ Il w ao n xs := by
  have hl := h.len
  rcases h.2 with ⟨rfl, rfl⟩ | ⟨g, cap, cur, rfl, hb, hg, hnc, hcm, hcs, htake⟩
  · obtain rfl := List.eq_nil_of_length_eq_zero hl
    exact ⟨none, 0, rfl, Nat.le_refl _, Nat.zero_le _, Il.nil _ _⟩
  · refine ⟨_, cap, rfl, hnc, hcm, hl, g, 0, fun _ => rfl, fun i hi => ?_⟩
    have := World.ownsRow.cellAt h i (by simp; omega)
    rw [Nat.zero_add, this]
    simp [List.getElem?_eq_getElem (show i < xs.length by omega)]

/-- 'append(s, x)' of one integer, s the call's own -/
theorem wpList_appI {P : Program} {w : World} {ops : Array Oper} {rest : List Oper} {o : Oper} {a : Act} {Q : Exit → Act → World → Prop} (hgd : o.guard = none) (s x : Operand) (t : TypeId)
    (ho : o.op = .call { callee := .builtin .append, args := #[s, x], argTypes := #[t, t] }) (base e : Nat) (bytes : Nat)
    (h1 : P.underlying t = some (.slice e)) (h2 : (P.info? e).map (fun i => (i.zero, i.size, i.bytes)) = some (some (.int .i64 0), 1, bytes))
    (v : Value) (n : Nat) (xs : List Int) (hs : a.eval s = v) (hown : OwnI w base e v n xs) (V : Int) (hx : a.eval x = .slice (some ⟨w.heap.size, 0, none⟩) 1 1)
    (hn : n ≤ 9000000000000) (hby : bytes ≤ 8) (hbase : base ≤ w.heap.size)
    (h : ∀ v' w', OwnI w' base e v' (n + 1) (xs ++ [V]) → Below base w w' → wpList P ops Q rest (a.put o.dst v') w') :
    wpList P ops Q (o :: rest) a (w.alloc (.cells #[.int .i64 V] e)) := by
  obtain ⟨i0, hi, hz0, hz1, hz2⟩ := info_parts h2
  have hown' : (w.alloc (.cells #[.int .i64 V] e)).ownsRow base e 1 v n (xs.map fun z => Value.int .i64 z) := World.ownsRow.alloc hown _
  have hb : (n + 1) * bytes ≤ 140737488355328 := by
    have : (n + 1) * bytes ≤ (n + 1) * 8 := Nat.mul_le_mul_left _ hby
    omega
  refine wpList_append_own _ hgd s x t ho base e i0 (.int .i64 0) 1 bytes h1 hi hz0 hz1 hz2 rfl (by decide) v n _ hs hown' ⟨w.heap.size, 0, none⟩ 1 1 [.int .i64 V] hx rfl ?_ ?_ (by unfold maxLen; omega) hb (by simp; omega) ?_
  · intro j u hj
    match j, hj with
    | 0, hj => simp at hj; subst hj; simp [Addr.add]
  · intro u hu; simp at hu; subst hu; rfl
  · intro v' w' hr hg _
    refine h v' w' ?_ ?_
    · unfold OwnI
      rw [List.map_append]
      exact hr
    · exact ((Below.refl base w).alloc hbase _).grown hg (by simp; omega) hown.ge

/-- 'append(s, xs...)' of a row of integers, s the call's own -/
theorem wpList_appRow {P : Program} {w : World} {ops : Array Oper} {rest : List Oper} {o : Oper} {a : Act} {Q : Exit → Act → World → Prop} (hgd : o.guard = none) (s x : Operand) (t : TypeId)
    (ho : o.op = .call { callee := .builtin .append, args := #[s, x], argTypes := #[t, t] }) (base e : Nat) (bytes : Nat)
    (h1 : P.underlying t = some (.slice e)) (h2 : (P.info? e).map (fun i => (i.zero, i.size, i.bytes)) = some (some (.int .i64 0), 1, bytes))
    (v : Value) (n : Nat) (xs : List Int) (hs : a.eval s = v) (hown : OwnI w base e v n xs) (ao : Option Addr) (m c : Nat) (ys : List Int) (hx : a.eval x = .slice ao m c) (hil : Il w ao m ys) (h0 : 0 < m)
    (hn : n + m ≤ 9000000000000) (hby : bytes ≤ 8) (hbase : base ≤ w.heap.size)
    (h : ∀ v' w', OwnI w' base e v' (n + m) (xs ++ ys) → Below base w w' → wpList P ops Q rest (a.put o.dst v') w') :
    wpList P ops Q (o :: rest) a w := by
  obtain ⟨i0, hi, hz0, hz1, hz2⟩ := info_parts h2
  have hb : (n + m) * bytes ≤ 140737488355328 := by
    have : (n + m) * bytes ≤ (n + m) * 8 := Nat.mul_le_mul_left _ hby
    omega
  have hl := hil.len
  obtain ⟨b, off, rfl, hc⟩ := hil.at h0
  refine wpList_append_own _ hgd s x t ho base e i0 (.int .i64 0) 1 bytes h1 hi hz0 hz1 hz2 rfl (by decide) v n _ hs hown ⟨b, off, none⟩ m c (ys.map fun z => Value.int .i64 z) hx (by simp [hl]) ?_ ?_ (by unfold maxLen; omega) hb hbase ?_
  · intro j u hj
    have hj' : j < ys.length := by
      have := (List.getElem?_eq_some_iff.1 hj).1
      simpa using this
    have e1 : ((⟨b, off, none⟩ : Addr).add j) = ⟨b, off + j, none⟩ := by unfold Addr.add; split <;> simp_all
    rw [e1, hc j (by omega)]
    rw [List.getElem?_map, List.getElem?_eq_getElem hj'] at hj
    rw [List.getElem?_eq_getElem hj']
    simpa using hj
  · intro u hu
    simp at hu
    obtain ⟨z, _, rfl⟩ := hu
    rfl
  · intro v' w' hr hg _
    refine h v' w' ?_ ?_
    · unfold OwnI
      rw [List.map_append]
      exact hr
    · exact (Below.refl base w).grown hg hbase hown.ge

/-- later, by draws alone -/
def Drew (w w' : World) : Prop := ∃ k, w' = w.drewN k
theorem Drew.refl (w : World) : Drew w w := ⟨0, rfl⟩
theorem Drew.more {w w' : World} (h : Drew w w') (k : Nat) : Drew w (w'.drewN k) := by
  obtain ⟨j, rfl⟩ := h
  exact ⟨j + k, by simp [World.drewN, Nat.add_assoc]⟩
theorem Drew.cell {w w' : World} (h : Drew w w') (a : Addr) : w'.cell? a = w.cell? a := by obtain ⟨k, rfl⟩ := h; rfl
theorem Drew.below {B : Nat} {w w' : World} (h : Drew w w') : Below B w w' := by obtain ⟨k, rfl⟩ := h; exact below_drewN (Below.refl _ _) k
theorem Drew.size {w w' : World} (h : Drew w w') : w'.heap.size = w.heap.size := by obtain ⟨k, rfl⟩ := h; rfl
theorem Drew.trans {w w' w'' : World} (h : Drew w w') (h' : Drew w' w'') : Drew w w'' := by obtain ⟨k, rfl⟩ := h'; exact h.more k
theorem Il.of_drew {w w' : World} {ao : Option Addr} {len : Nat} {xs : List Int} (h : Il w ao len xs) (hd : Drew w w') : Il w' ao len xs := by obtain ⟨k, rfl⟩ := hd; exact h
theorem below_then {w w1 w2 : World} (h : Below w.heap.size w w1) (k : Below w1.heap.size w1 w2) : Below w.heap.size w w2 := h.trans (k.mono h.size)
theorem below_drewN1 {B : Nat} {a w : World} (h : Below B a w) (n : Nat) : Below B a (w.drewN n) := below_drewN h n

/-- a list of integers is returned -/
def OutL (W : World) (zs : List Int) (e : Ending) (w' : World) : Prop :=
  ∃ ao cap, e = .returned (.slice ao zs.length cap) ∧ zs.length ≤ cap ∧ cap ≤ maxLen ∧ Il w' ao zs.length zs ∧ Below W.heap.size W w'

theorem retI {a b : Int} (h : a = b) : Ending.returned (.int .i64 a) = .returned (.int .i64 b) := by rw [h]
theorem retB {a b : Bool} (h : a = b) : Ending.returned (.bool a) = .returned (.bool b) := by rw [h]
end Go.Proofs.YtbidadkcdchomaaDoor

/- Words for the program's own blocks: a block of integers that is known whole; make and copy in these words; a region that only reads and draws its order, in the round of a range over a function. No function of the program is walked here. -/
set_option linter.unusedVariables false
set_option linter.unusedSimpArgs false
namespace Go.Proofs.YtbidadkcdchomaaDoor
open Go.RowKit

/-- the integers as cells -/
def ics (xs : List Int) : Array Value := (xs.map fun z => Value.int .i64 z).toArray
/-- Block b holds the integers xs, all of them, and may be written. -/
def Blk (w : World) (b : Nat) (xs : List Int) : Prop := w.heap[b]? = some (.cells (ics xs) 3 (0, 0))

theorem ics_get (xs : List Int) (i : Nat) (hi : i < xs.length) : (ics xs)[i]? = some (.int .i64 (xs[i]?.getD 0)) := by
  simp [ics, List.getElem?_eq_getElem hi]
theorem ics_size (xs : List Int) : (ics xs).size = xs.length := by simp [ics]
theorem ics_set (xs : List Int) (i : Nat) (x : Int) : (ics xs).setIfInBounds i (.int .i64 x) = ics (xs.set i x) := by
  simp [ics, List.map_set]

section
variable {w w' : World} {b : Nat} {xs : List Int}
theorem Blk.lt (h : Blk w b xs) : b < w.heap.size := (Array.getElem?_eq_some_iff.1 h).1
theorem Blk.cell (h : Blk w b xs) (i : Nat) (hi : i < xs.length) : w.cell? ⟨b, i, none⟩ = some (.int .i64 (xs[i]?.getD 0)) := by
  simp only [World.cell?]
  rw [show w.heap[b]? = some (.cells (ics xs) 3 (0, 0)) from h]
  simp [ics_get xs i hi]
theorem Blk.frozen (h : Blk w b xs) (i : Nat) : w.frozen? ⟨b, i, none⟩ = false := by
  simp only [World.frozen?]
  rw [show w.heap[b]? = some (.cells (ics xs) 3 (0, 0)) from h]
  simp
theorem Blk.of_block (h : Blk w b xs) (hb : w'.heap[b]? = w.heap[b]?) : Blk w' b xs := hb.trans h
theorem Blk.below {B : Nat} (h : Blk w b xs) (hb : Below B w w') (hB : b < B) : Blk w' b xs := h.of_block (hb.block b hB)
theorem Blk.keep (h : Blk w b xs) (hb : Below w.heap.size w w') : Blk w' b xs := h.below hb h.lt
theorem Blk.grown {row : Option Nat} (h : Blk w b xs) (hg : w.grownBy w' row) (hne : some b ≠ row) : Blk w' b xs := h.of_block (hg.block b h.lt hne)
theorem Blk.drewN (h : Blk w b xs) (n : Nat) : Blk (w.drewN n) b xs := h
theorem Blk.drew (h : Blk w b xs) : Blk w.drew b xs := h
theorem Blk.alloc (h : Blk w b xs) (o : Obj) : Blk (w.alloc o) b xs := h.of_block (Below.heap_alloc w o b h.lt)
theorem Blk.set (h : Blk w b xs) (i : Nat) (x : Int) : Blk (w.setCell ⟨b, i, none⟩ (.int .i64 x)) b (xs.set i x) := by
  unfold Blk
  simp only [World.setCell, Array.getElem?_modify]
  rw [show w.heap[b]? = some (.cells (ics xs) 3 (0, 0)) from h]
  simp [ics_set]
theorem Blk.other (h : Blk w b xs) (p : Addr) (hp : b ≠ p.block) (v : Value) : Blk (w.setCell p v) b xs := h.of_block (Below.heap_setCell w p v b hp)
theorem Blk.new (w : World) (xs : List Int) (c : Array Value) (hc : c = ics xs) : Blk (w.alloc (.cells c 3)) w.heap.size xs := by
  subst hc; exact heap_alloc_new w _
theorem Blk.il (h : Blk w b xs) {len : Nat} (hl : xs.length = len) : Il w (some ⟨b, 0, none⟩) len xs := by
  refine ⟨hl, b, 0, fun _ => rfl, fun i hi => ?_⟩
  rw [Nat.zero_add, h.cell i (by omega)]
theorem grownBy_set (w : World) (b i : Nat) (v : Value) : w.grownBy (w.setCell ⟨b, i, none⟩ v) (some b) :=
  ⟨rfl, rfl, rfl, by simp [World.setCell], fun k _ hk => Below.heap_setCell _ _ _ k (fun e => hk (by rw [e]))⟩
theorem grownBy_refl (w : World) (row : Option Nat) : w.grownBy w row := ⟨rfl, rfl, rfl, Nat.le_refl _, fun _ _ _ => rfl⟩
theorem grownBy_trans {a b c : World} {row : Option Nat} (h : a.grownBy b row) (k : b.grownBy c row) : a.grownBy c row :=
  ⟨k.os.trans h.os, k.tape.trans h.tape, k.output.trans h.output, Nat.le_trans h.size k.size, fun i hi hne => (k.block i (Nat.lt_of_lt_of_le hi h.size) hne).trans (h.block i hi hne)⟩
theorem grownBy_of_below {a c : World} {row : Option Nat} (h : Below a.heap.size a c) : a.grownBy c row := ⟨h.os, h.tape, h.output, h.size, fun k hk _ => h.block k hk⟩
theorem grownBy_drewN (w : World) (n : Nat) (row : Option Nat) : w.grownBy (w.drewN n) row := ⟨rfl, rfl, rfl, Nat.le_refl _, fun _ _ _ => rfl⟩
/-- what was there below the own block lies as it lay -/
theorem below_grown {B b : Nat} {a w w' : World} (h : Below B a w) (hg : w.grownBy w' (some b)) (hs : B ≤ w.heap.size) (hB : B ≤ b) : Below B a w' := h.grown hg hs (fun k e => by cases e; exact hB)
theorem Il.grown {ao : Option Addr} {len : Nat} {ys : List Int} (h : Il w ao len ys) (hg : w.grownBy w' (some b)) (hne : ∀ a, ao = some a → a.block ≠ b) : Il w' ao len ys := by
  obtain ⟨h1, c, off, h2, h3⟩ := h
  by_cases h0 : 0 < len
  · obtain rfl := h2 h0
    have hc : c ≠ b := hne _ rfl
    exact ⟨h1, c, off, h2, fun i hi => hg.cell (h3 i hi) (by simpa using hc)⟩
  · exact ⟨h1, c, off, h2, fun i hi => absurd hi (by omega)⟩
end

theorem wpList_mk {P : Program} {w : World} {ops : Array Oper} {rest : List Oper} {o : Oper} {a : Act} {Q : Exit → Act → World → Prop}
    (hg : o.guard = none) (l : Operand) (t : TypeId) (hop : o.op = Op.makeSlice t l l)
    (h1 : P.underlying t = some (.slice 3)) (h2 : (P.info? 3).map (fun i => (i.zero, i.size, i.bytes)) = some (some (.int .i64 0), 1, 8))
    (L : Int) (n : Nat) (hl : a.eval l = .int .i64 L) (hL : L = (n : Int)) (b2 : n ≤ 35184372088832)
    (hK : ∀ w1, Blk w1 w.heap.size (List.replicate n 0) → Below w.heap.size w w1 → w1.heap.size = w.heap.size + 1 → wpList P ops Q rest (a.put o.dst (.slice (some ⟨w.heap.size, 0, none⟩) n n)) w1) :
    wpList P ops Q (o :: rest) a w := by
  obtain ⟨i0, hi, hz0, hz1, hz2⟩ := info_parts h2
  refine wpList_plain hg fun K hK' => ?_
  subst hL
  have hb' : (i0.bytes : Int) * (n : Int) ≤ 281474976710656 := by
    have h : ((i0.bytes * n : Nat) : Int) ≤ 281474976710656 := by rw [hz2]; omega
    rwa [Int.natCast_mul] at h
  have hr := run_make (P := P) w t 3 i0 _ h1 hi hz0 .i64 .i64 n n (by omega) (Int.le_refl _) hb' (by omega)
  simp only [Int.toNat_natCast] at hr
  unfold Oper.wp
  simp [execOp, hop, hl, hr, Result.andThen]
  refine hK' _ _ (hK _ (Blk.new w _ _ ?_) ((Below.refl _ _).alloc (Nat.le_refl _) _) (by simp))
  rw [hz1]
  apply Array.toList_inj.1
  simp [Value.cells, toList_madeCells_one, ics]

/-- what copy does to a row that is as long as the list or longer -/
theorem run_cp {P : Program} {w : World} {dT sT ty : TypeId} (hu : P.underlying dT = some (.slice 3)) (hsz : (P.info? 3).map (·.size) = some 1)
    (g dLen dCap : Nat) (sp : Option Addr) (sLen sCap : Nat) (zs xs : List Int) (hb : Blk w g zs) (hx : Il w sp sLen xs) (hle : sLen ≤ dLen) (hfit : sLen ≤ zs.length) (h0 : 0 < sLen) :
    (Builtin.copy_ #[dT, sT] ty #[.slice (some ⟨g, 0, none⟩) dLen dCap, .slice sp sLen sCap]).run P w = .ok (goInt sLen) (w.setRow g (ics (xs ++ zs.drop sLen))) := by
  obtain ⟨hl, b, off, h1, hc⟩ := hx
  obtain rfl := h1 h0
  have hl2 : (ics xs).toList.length = sLen := by simp [ics, hl]
  have := run_copy_row (P := P) w dT sT ty 3 g 0 dLen dCap ⟨b, off, none⟩ sLen sCap (ics zs) 3 (ics xs).toList hu hsz hb (by rw [hl2]; exact (Nat.min_eq_left hle).symm) ?_ (by rw [hl2, ics_size]; omega) ?_
  · rw [this, hl2]
    congr 2
    apply Array.toList_inj.1
    simp [ics]
  · intro j v hv
    have hj : j < sLen := by
      have := (List.getElem?_eq_some_iff.1 hv).1
      omega
    have e1 : ((⟨b, off, none⟩ : Addr).add j) = ⟨b, off + j, none⟩ := by unfold Addr.add; split <;> simp_all
    rw [e1, hc j hj]
    have := ics_get xs j (by omega)
    rw [← hv]; simpa using this.symm
  · intro v hv
    simp [ics] at hv
    obtain ⟨z, _, rfl⟩ := hv
    rfl

theorem grownBy_setRow (w : World) (g : Nat) (cs : Array Value) : w.grownBy (w.setRow g cs) (some g) :=
  ⟨rfl, rfl, rfl, by simp [World.setRow], fun k _ hk => setRow_other w g k cs (fun e => hk (by rw [e]))⟩
theorem Blk.setRow {w : World} {g : Nat} {zs : List Int} (h : Blk w g zs) (ys : List Int) : Blk (w.setRow g (ics ys)) g ys := by
  show _ = _
  rw [setRow_heap w g _ _ 3 _ h]

theorem wpList_cp {P : Program} {w : World} {ops : Array Oper} {rest : List Oper} {o : Oper} {a : Act} {Q : Exit → Act → World → Prop} (hgd : o.guard = none) (d s : Operand) (dT sT : TypeId)
    (ho : o.op = .call { callee := .builtin .copy, args := #[d, s], argTypes := #[dT, sT] }) (hu : P.underlying dT = some (.slice 3)) (hsz : (P.info? 3).map (·.size) = some 1)
    (g dLen dCap : Nat) (sp : Option Addr) (sLen sCap : Nat) (hd : a.eval d = .slice (some ⟨g, 0, none⟩) dLen dCap) (hs : a.eval s = .slice sp sLen sCap)
    (zs xs : List Int) (hb : Blk w g zs) (hx : Il w sp sLen xs) (hle : sLen ≤ dLen) (hfit : sLen ≤ zs.length) (h0 : 0 < sLen)
    (h : ∀ w1, Blk w1 g (xs ++ zs.drop sLen) → w.grownBy w1 (some g) → w1.heap.size = w.heap.size → wpList P ops Q rest (a.put o.dst (goInt sLen)) w1) :
    wpList P ops Q (o :: rest) a w := by
  refine wpList_plain hgd fun K hK => ?_
  have hrun := run_cp (P := P) (w := w) (dT := dT) (sT := sT) (ty := o.type) hu hsz g dLen dCap sp sLen sCap zs xs hb hx hle hfit h0
  unfold Oper.wp
  simp [execOp, ho, resolve, invoke, builtin, hd, hs, hrun, Result.andThen]
  exact hK _ _ (h _ (hb.setRow _) (grownBy_setRow _ _ _) (by simp [World.setRow]))

end Go.Proofs.YtbidadkcdchomaaDoor

/- Package plan as functions on lists: the search with its crowds of times, and what it finds. No function of the program is walked here. -/
set_option linter.unusedVariables false
set_option linter.unusedSimpArgs false
namespace Go.Proofs.YtbidadkcdchomaaDoor

/-- a batch: when it is ready, and its times -/
structure BN where
  rdy : Nat
  tm : List Nat
instance : Inhabited BN := ⟨⟨0, []⟩⟩
def durN (b : BN) : Nat := b.tm.sum
def begN (b : BN) (k : Nat) : Nat := (b.tm.take k).sum
/-- the times from one to another one, as Go computes them -/
def mskN (x y : Nat) : Nat := (2 ^ y % 2 ^ 64 + 2 ^ 64 - 2 ^ x % 2 ^ 64) % 2 ^ 64
def stgN (b : BN) (k : Nat) : Nat × Nat := if k < b.tm.length then (begN b k, begN b (k + 1)) else (0, 0)
def jobN (b : BN) (k : Nat) : Nat := mskN (stgN b k).1 (stgN b k).2
def shlN (m s : Nat) : Nat := (m * 2 ^ s) % 2 ^ 64

theorem sub_bit (x y t : Nat) (h : x ≤ y) : (2 ^ y - 2 ^ x).testBit t = decide (x ≤ t ∧ t < y) := by
  have e : 2 ^ y - 2 ^ x = (2 ^ (y - x) - 1) * 2 ^ x := by
    rw [Nat.sub_mul, Nat.one_mul, ← Nat.pow_add, Nat.sub_add_cancel h]
  rw [e, ← Nat.shiftLeft_eq, Nat.testBit_shiftLeft, Nat.testBit_two_pow_sub_one]
  rw [Bool.eq_iff_iff]
  simp
  omega
theorem msk_bit (x y t : Nat) (h : x ≤ y) (ht : t < 64) : (mskN x y).testBit t = decide (x ≤ t ∧ t < y) := by
  unfold mskN
  by_cases hy : y < 64
  · have h1 : 2 ^ y < 2 ^ 64 := Nat.pow_lt_pow_right (by omega) hy
    have h2 : 2 ^ x ≤ 2 ^ y := Nat.pow_le_pow_right (by omega) h
    rw [Nat.mod_eq_of_lt h1, Nat.mod_eq_of_lt (Nat.lt_of_le_of_lt h2 h1)]
    have e : 2 ^ y + 2 ^ 64 - 2 ^ x = (2 ^ y - 2 ^ x) + 2 ^ 64 := by omega
    rw [e, Nat.add_mod_right, Nat.mod_eq_of_lt (Nat.lt_of_le_of_lt (Nat.sub_le _ _) h1)]
    exact sub_bit x y t h
  · have e0 : 2 ^ y % 2 ^ 64 = 0 := Nat.mod_eq_zero_of_dvd (Nat.pow_dvd_pow 2 (by omega))
    rw [e0, Nat.zero_add]
    by_cases hx : x < 64
    · have h1 : 2 ^ x < 2 ^ 64 := Nat.pow_lt_pow_right (by omega) hx
      have h0 : 0 < 2 ^ x := Nat.two_pow_pos x
      rw [Nat.mod_eq_of_lt h1, Nat.mod_eq_of_lt (by omega), sub_bit x 64 t (by omega)]
      rw [Bool.eq_iff_iff]; simp; omega
    · have e1 : 2 ^ x % 2 ^ 64 = 0 := Nat.mod_eq_zero_of_dvd (Nat.pow_dvd_pow 2 (by omega))
      rw [e1, Nat.sub_zero, Nat.mod_self, Nat.zero_testBit]
      simp; omega
theorem shl_bit (m s t : Nat) (ht : t < 64) : (shlN m s).testBit t = (decide (s ≤ t) && m.testBit (t - s)) := by
  unfold shlN
  rw [Nat.testBit_mod_two_pow, ← Nat.shiftLeft_eq, Nat.testBit_shiftLeft]
  simp [ht]
theorem shl_lt (m s : Nat) : shlN m s < 2 ^ 64 := Nat.mod_lt _ (by decide)
theorem msk_lt (x y : Nat) : mskN x y < 2 ^ 64 := Nat.mod_lt _ (by decide)
theorem high_bit {m t : Nat} (h : m < 2 ^ 64) (ht : 64 ≤ t) : m.testBit t = false :=
  Nat.testBit_lt_two_pow (Nat.lt_of_lt_of_le h (Nat.pow_le_pow_right (by omega) ht))

/-! ### crowds: the times at which more than k batches are there -/
def entR (more : Nat) : List Nat → List Nat
  | [] => []
  | s :: l => (s ||| more) :: entR (more &&& s) l
theorem entR_len : ∀ (l : List Nat) (m : Nat), (entR m l).length = l.length
  | [], _ => rfl
  | _ :: l, m => by simp [entR, entR_len l]
/-- the row tells, for each time, whether more than k batches are there -/
def RowOk (r : List Nat) (c : Nat → Nat) : Prop := ∀ k t, k < r.length → t < 64 → (r[k]!).testBit t = decide (k < c t)
theorem get_cons {α : Type} [Inhabited α] (a : α) (l : List α) (k : Nat) : (a :: l)[k + 1]! = l[k]! := by simp
theorem entR_bit : ∀ (l : List Nat) (m k t : Nat), k < l.length → ((entR m l)[k]!).testBit t = ((l[k]!).testBit t || (m.testBit t && (List.range k).all fun j => (l[j]!).testBit t))
  | [], _, _, _, h => absurd h (Nat.not_lt_zero _)
  | s :: l, m, 0, t, _ => by simp [entR, Nat.testBit_or]
  | s :: l, m, k + 1, t, h => by
    have ih := entR_bit l (m &&& s) k t (by simpa using h)
    show ((entR (m &&& s) l)[k]!).testBit t = _
    rw [ih, get_cons, Nat.testBit_and, List.range_succ_eq_map, List.all_cons, List.all_map]
    simp only [Function.comp_def, get_cons]
    simp [Bool.and_assoc]
theorem RowOk.enter {r : List Nat} {c : Nat → Nat} (h : RowOk r c) (m : Nat) : RowOk (entR m r) (fun t => c t + (if m.testBit t then 1 else 0)) := by
  intro k t hk ht
  rw [entR_len] at hk
  rw [entR_bit r m k t hk, h k t hk ht]
  have e : ((List.range k).all fun j => (r[j]!).testBit t) = decide (k ≤ c t) := by
    rw [Bool.eq_iff_iff, List.all_eq_true, decide_eq_true_eq]
    constructor
    · intro g
      by_cases h0 : k = 0
      · omega
      · have := g (k - 1) (List.mem_range.2 (by omega))
        rw [h (k - 1) t (by omega) ht, decide_eq_true_eq] at this
        omega
    · intro g j hj
      rw [h j t (by have := List.mem_range.1 hj; omega) ht, decide_eq_true_eq]
      have := List.mem_range.1 hj
      omega
  rw [e]
  by_cases hm : m.testBit t
  · simp only [hm, Bool.true_and, if_true]
    rw [Bool.eq_iff_iff]; simp; omega
  · simp [hm]

/-- three stages of eight sets, one after the other -/
def rowN (C : List Nat) (k : Nat) : List Nat := (C.drop (8 * k)).take 8
def enterN (ms : Nat → Nat) (s : Nat) (C : List Nat) : List Nat :=
  entR (shlN (ms 0) s) (rowN C 0) ++ (entR (shlN (ms 1) s) (rowN C 1) ++ entR (shlN (ms 2) s) (rowN C 2))
theorem row_len {C : List Nat} (h : C.length = 24) {k : Nat} (hk : k < 3) : (rowN C k).length = 8 := by
  unfold rowN; rw [List.length_take, List.length_drop, h]; omega
theorem enter_len {C : List Nat} (h : C.length = 24) (ms : Nat → Nat) (s : Nat) : (enterN ms s C).length = 24 := by
  unfold enterN
  rw [List.length_append, List.length_append, entR_len, entR_len, entR_len, row_len h (by omega), row_len h (by omega), row_len h (by omega)]
theorem enter_row {C : List Nat} (h : C.length = 24) (ms : Nat → Nat) (s : Nat) {k : Nat} (hk : k < 3) : rowN (enterN ms s C) k = entR (shlN (ms k) s) (rowN C k) := by
  have l0 : (entR (shlN (ms 0) s) (rowN C 0)).length = 8 := by rw [entR_len, row_len h (by omega)]
  have l1 : (entR (shlN (ms 1) s) (rowN C 1)).length = 8 := by rw [entR_len, row_len h (by omega)]
  have l2 : (entR (shlN (ms 2) s) (rowN C 2)).length = 8 := by rw [entR_len, row_len h (by omega)]
  have : k = 0 ∨ k = 1 ∨ k = 2 := by omega
  rcases this with rfl | rfl | rfl
  · show ((enterN ms s C).drop 0).take 8 = _
    rw [List.drop_zero]; unfold enterN; exact List.take_left' l0
  · show ((enterN ms s C).drop 8).take 8 = _
    unfold enterN
    rw [List.drop_left' l0, List.take_left' l1]
  · show ((enterN ms s C).drop 16).take 8 = _
    unfold enterN
    rw [← List.append_assoc, List.drop_left' (by rw [List.length_append, l0, l1]), List.take_of_length_le (by rw [l2]; exact Nat.le_refl _)]
theorem row_get {C : List Nat} (h : C.length = 24) {k j : Nat} (hk : k < 3) (hj : j < 8) : (rowN C k)[j]! = C[8 * k + j]! := by
  have hl := row_len h hk
  rw [getElem!_pos (rowN C k) j (by omega), getElem!_pos C (8 * k + j) (by omega)]
  unfold rowN
  rw [List.getElem_take, List.getElem_drop]

/-! ### the search -/
/-- a job: its first and last start, and its times in each stage -/
structure JobN where
  fst : Int
  lst : Int
  ms : Nat → Nat
instance : Inhabited JobN := ⟨⟨0, 0, fun _ => 0⟩⟩
def jobOf (fin : Nat) (b : BN) : JobN := ⟨b.rdy, (fin : Int) - (durN b : Int), jobN b⟩
def roomN (vs : List Nat) (C : List Nat) (j : JobN) (s : Nat) : Bool := (List.range vs.length).all fun k => C[8 * k + (vs[k]! - 1)]! &&& shlN (j.ms k) s == 0
/-- the starts that a job can have: at most 31 of them -/
def candsN (vs : List Nat) (C : List Nat) (j : JobN) : List Nat := (List.range 31).filter fun s => decide (j.fst ≤ (s : Int)) && decide ((s : Int) ≤ j.lst) && roomN vs C j s
def placeN (vs : List Nat) (js : List JobN) : List Nat → List Nat → Option (List Nat)
  | [], _ => some []
  | i :: rest, C => (candsN vs C js[i]!).findSome? fun s =>
      if rest.all fun j => !(candsN vs (enterN (js[i]!).ms s C) js[j]!).isEmpty then (placeN vs js rest (enterN (js[i]!).ms s C)).map (s :: ·) else none
theorem placeN_len (vs : List Nat) (js : List JobN) : ∀ (o C l : List Nat), placeN vs js o C = some l → l.length = o.length
  | [], _, l, h => by simp [placeN] at h; subst h; rfl
  | i :: rest, C, l, h => by
    unfold placeN at h
    obtain ⟨s, _, hs⟩ := List.exists_of_findSome?_eq_some h
    split at hs
    · rw [Option.map_eq_some_iff] at hs
      obtain ⟨l', hl', rfl⟩ := hs
      simp [placeN_len vs js rest _ l' hl']
    · cases hs
end Go.Proofs.YtbidadkcdchomaaDoor

/- What the search finds: the least starts with which there are never more batches than vessels. No function of the program is walked here. -/
set_option linter.unusedVariables false
set_option linter.unusedSimpArgs false
namespace Go.Proofs.YtbidadkcdchomaaDoor

/-- is the batch, if it starts at s, in stage k at time t? -/
def inN (b : BN) (s k t : Nat) : Bool := decide (k < b.tm.length) && (decide (s + begN b k ≤ t) && decide (t < s + begN b (k + 1)))
def cntN (l : List (BN × Nat)) (k t : Nat) : Nat := l.countP fun p => inN p.1 p.2 k t
def FitsN (vs : List Nat) (l : List (BN × Nat)) : Prop := ∀ k, k < vs.length → ∀ t, cntN l k t ≤ vs[k]!
structure GoodC (C : List Nat) (l : List (BN × Nat)) : Prop where
  len : C.length = 24
  row : ∀ k, k < 3 → RowOk (rowN C k) (cntN l k)
theorem cnt_cons (b : BN) (s : Nat) (l : List (BN × Nat)) (k t : Nat) : cntN ((b, s) :: l) k t = cntN l k t + (if inN b s k t then 1 else 0) := by
  unfold cntN; rw [List.countP_cons]
theorem cnt_app (l m : List (BN × Nat)) (k t : Nat) : cntN (l ++ m) k t = cntN l k t + cntN m k t := by
  unfold cntN; rw [List.countP_append]
theorem beg_le (b : BN) (k : Nat) : begN b k ≤ begN b (k + 1) := by
  unfold begN
  rw [List.take_add_one, List.sum_append]
  exact Nat.le_add_right _ _
theorem beg_dur (b : BN) : ∀ k, begN b k ≤ durN b := fun k => by
  unfold begN durN
  conv => rhs; rw [← List.take_append_drop k b.tm, List.sum_append]
  exact Nat.le_add_right _ _
theorem job_bit (b : BN) (s k t : Nat) (ht : t < 64) : (shlN (jobN b k) s).testBit t = inN b s k t := by
  rw [shl_bit _ _ _ ht]
  unfold jobN stgN inN
  by_cases hk : k < b.tm.length
  · rw [if_pos hk, msk_bit _ _ _ (beg_le b k) (by omega)]
    rw [Bool.eq_iff_iff]; simp [hk]; omega
  · rw [if_neg hk]
    have : mskN 0 0 = 0 := by decide
    rw [this]; simp [hk]
theorem and_bits {x y : Nat} (hy : y < 2 ^ 64) : (x &&& y == 0) = true ↔ ∀ t, t < 64 → ¬ (x.testBit t = true ∧ y.testBit t = true) := by
  rw [beq_iff_eq]
  constructor
  · intro h t ht ⟨a, b⟩
    have := Nat.testBit_and x y t
    rw [h, a, b] at this
    simp at this
  · intro h
    refine Nat.eq_of_testBit_eq fun t => ?_
    rw [Nat.testBit_and, Nat.zero_testBit]
    by_cases ht : t < 64
    · have := h t ht
      cases hx : x.testBit t <;> cases hyy : y.testBit t <;> simp_all
    · rw [high_bit hy (by omega)]; simp

structure HouseN (vs : List Nat) : Prop where
  few : vs.length ≤ 3
  one : ∀ k, k < vs.length → 1 ≤ vs[k]! ∧ vs[k]! ≤ 8
theorem room_iff {vs : List Nat} (hv : HouseN vs) {C : List Nat} {l : List (BN × Nat)} (h : GoodC C l) (j : JobN) (b : BN) (hj : j.ms = jobN b) (s : Nat) (hs : s + durN b < 64) :
    roomN vs C j s = true ↔ ∀ k, k < vs.length → ∀ t, inN b s k t = true → cntN l k t + 1 ≤ vs[k]! := by
  unfold roomN
  rw [List.all_eq_true]
  have hin : ∀ k t, inN b s k t = true → t < 64 := by
    intro k t e
    unfold inN at e
    simp at e
    have := beg_dur b (k + 1)
    omega
  constructor
  · intro g k hk t e
    have g1 := (and_bits (shl_lt _ _)).1 (g k (List.mem_range.2 hk)) t (hin k t e)
    have ⟨v1, v8⟩ := hv.one k hk
    have k3 : k < 3 := by have := hv.few; omega
    have r := h.row k k3 (vs[k]! - 1) t (by rw [row_len h.len k3]; omega) (hin k t e)
    rw [row_get h.len k3 (by omega)] at r
    rw [r, hj, job_bit b s k t (hin k t e), decide_eq_true_eq] at g1
    have : ¬ vs[k]! - 1 < cntN l k t := fun c => g1 ⟨c, e⟩
    omega
  · intro g k hk
    have hk := List.mem_range.1 hk
    refine (and_bits (shl_lt _ _)).2 fun t ht ⟨e1, e2⟩ => ?_
    have ⟨v1, v8⟩ := hv.one k hk
    have k3 : k < 3 := by have := hv.few; omega
    have r := h.row k k3 (vs[k]! - 1) t (by rw [row_len h.len k3]; omega) ht
    rw [row_get h.len k3 (by omega), e1, eq_comm, decide_eq_true_eq] at r
    rw [hj, job_bit b s k t ht] at e2
    have := g k hk t e2
    omega
theorem GoodC.enter {C : List Nat} {l : List (BN × Nat)} (h : GoodC C l) (b : BN) (s : Nat) : GoodC (enterN (jobN b) s C) ((b, s) :: l) := by
  refine ⟨enter_len h.len _ _, fun k hk => ?_⟩
  rw [enter_row h.len _ _ hk]
  have := (h.row k hk).enter (shlN (jobN b k) s)
  intro i t hi ht
  rw [this i t hi ht, cnt_cons]
  simp only [job_bit b s k t ht]
theorem fits_cons {vs : List Nat} {l : List (BN × Nat)} {b : BN} {s : Nat} : FitsN vs ((b, s) :: l) ↔ FitsN vs l ∧ ∀ k, k < vs.length → ∀ t, inN b s k t = true → cntN l k t + 1 ≤ vs[k]! := by
  constructor
  · intro h
    refine ⟨fun k hk t => ?_, fun k hk t e => ?_⟩
    · have := h k hk t; rw [cnt_cons] at this; omega
    · have := h k hk t; rw [cnt_cons, if_pos e] at this; exact this
  · rintro ⟨h, g⟩ k hk t
    rw [cnt_cons]
    split
    · exact g k hk t (by assumption)
    · exact h k hk t

/-- may the batch start then? -/
def InR (fin : Nat) (b : BN) (s : Nat) : Prop := b.rdy ≤ s ∧ s + durN b ≤ fin
theorem mem_cands {vs : List Nat} (hv : HouseN vs) {C : List Nat} {l : List (BN × Nat)} (h : GoodC C l) {fin : Nat} (hf : fin ≤ 30) (b : BN) (s : Nat) :
    s ∈ candsN vs C (jobOf fin b) ↔ InR fin b s ∧ ∀ k, k < vs.length → ∀ t, inN b s k t = true → cntN l k t + 1 ≤ vs[k]! := by
  unfold candsN InR
  rw [List.mem_filter, List.mem_range]
  simp only [Bool.and_eq_true, jobOf]
  constructor
  · rintro ⟨h1, ⟨h2, h3⟩, h4⟩
    have h2 : (b.rdy : Int) ≤ (s : Int) := of_decide_eq_true h2
    have h3 : (s : Int) ≤ (fin : Int) - (durN b : Int) := of_decide_eq_true h3
    exact ⟨⟨by omega, by omega⟩, (room_iff hv h _ b rfl s (by omega)).1 h4⟩
  · rintro ⟨⟨h1, h2⟩, h3⟩
    exact ⟨by omega, ⟨decide_eq_true (show (b.rdy : Int) ≤ (s : Int) by omega), decide_eq_true (show (s : Int) ≤ (fin : Int) - (durN b : Int) by omega)⟩, (room_iff hv h _ b rfl s (by omega)).2 h3⟩
theorem cands_sorted (vs C : List Nat) (j : JobN) : (candsN vs C j).Pairwise (· < ·) := List.Pairwise.filter _ List.pairwise_lt_range

def AllR (fin : Nat) (bs : List BN) : List Nat → List Nat → Prop
  | [], [] => True
  | i :: o, s :: ss => InR fin bs[i]! s ∧ AllR fin bs o ss
  | _, _ => False
/-- batches with their starts, on top of others -/
def onN (bs : List BN) : List Nat → List Nat → List (BN × Nat) → List (BN × Nat)
  | i :: o, s :: ss, l => onN bs o ss ((bs[i]!, s) :: l)
  | _, _, l => l
def leLex : List Nat → List Nat → Prop
  | a :: l, b :: m => a < b ∨ (a = b ∧ leLex l m)
  | _, _ => True
theorem on_cnt (bs : List BN) : ∀ (o ss : List Nat) (l m : List (BN × Nat)), (∀ k t, cntN l k t ≤ cntN m k t) → ∀ k t, cntN (onN bs o ss l) k t ≤ cntN (onN bs o ss m) k t
  | i :: o, s :: ss, l, m, h, k, t => on_cnt bs o ss _ _ (fun k t => by rw [cnt_cons, cnt_cons]; have := h k t; omega) k t
  | [], _, l, m, h, k, t => h k t
  | _ :: _, [], l, m, h, k, t => h k t
theorem on_ge (bs : List BN) : ∀ (o ss : List Nat) (l : List (BN × Nat)), ∀ k t, cntN l k t ≤ cntN (onN bs o ss l) k t
  | i :: o, s :: ss, l, k, t => Nat.le_trans (by rw [cnt_cons]; exact Nat.le_add_right _ _) (on_ge bs o ss ((bs[i]!, s) :: l) k t)
  | [], _, l, k, t => Nat.le_refl _
  | _ :: _, [], l, k, t => Nat.le_refl _
theorem fits_of_on {vs : List Nat} {bs : List BN} {o ss : List Nat} {l : List (BN × Nat)} (h : FitsN vs (onN bs o ss l)) : FitsN vs l := fun k hk t => Nat.le_trans (on_ge bs o ss l k t) (h k hk t)
/-- each of the batches that are left could start -/
theorem one_of_on {vs : List Nat} {fin : Nat} {bs : List BN} : ∀ (o ss : List Nat) (l : List (BN × Nat)), AllR fin bs o ss → FitsN vs (onN bs o ss l) → ∀ j ∈ o, ∃ s, InR fin bs[j]! s ∧ FitsN vs ((bs[j]!, s) :: l)
  | i :: o, s :: ss, l, ha, hf, j, hj => by
    rcases List.mem_cons.1 hj with rfl | hj
    · exact ⟨s, ha.1, fits_of_on hf⟩
    · obtain ⟨u, hu, hfu⟩ := one_of_on o ss _ ha.2 hf j hj
      refine ⟨u, hu, fun k hk t => ?_⟩
      have := hfu k hk t
      rw [cnt_cons, cnt_cons] at this
      rw [cnt_cons]
      omega
  | [], _, _, _, _, j, hj => by cases hj
  | _ :: _, [], _, ha, _, _, _ => ha.elim

theorem place_ok {vs : List Nat} (hv : HouseN vs) {fin : Nat} (hf : fin ≤ 30) (bs : List BN) (js : List JobN) (hjs : js = bs.map (jobOf fin)) : ∀ (o : List Nat) (C : List Nat) (l : List (BN × Nat)),
    (∀ i ∈ o, i < bs.length) → GoodC C l → FitsN vs l →
    (∀ ss, placeN vs js o C = some ss → AllR fin bs o ss ∧ FitsN vs (onN bs o ss l) ∧ ∀ ss', AllR fin bs o ss' → FitsN vs (onN bs o ss' l) → leLex ss ss') ∧
    (placeN vs js o C = none → ∀ ss', AllR fin bs o ss' → ¬ FitsN vs (onN bs o ss' l))
  | [], C, l, _, hC, hl => by
    refine ⟨fun ss h => ?_, fun h => by simp [placeN] at h⟩
    simp [placeN] at h
    subst h
    exact ⟨trivial, hl, fun _ _ _ => trivial⟩
  | i :: o, C, l, hi, hC, hl => by
    have hjob : ∀ j, j < bs.length → js[j]! = jobOf fin bs[j]! := fun j hj => by
      subst hjs
      rw [getElem!_pos _ j (by simpa using hj), getElem!_pos bs j hj, List.getElem_map]
    have hib := hi i List.mem_cons_self
    have hji := hjob i hib
    -- what one start comes to
    have one : ∀ s, s ∈ candsN vs C js[i]! →
        (∀ x, (if o.all fun j => !(candsN vs (enterN (js[i]!).ms s C) js[j]!).isEmpty then (placeN vs js o (enterN (js[i]!).ms s C)).map (s :: ·) else none) = some x →
          AllR fin bs (i :: o) x ∧ FitsN vs (onN bs (i :: o) x l) ∧ ∃ ss, x = s :: ss ∧ ∀ ss', AllR fin bs o ss' → FitsN vs (onN bs o ss' ((bs[i]!, s) :: l)) → leLex ss ss') ∧
        ((if o.all fun j => !(candsN vs (enterN (js[i]!).ms s C) js[j]!).isEmpty then (placeN vs js o (enterN (js[i]!).ms s C)).map (s :: ·) else none) = none →
          ∀ ss', AllR fin bs o ss' → ¬ FitsN vs (onN bs o ss' ((bs[i]!, s) :: l))) := by
      intro s hs
      rw [hji] at hs ⊢
      obtain ⟨hr, hroom⟩ := (mem_cands hv hC hf _ s).1 hs
      have hC2 : GoodC (enterN (jobOf fin bs[i]!).ms s C) ((bs[i]!, s) :: l) := hC.enter bs[i]! s
      have hl2 : FitsN vs ((bs[i]!, s) :: l) := fits_cons.2 ⟨hl, hroom⟩
      have ih := place_ok hv hf bs js hjs o (enterN (jobOf fin bs[i]!).ms s C) _ (fun j hj => hi j (List.mem_cons_of_mem _ hj)) hC2 hl2
      constructor
      · intro x hx
        split at hx
        · rw [Option.map_eq_some_iff] at hx
          obtain ⟨ss, hss, rfl⟩ := hx
          obtain ⟨a, b, c⟩ := ih.1 ss hss
          exact ⟨⟨hr, a⟩, b, ss, rfl, c⟩
        · cases hx
      · intro hx ss' ha hfit
        split at hx
        · rw [Option.map_eq_none_iff] at hx
          exact ih.2 hx ss' ha hfit
        · rename_i hall
          apply hall
          rw [List.all_eq_true]
          intro j hj
          obtain ⟨u, hu, hfu⟩ := one_of_on o ss' _ ha hfit j hj
          rw [hjob j (hi j (List.mem_cons_of_mem _ hj))]
          have : u ∈ candsN vs (enterN (jobOf fin bs[i]!).ms s C) (jobOf fin bs[j]!) := (mem_cands hv hC2 hf _ u).2 ⟨hu, (fits_cons.1 hfu).2⟩
          cases hcs : candsN vs (enterN (jobOf fin bs[i]!).ms s C) (jobOf fin bs[j]!) with
          | nil => rw [hcs] at this; cases this
          | cons _ _ => rfl
    have hmem : ∀ s ss', AllR fin bs (i :: o) (s :: ss') → FitsN vs (onN bs (i :: o) (s :: ss') l) → s ∈ candsN vs C js[i]! := fun s ss' ha hfit => by
      rw [hji]
      exact (mem_cands hv hC hf _ s).2 ⟨ha.1, (fits_cons.1 (fits_of_on hfit)).2⟩
    unfold placeN
    constructor
    · intro x hx
      obtain ⟨pre, s, post, hcs, hfx, hpre⟩ := List.findSome?_eq_some_iff.1 hx
      have hs : s ∈ candsN vs C js[i]! := by rw [hcs]; simp
      obtain ⟨a, b, ss, rfl, c⟩ := (one s hs).1 x hfx
      refine ⟨a, b, fun x' ha' hf' => ?_⟩
      match x', ha', hf' with
      | [], ha', _ => exact ha'.elim
      | s' :: ss', ha', hf' =>
        have hm := hmem s' ss' ha' hf'
        have hsort := cands_sorted vs C js[i]!
        rw [hcs] at hm hsort
        rcases List.mem_append.1 hm with h1 | h1
        · exact absurd hf' ((one s' (by rw [hcs]; exact List.mem_append_left _ h1)).2 (hpre s' h1) ss' ha'.2)
        · rcases List.mem_cons.1 h1 with rfl | h1
          · exact .inr ⟨rfl, c ss' ha'.2 hf'⟩
          · have := (List.pairwise_append.1 hsort).2.1
            exact .inl ((List.pairwise_cons.1 this).1 s' h1)
    · intro hx x' ha' hf'
      match x', ha', hf' with
      | [], ha', _ => exact ha'.elim
      | s' :: ss', ha', hf' =>
        have hm := hmem s' ss' ha' hf'
        exact (one s' hm).2 (List.findSome?_eq_none_iff.1 hx s' hm) ss' ha'.2 hf'

/-- no batch is there yet -/
theorem good_zero : GoodC (List.replicate 24 0) [] := by
  refine ⟨by simp, fun k hk i t hi ht => ?_⟩
  have hl : (rowN (List.replicate 24 0) k).length = 8 := row_len (by simp) hk
  rw [row_get (by simp) hk (by omega), getElem!_pos _ _ (by simp; omega), List.getElem_replicate]
  simp [cntN]
theorem fits_zero (vs : List Nat) : FitsN vs [] := fun k hk t => by simp [cntN]
end Go.Proofs.YtbidadkcdchomaaDoor

/- Words for plan: houses and batches in memory; what is a task. No function of the program is walked here. -/
set_option linter.unusedVariables false
set_option linter.unusedSimpArgs false
namespace Go.Proofs.YtbidadkcdchomaaDoor
open Go.RowKit

/-- The call answers whether p holds, and leaves the world as it was / but for draws / but for new blocks. -/
def YesNo (p : Prop) (W : World) (e : Ending) (w' : World) : Prop := ((p ∧ e = .returned (.bool true)) ∨ (¬ p ∧ e = .returned (.bool false))) ∧ w' = W
def YesNoD (p : Prop) (W : World) (e : Ending) (w' : World) : Prop := ((p ∧ e = .returned (.bool true)) ∨ (¬ p ∧ e = .returned (.bool false))) ∧ Drew W w'
def YesNoB (p : Prop) (W : World) (e : Ending) (w' : World) : Prop := ((p ∧ e = .returned (.bool true)) ∨ (¬ p ∧ e = .returned (.bool false))) ∧ Below W.heap.size W w'
/-- an integer is returned -/
def OutZ (z : Int) (W : World) (e : Ending) (w' : World) : Prop := e = .returned (.int .i64 z) ∧ Below W.heap.size W w'
def In (low high : Int) (xs : List Int) : Prop := ∀ j, j < xs.length → low ≤ xs[j]?.getD 0 ∧ xs[j]?.getD 0 ≤ high
theorem box_below (W : World) (o : Obj) : Below W.heap.size W (W.alloc o) := (Below.refl _ _).alloc (Nat.le_refl _) _
theorem drew_below (w : World) : Below w.heap.size w w.drew := (Below.refl _ _).drew
theorem row_keep {w w' : World} {b : Nat} {o : Obj} (hb : Below w.heap.size w w') (h : w.heap[b]? = some o) : w'.heap[b]? = some o := (hb.block b (Array.getElem?_eq_some_iff.1 h).1).trans h

structure Bt where
  rdy : Int
  tm : List Int
instance : Inhabited Bt := ⟨⟨0, []⟩⟩
def bI (b : BN) : Bt := ⟨(b.rdy : Int), b.tm.map fun n : Nat => (n : Int)⟩
def vI (l : List Nat) : List Int := l.map fun n : Nat => (n : Int)
theorem vI_len (l : List Nat) : (vI l).length = l.length := by simp [vI]
theorem vI_get (l : List Nat) (i : Nat) : (vI l)[i]?.getD 0 = ((l[i]! : Nat) : Int) := by
  unfold vI
  rw [List.getElem?_map]
  by_cases h : i < l.length
  · rw [List.getElem?_eq_getElem h, getElem!_pos l i h]; rfl
  · rw [List.getElem?_eq_none (by omega), getElem!_neg l i h]; rfl

/-- a batch, its times being the slice (ta, tl, tc) -/
structure BatAt (w : World) (g o : Nat) (x : Bt) (ta : Option Addr) (tl tc : Nat) : Prop where
  c0 : w.cell? ⟨g, o, none⟩ = some (.int .i64 x.rdy)
  c1 : w.cell? ⟨g, o + 1, none⟩ = some (.slice ta tl tc)
  il : Il w ta tl x.tm
  le : tl ≤ 9223372036854775807
theorem BatAt.keep {w w' : World} {g o : Nat} {x : Bt} {ta : Option Addr} {tl tc : Nat} (h : BatAt w g o x ta tl tc) (hb : Below w.heap.size w w') : BatAt w' g o x ta tl tc :=
  ⟨cell_later hb h.c0, cell_later hb h.c1, h.il.keep hb, h.le⟩
/-- a slice of batches -/
def Bats (w : World) (ao : Option Addr) (len : Nat) (xs : List Bt) : Prop :=
  xs.length = len ∧ ∃ g o, (0 < len → ao = some ⟨g, o, none⟩) ∧ ∀ i, i < len → ∃ ta tl tc, BatAt w g (o + i * 2) xs[i]! ta tl tc
theorem Bats.at {w : World} {ao : Option Addr} {len : Nat} {xs : List Bt} (h : Bats w ao len xs) {i : Nat} (hi : i < len) : ∃ g o ta tl tc, ao = some ⟨g, o, none⟩ ∧ BatAt w g (o + i * 2) xs[i]! ta tl tc := by
  obtain ⟨h1, g, o, h2, h3⟩ := h
  obtain ⟨ta, tl, tc, h4⟩ := h3 i hi
  exact ⟨g, o, ta, tl, tc, h2 (by omega), h4⟩
theorem Bats.keep {w w' : World} {ao : Option Addr} {len : Nat} {xs : List Bt} (h : Bats w ao len xs) (hb : Below w.heap.size w w') : Bats w' ao len xs := by
  obtain ⟨h1, g, o, h2, h3⟩ := h
  exact ⟨h1, g, o, h2, fun i hi => let ⟨ta, tl, tc, h4⟩ := h3 i hi; ⟨ta, tl, tc, h4.keep hb⟩⟩

def FineT (n : Nat) (x : Bt) : Prop := 0 ≤ x.rdy ∧ x.rdy ≤ 30 ∧ x.tm.length = n ∧ In 1 30 x.tm
def TaskP (vs : List Int) (bs : List Bt) : Prop := (1 ≤ vs.length ∧ vs.length ≤ 3 ∧ In 1 8 vs) ∧ bs.length ≤ 5 ∧ ∀ i, i < bs.length → FineT vs.length bs[i]!
/-- a task, in natural numbers -/
structure TaskN (vn : List Nat) (bn : List BN) : Prop where
  house : HouseN vn
  some : 1 ≤ vn.length
  few : bn.length ≤ 5
  rdy : ∀ i, i < bn.length → bn[i]!.rdy ≤ 30
  len : ∀ i, i < bn.length → bn[i]!.tm.length = vn.length
  tm : ∀ i, i < bn.length → ∀ k, k < vn.length → 1 ≤ bn[i]!.tm[k]! ∧ bn[i]!.tm[k]! ≤ 30
theorem nat_of {xs : List Int} {low high : Int} (h : In low high xs) (h0 : 0 ≤ low) : xs = vI (xs.map Int.toNat) := by
  unfold vI
  rw [List.map_map]
  refine List.ext_getElem (by simp) fun i h1 h2 => ?_
  have := h i h1
  rw [List.getElem?_eq_getElem h1] at this
  simp only [Option.getD_some] at this
  rw [List.getElem_map]
  show xs[i] = ((xs[i].toNat : Nat) : Int)
  omega
theorem toNat_get {xs : List Int} (i : Nat) : (xs.map Int.toNat)[i]! = (xs[i]?.getD 0).toNat := by
  by_cases h : i < xs.length
  · rw [getElem!_pos _ i (by simpa using h), List.getElem_map, List.getElem?_eq_getElem h]; rfl
  · rw [getElem!_neg _ i (by simpa using h), List.getElem?_eq_none (by omega)]; rfl
theorem task_nat {vs : List Int} {bs : List Bt} (h : TaskP vs bs) : ∃ vn bn, vs = vI vn ∧ bs = bn.map bI ∧ TaskN vn bn := by
  obtain ⟨⟨h1, h2, h3⟩, h4, h5⟩ := h
  refine ⟨vs.map Int.toNat, bs.map fun b => ⟨b.rdy.toNat, b.tm.map Int.toNat⟩, nat_of h3 (by omega), ?_, ?_⟩
  · rw [List.map_map]
    refine List.ext_getElem (by simp) fun i g1 g2 => ?_
    rw [List.getElem_map]
    obtain ⟨f1, f2, f3, f4⟩ := h5 i g1
    rw [getElem!_pos bs i g1] at f1 f2 f3 f4
    have e := nat_of f4 (by omega)
    generalize bs[i] = b at f1 f2 f3 f4 e
    cases b with
    | mk r t =>
      simp only [Function.comp_def, bI] at *
      congr 1
      omega
  · have hg : ∀ i, i < (bs.map fun b => (⟨b.rdy.toNat, b.tm.map Int.toNat⟩ : BN)).length → (bs.map fun b => (⟨b.rdy.toNat, b.tm.map Int.toNat⟩ : BN))[i]! = ⟨(bs[i]!).rdy.toNat, (bs[i]!).tm.map Int.toNat⟩ := fun i hi => by
      rw [getElem!_pos _ i hi, List.getElem_map, getElem!_pos bs i (by simpa using hi)]
    refine ⟨⟨by simpa using h2, fun k hk => ?_⟩, by simpa using h1, by simpa using h4, fun i hi => ?_, fun i hi => ?_, fun i hi k hk => ?_⟩
    · rw [toNat_get]
      have := h3 k (by simpa using hk)
      omega
    · rw [hg i hi]
      have := (h5 i (by simpa using hi)).2.1
      show (bs[i]!).rdy.toNat ≤ 30
      omega
    · rw [hg i hi]
      have := (h5 i (by simpa using hi)).2.2.1
      simpa using this
    · rw [hg i hi]
      have f := h5 i (by simpa using hi)
      have := f.2.2.2 k (by rw [f.2.2.1]; simpa using hk)
      show 1 ≤ ((bs[i]!).tm.map Int.toNat)[k]! ∧ ((bs[i]!).tm.map Int.toNat)[k]! ≤ 30
      rw [toNat_get]
      omega
theorem bI_at {bn : List BN} {i : Nat} (hi : i < bn.length) : (bn.map bI)[i]! = bI bn[i]! := by
  rw [getElem!_pos _ i (by simpa using hi), List.getElem_map, getElem!_pos bn i hi]
theorem sum_le : ∀ (l : List Nat) (m : Nat), (∀ k, k < l.length → l[k]! ≤ m) → l.sum ≤ l.length * m
  | [], m, _ => by simp
  | x :: l, m, h => by
    have h0 := h 0 (by simp)
    have ih := sum_le l m (fun k hk => by have := h (k + 1) (by simpa using hk); simpa using this)
    have e : (l.length + 1) * m = l.length * m + m := by rw [Nat.add_mul, Nat.one_mul]
    simp only [List.sum_cons, List.length_cons, e]
    have h0' : x ≤ m := by simpa using h0
    omega
theorem take_sum (l : List Nat) (k : Nat) : (l.take (k + 1)).sum = (l.take k).sum + l[k]! := by
  rw [List.take_add_one, List.sum_append]
  by_cases h : k < l.length
  · rw [List.getElem?_eq_getElem h, getElem!_pos l k h]; simp
  · rw [List.getElem?_eq_none (by omega), getElem!_neg l k h]; simp
theorem TaskN.dur {vn : List Nat} {bn : List BN} (h : TaskN vn bn) {i : Nat} (hi : i < bn.length) : durN bn[i]! ≤ 90 := by
  have := sum_le bn[i]!.tm 30 (fun k hk => (h.tm i hi k (by rw [← h.len i hi]; exact hk)).2)
  have h2 := h.len i hi
  have h3 := h.house.few
  unfold durN
  have : bn[i]!.tm.length * 30 ≤ 3 * 30 := Nat.mul_le_mul_right _ (by omega)
  omega
end Go.Proofs.YtbidadkcdchomaaDoor

/- package plan: areWithin, duration, isTask. -/
set_option linter.unusedVariables false
set_option linter.unusedSimpArgs false
namespace Go.Proofs.YtbidadkcdchomaaDoor
open Go.RowKit

set_option maxHeartbeats 800000 in
theorem are_any (ao : Option Addr) (la ca : Nat) (low high : Int) (xs : List Int) (W : World) (hs : Il W ao la xs) (hla : la ≤ 9223372036854775807) :
    Calls Tryd.prog 35 #[.slice ao la ca, .int .i64 low, .int .i64 high] W (YesNo (In low high xs) W) := by
  have HS := Lib.hid hs
  have HL := Lib.hid hs.len
  clear hs
  go_enter Tryd.func35, Tryd.ntmps35
  go_wp2
  go_loop [11] (fun t => ∃ i : Nat, i ≤ la ∧ t = .int .i64 (i : Int) ∧ ∀ j, j < i → low ≤ xs[j]?.getD 0 ∧ xs[j]?.getD 0 ≤ high) (fun t => la - (intOf t).toNat)
  case atStart => exact ⟨0, by omega, rfl, fun j hj => absurd hj (by omega)⟩
  case round =>
    obtain ⟨i, hi, rfl, hall⟩ := hrel
    have HA := Lib.hid hall
    clear hall
    by_cases h1 : i < la
    · have u1 : (i : Int) < (la : Int) := by omega
      have u0 : (0 : Int) ≤ (i : Int) := by omega
      obtain ⟨b, off, rfl, hc⟩ := HS.out.at (by omega)
      have hci := hc i h1
      obtain ⟨x, hx⟩ : ∃ x, x = xs[i]?.getD 0 := ⟨_, rfl⟩
      rw [← hx] at hci
      have HX := Lib.hid hx
      clear hc hx
      by_cases c1 : x < low
      · go_wp2
        go_ret
        exact ⟨.inr ⟨fun h => by have := h i (by rw [HL.out]; omega); rw [← HX.out] at this; omega, rfl⟩, rfl⟩
      · by_cases c2 : high < x
        · go_wp2
          go_ret
          exact ⟨.inr ⟨fun h => by have := h i (by rw [HL.out]; omega); rw [← HX.out] at this; omega, rfl⟩, rfl⟩
        · go_wp2
          go_round
          case rel =>
            refine ⟨i + 1, by omega, by go_num, fun j hj => ?_⟩
            rcases Nat.lt_succ_iff_lt_or_eq.1 hj with hj | rfl
            · exact HA.out j hj
            · rw [← HX.out]; omega
          case measure => simp only [intOf]; omega
    · have u1 : ¬ (i : Int) < (la : Int) := by omega
      go_wp2
      go_ret
      exact ⟨.inl ⟨fun j hj => HA.out j (by rw [HL.out] at hj; omega), rfl⟩, rfl⟩

set_option maxHeartbeats 1600000 in
theorem isTask_any (va : Option Addr) (vl vc : Nat) (ba : Option Addr) (bl bc : Nat) (vs : List Int) (bs : List Bt) (W : World) (hv : Il W va vl vs) (hb : Bats W ba bl bs) (hvl : vl ≤ 9223372036854775807) (hbl : bl ≤ 9223372036854775807) :
    Calls Tryd.prog 22 #[.slice va vl vc, .slice ba bl bc] W (YesNoB (TaskP vs bs) W) := by
  have HV := Lib.hid hv
  have HVL := Lib.hid hv.len
  have HB := Lib.hid hb
  have HBL := Lib.hid hb.1
  clear hv hb
  go_enter Tryd.func22, Tryd.ntmps22
  by_cases g1 : vl < 1
  · have t1 : (vl : Int) < 1 := by omega
    go_wp2
    go_ret
    exact ⟨.inr ⟨fun h => by have := h.1.1; rw [HVL.out] at this; omega, rfl⟩, Below.refl _ _⟩
  · have t1 : ¬ (vl : Int) < 1 := by omega
    by_cases g2 : 3 < vl
    · have t2 : (3 : Int) < (vl : Int) := by omega
      go_wp2
      go_ret
      exact ⟨.inr ⟨fun h => by have := h.1.2.1; rw [HVL.out] at this; omega, rfl⟩, Below.refl _ _⟩
    · have t2 : ¬ (3 : Int) < (vl : Int) := by omega
      go_wp2_with fail
      refine (are_any va vl vc 1 8 vs _ HV.out hvl).mono ?_
      rintro e w1 ⟨⟨hin, rfl⟩ | ⟨hin, rfl⟩, rfl⟩
      · have HI := Lib.hid hin
        clear hin
        by_cases g3 : 5 < bl
        · have t3 : (5 : Int) < (bl : Int) := by omega
          go_wp2
          go_ret
          exact ⟨.inr ⟨fun h => by have := h.2.1; rw [HBL.out] at this; omega, rfl⟩, Below.refl _ _⟩
        · have t3 : ¬ (5 : Int) < (bl : Int) := by omega
          go_wp2
          go_loopg [25] bl (fun gg s25 wr => ∃ i : Nat, s25 = .int .i64 (i : Int) ∧ i ≤ bl ∧ bl - i ≤ gg ∧ Hid (∀ j, j < i → FineT vs.length bs[j]!) ∧ Hid (Below w1.heap.size w1 wr))
          case atStart => exact ⟨0, rfl, Nat.zero_le _, by omega, Lib.hid (fun j hj => absurd hj (by omega)), Lib.hid (Below.refl _ _)⟩
          case round =>
            obtain ⟨i, rfl, hi, hgg, HA, HW⟩ := hrel
            by_cases h1 : i < bl
            · have u1 : (i : Int) < (bl : Int) := by omega
              have u0 : (0 : Int) ≤ (i : Int) := by omega
              obtain ⟨g, o, ta, tl, tc, rfl, hx⟩ := (HB.out.keep HW.out).at h1
              obtain ⟨x, hxe⟩ : ∃ x, x = bs[i]! := ⟨_, rfl⟩
              rw [← hxe] at hx
              have HX := Lib.hid hxe
              have c0 := hx.c0
              have c1 := hx.c1
              have HIL := Lib.hid hx.il
              have HTL := Lib.hid hx.il.len
              have htl := hx.le
              have HW2 := Lib.hid (box_below wr (.cells #[.int .i64 x.rdy, .slice ta tl tc] 43))
              have HW3 := Lib.hid (HW.out.trans (HW2.out.mono HW.out.size))
              clear hx hxe
              by_cases q1 : x.rdy < 0
              · go_wp2
                go_ret
                exact ⟨.inr ⟨fun h => by have := (h.2.2 i (by rw [HBL.out]; exact h1)).1; rw [← HX.out] at this; omega, rfl⟩, HW3.out⟩
              · by_cases q2 : 30 < x.rdy
                · go_wp2
                  go_ret
                  exact ⟨.inr ⟨fun h => by have := (h.2.2 i (by rw [HBL.out]; exact h1)).2.1; rw [← HX.out] at this; omega, rfl⟩, HW3.out⟩
                · by_cases q3 : tl = vl
                  · have q4 : ((tl : Int) != (vl : Int)) = false := by simp; omega
                    have HQ3 := Lib.hid q3
                    clear q3
                    go_wp2_with fail
                    refine (are_any ta tl tc 1 30 x.tm _ (HIL.out.keep HW2.out) htl).mono ?_
                    rintro e w2 ⟨⟨hin, rfl⟩ | ⟨hin, rfl⟩, rfl⟩
                    · have HI2 := Lib.hid hin
                      clear hin
                      go_wp2
                      go_roundg (bl - (i + 1))
                      case measure => omega
                      case rel =>
                        refine ⟨i + 1, by go_num, by omega, Nat.le_refl _, Lib.hid (fun j hj => ?_), HW3⟩
                        rcases Nat.lt_succ_iff_lt_or_eq.1 hj with hj | rfl
                        · exact HA.out j hj
                        · rw [← HX.out]; exact ⟨by omega, by omega, by rw [HTL.out, HVL.out]; exact HQ3.out, HI2.out⟩
                    · have HI2 := Lib.hid hin
                      clear hin
                      go_wp2
                      go_ret
                      exact ⟨.inr ⟨fun h => by have := (h.2.2 i (by rw [HBL.out]; exact h1)).2.2.2; rw [← HX.out] at this; exact HI2.out this, rfl⟩, HW3.out⟩
                  · have q4 : ((tl : Int) != (vl : Int)) = true := by simp; omega
                    go_wp2
                    go_ret
                    exact ⟨.inr ⟨fun h => by have := (h.2.2 i (by rw [HBL.out]; exact h1)).2.2.1; rw [← HX.out, HTL.out, HVL.out] at this; exact q3 this, rfl⟩, HW3.out⟩
            · have u1 : ¬ (i : Int) < (bl : Int) := by omega
              go_wp2
              go_ret
              exact ⟨.inl ⟨⟨⟨by rw [HVL.out]; omega, by rw [HVL.out]; omega, HI.out⟩, by rw [HBL.out]; omega, fun j hj => HA.out j (by rw [HBL.out] at hj; omega)⟩, rfl⟩, HW.out⟩
      · go_wp2
        go_ret
        exact ⟨.inr ⟨fun h => hin h.1.2.2, rfl⟩, Below.refl _ _⟩

set_option maxHeartbeats 800000 in
theorem duration_any (r : Int) (ta : Option Addr) (tl tc : Nat) (tm : List Nat) (W : World) (hs : Il W ta tl (vI tm)) (hm : ∀ k, k < tm.length → tm[k]! ≤ 30) (hl : tm.length ≤ 3) :
    Calls Tryd.prog 36 #[.agg #[.int .i64 r, .slice ta tl tc]] W (OutZ (tm.sum : Nat) W) := by
  have HS := Lib.hid (hs.keep (box_below W (.cells #[.int .i64 r, .slice ta tl tc] 43)))
  have hll : tm.length = tl := by have := hs.len; rwa [vI_len] at this
  have HL := Lib.hid hll
  have HM := Lib.hid hm
  have HB := Lib.hid (box_below W (.cells #[.int .i64 r, .slice ta tl tc] 43))
  have htl : tl ≤ 3 := by omega
  clear hs hm hll hl
  go_enter Tryd.func36, Tryd.ntmps36
  go_wp2
  go_loop [3, 9] (fun s t => ∃ i : Nat, i ≤ tl ∧ t = .int .i64 (i : Int) ∧ s = .int .i64 (((tm.take i).sum : Nat) : Int)) (fun _ t => tl - (intOf t).toNat)
  case atStart => exact ⟨0, by omega, rfl, rfl⟩
  case round =>
    obtain ⟨i, hi, rfl, rfl⟩ := hrel
    have hsum : (tm.take i).sum ≤ 90 := by
      have := sum_le (tm.take i) 30 (fun k hk => by
        rw [List.length_take] at hk
        have := HM.out k (by omega)
        rw [getElem!_pos (tm.take i) k (by rw [List.length_take]; omega), List.getElem_take, ← getElem!_pos tm k (by omega)]; exact this)
      have h2 : (tm.take i).length ≤ 3 := by rw [List.length_take]; omega
      have : (tm.take i).length * 30 ≤ 3 * 30 := Nat.mul_le_mul_right _ h2
      omega
    by_cases h1 : i < tl
    · have u1 : (i : Int) < (tl : Int) := by omega
      have u0 : (0 : Int) ≤ (i : Int) := by omega
      obtain ⟨b, off, rfl, hc⟩ := HS.out.at (by omega)
      have hci := hc i h1
      rw [vI_get] at hci
      have hx := HM.out i (by rw [HL.out]; exact h1)
      have HT := Lib.hid (take_sum tm i)
      generalize tm[i]! = x at hci hx HT
      generalize (tm.take i).sum = y at hsum HT
      clear hc
      go_wp2
      go_round
      case rel => exact ⟨i + 1, by omega, by go_num, by rw [HT.out]; go_num⟩
      case measure => simp only [intOf]; omega
    · have u1 : ¬ (i : Int) < (tl : Int) := by omega
      obtain rfl : i = tl := by omega
      rw [List.take_of_length_le (by rw [HL.out]; exact Nat.le_refl _)] at hsum ⊢
      go_wp2
      go_ret
      exact ⟨rfl, HB.out⟩
end Go.Proofs.YtbidadkcdchomaaDoor

/- package plan: meets, stays. -/
set_option linter.unusedVariables false
set_option linter.unusedSimpArgs false
namespace Go.Proofs.YtbidadkcdchomaaDoor
open Go.RowKit

/-- two stays meet -/
def meetZ (a b c d : Int) : Bool := decide (a < d) && decide (c < b)
set_option maxHeartbeats 800000 in
theorem meets_any (a b c d : Int) (W : World) :
    Calls Tryd.prog 55 #[.agg #[.int .i64 a, .int .i64 b], .agg #[.int .i64 c, .int .i64 d]] W fun e w' => e = .returned (.bool (meetZ a b c d)) ∧ Below W.heap.size W w' := by
  have HB := Lib.hid ((box_below W (.cells #[.int .i64 a, .int .i64 b] 72)).trans ((box_below (W.alloc (.cells #[.int .i64 a, .int .i64 b] 72)) (.cells #[.int .i64 c, .int .i64 d] 72)).mono (box_below W (.cells #[.int .i64 a, .int .i64 b] 72)).size))
  by_cases h1 : a < d
  · by_cases h2 : c < b
    · have e : meetZ a b c d = true := by unfold meetZ; simp [h1, h2]
      rw [e]
      clear e
      go_enter Tryd.func55, Tryd.ntmps55
      go_wp2
      go_ret
      exact ⟨rfl, HB.out⟩
    · have e : meetZ a b c d = false := by unfold meetZ; simp [h2]
      rw [e]
      clear e
      go_enter Tryd.func55, Tryd.ntmps55
      go_wp2
      go_ret
      exact ⟨rfl, HB.out⟩
  · have e : meetZ a b c d = false := by unfold meetZ; simp [h1]
    rw [e]
    clear e
    go_enter Tryd.func55, Tryd.ntmps55
    go_wp2
    go_ret
    exact ⟨rfl, HB.out⟩

/-- where batch of times tm that starts at s is: six numbers -/
def stayZ (s : Int) (tm : List Nat) (i : Nat) : Int :=
  if i / 2 < tm.length then s + (((tm.take (i / 2 + i % 2)).sum : Nat) : Int) else 0
def stayV (s : Int) (tm : List Nat) : Array Value := #[.int .i64 (stayZ s tm 0), .int .i64 (stayZ s tm 1), .int .i64 (stayZ s tm 2), .int .i64 (stayZ s tm 3), .int .i64 (stayZ s tm 4), .int .i64 (stayZ s tm 5)]
/-- the first k stages are filled in -/
def stayP (s : Int) (tm : List Nat) (k i : Nat) : Int := if i / 2 < k then stayZ s tm i else 0
def stayC (s : Int) (tm : List Nat) (k : Nat) : Array Value := #[.int .i64 (stayP s tm k 0), .int .i64 (stayP s tm k 1), .int .i64 (stayP s tm k 2), .int .i64 (stayP s tm k 3), .int .i64 (stayP s tm k 4), .int .i64 (stayP s tm k 5)]
theorem stayC_get (s : Int) (tm : List Nat) (k i : Nat) (h : i < 6) : (stayC s tm k)[i]? = some (.int .i64 (stayP s tm k i)) := by
  have : i = 0 ∨ i = 1 ∨ i = 2 ∨ i = 3 ∨ i = 4 ∨ i = 5 := by omega
  rcases this with rfl | rfl | rfl | rfl | rfl | rfl <;> rfl
theorem stayV_get (s : Int) (tm : List Nat) (i : Nat) (h : i < 6) : (stayV s tm)[i]? = some (.int .i64 (stayZ s tm i)) := by
  have : i = 0 ∨ i = 1 ∨ i = 2 ∨ i = 3 ∨ i = 4 ∨ i = 5 := by omega
  rcases this with rfl | rfl | rfl | rfl | rfl | rfl <;> rfl
theorem stayC_all (s : Int) (tm : List Nat) (k : Nat) (h : tm.length ≤ k) : stayC s tm k = stayV s tm := by
  have : ∀ i, stayP s tm k i = stayZ s tm i := fun i => by
    unfold stayP stayZ
    by_cases h1 : i / 2 < k
    · rw [if_pos h1]
    · rw [if_neg h1, if_neg (by omega)]
  unfold stayC stayV
  simp only [this]
theorem stayC_zero (s : Int) (tm : List Nat) : stayC s tm 0 = #[.int .i64 0, .int .i64 0, .int .i64 0, .int .i64 0, .int .i64 0, .int .i64 0] := by
  have : ∀ i, stayP s tm 0 i = 0 := fun i => by unfold stayP; simp
  unfold stayC
  simp only [this]
theorem stay_set (w : World) (b k : Nat) (T : TypeId) (s : Int) (tm : List Nat) (hk : k < tm.length) (h3 : tm.length ≤ 3) (h : w.heap[b]? = some (.cells (stayC s tm k) T (0, 0))) (x y : Int)
    (hx : x = s + (((tm.take k).sum : Nat) : Int)) (hy : y = s + (((tm.take (k + 1)).sum : Nat) : Int)) :
    (((w.setCell ⟨b, k * 2, none⟩ (.int .i64 x)).setCell ⟨b, k * 2 + 1, none⟩ (.int .i64 y))).heap[b]? = some (.cells (stayC s tm (k + 1)) T (0, 0)) := by
  have k3 : k = 0 ∨ k = 1 ∨ k = 2 := by omega
  have e0 : ∀ i, i / 2 = k → i % 2 = 0 → stayP s tm (k + 1) i = x := fun i h1 h2 => by
    unfold stayP stayZ; rw [if_pos (by omega), if_pos (by omega), h1, h2, hx]; rfl
  have e1 : ∀ i, i / 2 = k → i % 2 = 1 → stayP s tm (k + 1) i = y := fun i h1 h2 => by
    unfold stayP stayZ; rw [if_pos (by omega), if_pos (by omega), h1, h2, hy]
  have e2 : ∀ i, i / 2 ≠ k → stayP s tm (k + 1) i = stayP s tm k i := fun i h1 => by
    unfold stayP
    by_cases h2 : i / 2 < k
    · rw [if_pos h2, if_pos (by omega)]
    · rw [if_neg h2, if_neg (by omega)]
  simp only [World.setCell, Array.getElem?_modify, if_pos]
  rw [h]
  rcases k3 with rfl | rfl | rfl
  · simp [stayC, e0 0 (by omega) (by omega), e1 1 (by omega) (by omega), e2 2 (by omega), e2 3 (by omega), e2 4 (by omega), e2 5 (by omega)]
  · simp [stayC, e0 2 (by omega) (by omega), e1 3 (by omega) (by omega), e2 0 (by omega), e2 1 (by omega), e2 4 (by omega), e2 5 (by omega)]
  · simp [stayC, e0 4 (by omega) (by omega), e1 5 (by omega) (by omega), e2 0 (by omega), e2 1 (by omega), e2 2 (by omega), e2 3 (by omega)]
theorem six_cells {w : World} {b : Nat} {c0 c1 c2 c3 c4 c5 : Value} {T : TypeId} (h : w.heap[b]? = some (.cells #[c0, c1, c2, c3, c4, c5] T (0, 0))) :
    w.cell? ⟨b, 0, none⟩ = some c0 ∧ w.cell? ⟨b, 1, none⟩ = some c1 ∧ w.cell? ⟨b, 2, none⟩ = some c2 ∧ w.cell? ⟨b, 3, none⟩ = some c3 ∧ w.cell? ⟨b, 4, none⟩ = some c4 ∧ w.cell? ⟨b, 5, none⟩ = some c5 := by
  refine ⟨?_, ?_, ?_, ?_, ?_, ?_⟩ <;> (simp only [World.cell?]; rw [h]; simp)
theorem free_row {w : World} {b : Nat} {c : Array Value} {T : TypeId} (h : w.heap[b]? = some (.cells c T (0, 0))) (o : Nat) : w.frozen? ⟨b, o, none⟩ = false := by
  simp only [World.frozen?]; rw [h]; simp
theorem cell_row {w : World} {b : Nat} {c : Array Value} {T : TypeId} (h : w.heap[b]? = some (.cells c T (0, 0))) (o : Nat) : w.cell? ⟨b, o, none⟩ = c[o]? := by
  simp only [World.cell?]; rw [h]; simp
theorem set_six {w : World} {T : Nat} {a0 a1 a2 a3 a4 a5 x0 x1 x2 x3 x4 x5 : Value} {ty : TypeId} (h : w.heap[T]? = some (.cells #[a0, a1, a2, a3, a4, a5] ty (0, 0))) :
    ((((((w.setCell ⟨T, 0, none⟩ x0).setCell ⟨T, 1, none⟩ x1).setCell ⟨T, 2, none⟩ x2).setCell ⟨T, 3, none⟩ x3).setCell ⟨T, 4, none⟩ x4).setCell ⟨T, 5, none⟩ x5).heap[T]? = some (.cells #[x0, x1, x2, x3, x4, x5] ty (0, 0)) := by
  simp only [World.setCell, Array.getElem?_modify]
  rw [h]
  simp
theorem below_set6 {B : Nat} {W w : World} {T : Nat} (x0 x1 x2 x3 x4 x5 : Value) (hb : Below B W w) (hT : B ≤ T) : Below B W ((((((w.setCell ⟨T, 0, none⟩ x0).setCell ⟨T, 1, none⟩ x1).setCell ⟨T, 2, none⟩ x2).setCell ⟨T, 3, none⟩ x3).setCell ⟨T, 4, none⟩ x4).setCell ⟨T, 5, none⟩ x5) :=
  (((((hb.setCell (p := ⟨T, 0, none⟩) hT _).setCell (p := ⟨T, 1, none⟩) hT _).setCell (p := ⟨T, 2, none⟩) hT _).setCell (p := ⟨T, 3, none⟩) hT _).setCell (p := ⟨T, 4, none⟩) hT _).setCell (p := ⟨T, 5, none⟩) hT _
theorem set_five {w : World} {T : Nat} {a0 a1 a2 a3 a4 x0 x1 x2 x3 x4 : Value} {ty : TypeId} (h : w.heap[T]? = some (.cells #[a0, a1, a2, a3, a4] ty (0, 0))) :
    (((((w.setCell ⟨T, 0, none⟩ x0).setCell ⟨T, 1, none⟩ x1).setCell ⟨T, 2, none⟩ x2).setCell ⟨T, 3, none⟩ x3).setCell ⟨T, 4, none⟩ x4).heap[T]? = some (.cells #[x0, x1, x2, x3, x4] ty (0, 0)) := by
  simp only [World.setCell, Array.getElem?_modify]
  rw [h]
  simp
theorem below_set5 {B : Nat} {W w : World} {T : Nat} (x0 x1 x2 x3 x4 : Value) (hb : Below B W w) (hT : B ≤ T) : Below B W (((((w.setCell ⟨T, 0, none⟩ x0).setCell ⟨T, 1, none⟩ x1).setCell ⟨T, 2, none⟩ x2).setCell ⟨T, 3, none⟩ x3).setCell ⟨T, 4, none⟩ x4) :=
  ((((hb.setCell (p := ⟨T, 0, none⟩) hT _).setCell (p := ⟨T, 1, none⟩) hT _).setCell (p := ⟨T, 2, none⟩) hT _).setCell (p := ⟨T, 3, none⟩) hT _).setCell (p := ⟨T, 4, none⟩) hT _
theorem size_alloc (w : World) (o : Obj) : (w.alloc o).heap.size = w.heap.size + 1 := by show (w.heap.push o).size = _; rw [Array.size_push]
theorem new_row (w : World) (o : Obj) : (w.alloc o).heap[w.heap.size]? = some o := heap_alloc_new w o
theorem old_row {w : World} {o : Obj} {b : Nat} {x : Obj} (h : w.heap[b]? = some x) : (w.alloc o).heap[b]? = some x := by
  rw [Below.heap_alloc w o b (Array.getElem?_eq_some_iff.1 h).1]; exact h
theorem new_row1 (w : World) (a o : Obj) : ((w.alloc a).alloc o).heap[w.heap.size + 1]? = some o := by
  have := new_row (w.alloc a) o
  rwa [size_alloc] at this
theorem new_row2 (w : World) (a b o : Obj) : (((w.alloc a).alloc b).alloc o).heap[w.heap.size + 1 + 1]? = some o := by
  have := new_row ((w.alloc a).alloc b) o
  rwa [size_alloc, size_alloc] at this
theorem row_far {B : Nat} {w w' : World} {b : Nat} {o : Obj} (hb : Below B w w') (hB : b < B) (h : w.heap[b]? = some o) : w'.heap[b]? = some o := by rw [hb.block b hB]; exact h
end Go.Proofs.YtbidadkcdchomaaDoor
