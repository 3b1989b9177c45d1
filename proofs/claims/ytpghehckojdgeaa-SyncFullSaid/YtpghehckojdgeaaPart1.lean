/- Part 1 of the contracts: SMath, Shelf, SEnt, SWords, SClone, ShelfH, SDel. -/
import Derived.Lib.Bytealg
import Derived.Lib.Small
import Derived.Shelf.SlSortCmp.Insertion
import Derived.Shelf.Small.Bits
import Derived.Shelf.Small.Strs
import Derived.Shelf.Small.Wraps
import Derived.Shelf.Strconv.Itoa0
import Derived.Shelf.LaysM
import Derived.Shelf.Strconv.Clone
import Derived.Shelf.SlicesQ.Equal
import Derived.Ground.SlgqProg
import Derived.Shelf.Spec.SlicesGrow
import Derived.Ground.Names8Prog
import Derived.Test.YtpghehckojdgeaaProg
import Derived.WalkKit
import Derived.Lib.Hide
import Derived.WalkSpells
import Derived.WalkLawsBesides
import Derived.BigQuiet
import Derived.Deep.QuietTactic
import Derived.StillTailTactics
import Derived.Deep.RegionHeld3
import Derived.RegionTactic
import Derived.ChangeAlike
import Derived.Deep.LoopGhost
import Derived.Deep.DeepCutAuto
import Derived.Laws.CopyOwn
import Derived.Sort.Grow
import Derived.Deep.AppendLies
import Derived.Laws.AppendOwnNone
import Derived.Shelf.SlicesE.Kit
import Derived.Shelf.GgSortFunc.RowK
import Derived.Shelf.SlicesQ.IndexFunc
import Derived.Ground.SlgfProg
import Derived.Shelf.SlicesE.DeleteFunc

/- Tables of entries: the order of entries, sorted lists, removal, insertion, the merge. No function of the program is walked here. -/
set_option linter.unusedVariables false
set_option linter.unusedSimpArgs false
namespace Go.Proofs.Ytpghehckojdgeaa
open Go

/-! ### bytes in order -/
theorem cmpB_self : ∀ a : List UInt8, Lib.compareBytes a a = 0
  | [] => rfl
  | x :: a => by unfold Lib.compareBytes; simp [UInt8.lt_irrefl, cmpB_self a]
theorem cmpB_rng : ∀ a b : List UInt8, Lib.compareBytes a b = -1 ∨ Lib.compareBytes a b = 0 ∨ Lib.compareBytes a b = 1
  | [], [] => .inr (.inl rfl)
  | [], _ :: _ => .inl rfl
  | _ :: _, [] => .inr (.inr rfl)
  | x :: a, y :: b => by
    unfold Lib.compareBytes
    by_cases h : x < y
    · simp [h]
    · by_cases h2 : y < x
      · simp [h, h2]
      · simpa [h, h2] using cmpB_rng a b
theorem cmpB_zero : ∀ a b : List UInt8, Lib.compareBytes a b = 0 → a = b
  | [], [], _ => rfl
  | [], _ :: _, h => by simp [Lib.compareBytes] at h
  | _ :: _, [], h => by simp [Lib.compareBytes] at h
  | x :: a, y :: b, h => by
    unfold Lib.compareBytes at h
    by_cases h1 : x < y
    · simp [h1] at h
    · by_cases h2 : y < x
      · simp [h1, h2] at h
      · simp [h1, h2] at h
        have : x = y := UInt8.le_antisymm (UInt8.not_lt.1 h2) (UInt8.not_lt.1 h1)
        rw [this, cmpB_zero a b h]
theorem cmpB_neg : ∀ a b : List UInt8, Lib.compareBytes b a = - Lib.compareBytes a b
  | [], [] => rfl
  | [], _ :: _ => rfl
  | _ :: _, [] => rfl
  | x :: a, y :: b => by
    unfold Lib.compareBytes
    by_cases h1 : x < y
    · have h2 : ¬ y < x := UInt8.lt_asymm h1
      simp [h1, h2]
    · by_cases h2 : y < x
      · simp [h1, h2]
      · simpa [h1, h2] using cmpB_neg a b
theorem cmpB_trans : ∀ a b c : List UInt8, Lib.compareBytes a b = -1 → Lib.compareBytes b c = -1 → Lib.compareBytes a c = -1
  | [], [], _, h, _ => by simp [Lib.compareBytes] at h
  | [], _ :: _, [], _, h => by simp [Lib.compareBytes] at h
  | [], _ :: _, _ :: _, _, _ => rfl
  | _ :: _, [], _, h, _ => by simp [Lib.compareBytes] at h
  | _ :: _, _ :: _, [], _, h => by simp [Lib.compareBytes] at h
  | x :: a, y :: b, z :: c, h1, h2 => by
    unfold Lib.compareBytes at h1 h2 ⊢
    by_cases a1 : x < y
    · by_cases b1 : y < z
      · simp [UInt8.lt_trans a1 b1]
      · by_cases b2 : z < y
        · simp [b1, b2] at h2
        · have : y = z := UInt8.le_antisymm (UInt8.not_lt.1 b2) (UInt8.not_lt.1 b1)
          subst this; simp [a1]
    · by_cases a2 : y < x
      · simp [a1, a2] at h1
      · have e : x = y := UInt8.le_antisymm (UInt8.not_lt.1 a2) (UInt8.not_lt.1 a1)
        subst e
        by_cases b1 : x < z
        · simp [b1]
        · by_cases b2 : z < x
          · simp [b1, b2] at h2
          · simp [a1] at h1
            simp [b1, b2] at h2 ⊢
            exact cmpB_trans a b c h1 h2

/-! ### entries -/
structure Ent where
  key : ByteArray
  val : ByteArray
  site : Nat
  count : Nat
  lt : site < 8
instance : Inhabited Ent := ⟨⟨ByteArray.empty, ByteArray.empty, 0, 0, by decide⟩⟩
theorem Ent.same {x y : Ent} (h1 : x.key = y.key) (h2 : x.val = y.val) (h3 : x.site = y.site) (h4 : x.count = y.count) : x = y := by
  obtain ⟨a, b, c, d, _⟩ := x; obtain ⟨a', b', c', d', _⟩ := y
  simp only at h1 h2 h3 h4
  subst h1 h2 h3 h4; rfl

def natCmp (a b : Nat) : Int := Lib.compareInt (a : Int) (b : Int)
theorem natCmp_def (a b : Nat) : natCmp a b = if a < b then -1 else if b < a then 1 else 0 := by
  unfold natCmp Lib.compareInt
  by_cases h1 : a < b
  · simp [h1]
  · by_cases h2 : b < a <;> simp [h1, h2]
def keyCmp (a b : ByteArray) : Int := Lib.compareBytes a.data.toList b.data.toList
/-- the first of three numbers that is not 0 -/
def orI (a b c : Int) : Int := if a ≠ 0 then a else if b ≠ 0 then b else c
/-- how entries compare: by key, then by dot -/
def cfE (x y : Ent) : Int := orI (keyCmp x.key y.key) (natCmp x.site y.site) (natCmp x.count y.count)
def ltE (x y : Ent) : Bool := decide (cfE x y < 0)

theorem bytes_ext {a b : ByteArray} (h : a.data.toList = b.data.toList) : a = b := by
  obtain ⟨⟨la⟩⟩ := a; obtain ⟨⟨lb⟩⟩ := b
  simp at h; subst h; rfl
theorem keyCmp_zero {a b : ByteArray} : keyCmp a b = 0 ↔ a = b := ⟨fun h => bytes_ext (cmpB_zero _ _ h), fun h => by rw [h]; exact cmpB_self _⟩
theorem natCmp_zero {a b : Nat} : natCmp a b = 0 ↔ a = b := by rw [natCmp_def]; split <;> (try split) <;> omega
theorem cfE_zero {x y : Ent} : cfE x y = 0 ↔ x.key = y.key ∧ x.site = y.site ∧ x.count = y.count := by
  unfold cfE orI
  rw [← keyCmp_zero, ← natCmp_zero, ← natCmp_zero (a := x.count)]
  by_cases h1 : keyCmp x.key y.key = 0
  · by_cases h2 : natCmp x.site y.site = 0 <;> simp [h1, h2]
  · simp [h1]
theorem cfE_neg (x y : Ent) : cfE y x = - cfE x y := by
  have h1 : keyCmp y.key x.key = - keyCmp x.key y.key := cmpB_neg _ _
  have h2 : natCmp y.site x.site = - natCmp x.site y.site := by rw [natCmp_def, natCmp_def]; split <;> split <;> (try split) <;> omega
  have h3 : natCmp y.count x.count = - natCmp x.count y.count := by rw [natCmp_def, natCmp_def]; split <;> split <;> (try split) <;> omega
  unfold cfE orI
  rw [h1, h2, h3]
  by_cases a : keyCmp x.key y.key = 0
  · by_cases b : natCmp x.site y.site = 0 <;> simp [a, b]
  · simp [a]
/-- x is less than y, by cases -/
theorem ltE_iff {x y : Ent} : ltE x y = true ↔ keyCmp x.key y.key = -1 ∨ (x.key = y.key ∧ (x.site < y.site ∨ (x.site = y.site ∧ x.count < y.count))) := by
  unfold ltE cfE orI
  rw [natCmp_def, natCmp_def, decide_eq_true_iff, ← keyCmp_zero]
  rcases cmpB_rng x.key.data.toList y.key.data.toList with h | h | h
  · have h' : keyCmp x.key y.key = -1 := h
    simp [h']
  · have h' : keyCmp x.key y.key = 0 := h
    simp only [h']
    split <;> (try split) <;> (try split) <;> (try split) <;> simp_all <;> omega
  · have h' : keyCmp x.key y.key = 1 := h
    simp [h']
theorem ltE_irrefl (x : Ent) : ltE x x = false := by
  have : cfE x x = 0 := cfE_zero.2 ⟨rfl, rfl, rfl⟩
  unfold ltE; simp [this]
theorem keyCmp_trans {a b c : ByteArray} (h1 : keyCmp a b = -1) (h2 : keyCmp b c = -1) : keyCmp a c = -1 := cmpB_trans _ _ _ h1 h2
theorem ltE_trans {x y z : Ent} (h1 : ltE x y = true) (h2 : ltE y z = true) : ltE x z = true := by
  rw [ltE_iff] at *
  rcases h1 with h1 | ⟨e1, h1⟩
  · rcases h2 with h2 | ⟨e2, h2⟩
    · exact .inl (keyCmp_trans h1 h2)
    · rw [← e2]; exact .inl h1
  · rcases h2 with h2 | ⟨e2, h2⟩
    · rw [e1]; exact .inl h2
    · exact .inr ⟨e1.trans e2, by omega⟩
theorem ltE_or (x y : Ent) : ltE x y = true ∨ ltE y x = true ∨ cfE x y = 0 := by
  have := cfE_neg x y
  unfold ltE
  simp only [decide_eq_true_iff]
  omega
theorem ltE_asymm {x y : Ent} (h : ltE x y = true) : ltE y x = false := by
  cases h2 : ltE y x
  · rfl
  · have := ltE_trans h h2
    rw [ltE_irrefl] at this; cases this
theorem ltE_congr {x y z : Ent} (h : cfE x y = 0) : ltE x z = ltE y z := by
  obtain ⟨a, b, c⟩ := cfE_zero.1 h
  unfold ltE cfE; rw [a, b, c]
theorem ltE_congr' {x y z : Ent} (h : cfE x y = 0) : ltE z x = ltE z y := by
  obtain ⟨a, b, c⟩ := cfE_zero.1 h
  unfold ltE cfE; rw [a, b, c]
theorem ltOf_E : ltOf cfE = ltE := rfl
theorem swo_E : Sort.SWO (ltOf cfE) where
  irrefl x := ltE_irrefl x
  trans x y z h1 h2 := ltE_trans h1 h2
  ntrans x y z h1 h2 := by
    rw [ltOf_E] at *
    cases h : ltE x z
    · rfl
    · rcases ltE_or y x with a | a | a
      · have := ltE_trans a h; rw [h2] at this; cases this
      · rw [h1] at a; cases a
      · rw [ltE_congr a, h] at h2; cases h2

/-! ### sorted lists -/
def Sorted (l : List Ent) : Prop := l.Pairwise fun a b => ltE a b = true
theorem Sorted.uniq : ∀ {l l' : List Ent}, Sorted l → Sorted l' → (∀ e, e ∈ l ↔ e ∈ l') → l = l'
  | [], [], _, _, _ => rfl
  | [], y :: l', _, _, h => absurd ((h y).2 List.mem_cons_self) (by simp)
  | x :: l, [], _, _, h => absurd ((h x).1 List.mem_cons_self) (by simp)
  | x :: l, y :: l', h1, h2, h => by
    obtain ⟨a1, b1⟩ := List.pairwise_cons.1 h1
    obtain ⟨a2, b2⟩ := List.pairwise_cons.1 h2
    have e : x = y := by
      rcases List.mem_cons.1 ((h x).1 List.mem_cons_self) with e | e
      · exact e
      · rcases List.mem_cons.1 ((h y).2 List.mem_cons_self) with e' | e'
        · exact e'.symm
        · have k1 := a2 x e; have k2 := a1 y e'
          rw [ltE_asymm k1] at k2; cases k2
    subst e
    congr 1
    refine Sorted.uniq b1 b2 fun e => ⟨fun k => ?_, fun k => ?_⟩
    · rcases List.mem_cons.1 ((h e).1 (List.mem_cons_of_mem _ k)) with q | q
      · subst q; have := a1 e k; rw [ltE_irrefl] at this; cases this
      · exact q
    · rcases List.mem_cons.1 ((h e).2 (List.mem_cons_of_mem _ k)) with q | q
      · subst q; have := a2 e k; rw [ltE_irrefl] at this; cases this
      · exact q
theorem Sorted.filter {l : List Ent} (h : Sorted l) (p : Ent → Bool) : Sorted (l.filter p) := List.Pairwise.filter p h
theorem Sorted.nodup {l : List Ent} (h : Sorted l) : l.Nodup := List.Pairwise.imp (fun {a b} k e => by subst e; rw [ltE_irrefl] at k; cases k) h
theorem Sorted.same {l : List Ent} (h : Sorted l) {x y : Ent} (hx : x ∈ l) (hy : y ∈ l) (e : cfE x y = 0) : x = y := by
  induction l with
  | nil => cases hx
  | cons z l ih =>
    obtain ⟨a, b⟩ := List.pairwise_cons.1 h
    have q : ∀ u ∈ l, cfE z u ≠ 0 := fun u hu k => by have := a u hu; rw [← ltE_congr' k, ltE_irrefl] at this; cases this
    rcases List.mem_cons.1 hx with hx' | hx'
    · rcases List.mem_cons.1 hy with hy' | hy'
      · rw [hx', hy']
      · subst hx'; exact absurd e (q y hy')
    · rcases List.mem_cons.1 hy with hy' | hy'
      · subst hy'; exact absurd (by rw [cfE_neg, e]; rfl) (q x hx')
      · exact ih b hx' hy'

/-- an entry laid into a list, behind all that are less -/
def insE (l : List Ent) (x : Ent) : List Ent := l.takeWhile (fun a => ltE a x) ++ x :: l.dropWhile (fun a => ltE a x)
theorem mem_insE {l : List Ent} {x e : Ent} : e ∈ insE l x ↔ e = x ∨ e ∈ l := by
  unfold insE
  rw [List.mem_append, List.mem_cons]
  constructor
  · rintro (h | h | h)
    · exact .inr ((List.takeWhile_prefix _).subset h)
    · exact .inl h
    · exact .inr ((List.dropWhile_suffix _).subset h)
  · rintro (h | h)
    · exact .inr (.inl h)
    · rw [← List.takeWhile_append_dropWhile (p := fun a => ltE a x) (l := l)] at h
      rcases List.mem_append.1 h with h | h
      · exact .inl h
      · exact .inr (.inr h)
theorem takeWhile_lt {l : List Ent} {x e : Ent} (h : e ∈ l.takeWhile (fun a => ltE a x)) : ltE e x = true := by
  induction l with
  | nil => simp at h
  | cons y l ih =>
    rw [List.takeWhile_cons] at h
    split at h
    · rcases List.mem_cons.1 h with h | h
      · subst h; assumption
      · exact ih h
    · cases h
theorem dropWhile_ge {l : List Ent} {x e : Ent} (hs : Sorted l) (h : e ∈ l.dropWhile (fun a => ltE a x)) : ltE e x = false := by
  induction l with
  | nil => simp at h
  | cons y l ih =>
    obtain ⟨a, b⟩ := List.pairwise_cons.1 hs
    rw [List.dropWhile_cons] at h
    split at h
    · exact ih b h
    · rename_i hy
      rcases List.mem_cons.1 h with h | h
      · subst h; simpa using hy
      · cases k : ltE e x
        · rfl
        · exact absurd (ltE_trans (a e h) k) hy
theorem insE_sorted {l : List Ent} {x : Ent} (hs : Sorted l) (hx : ∀ e ∈ l, cfE e x ≠ 0) : Sorted (insE l x) := by
  unfold insE Sorted
  have h0 : Sorted (l.takeWhile (fun a => ltE a x) ++ l.dropWhile (fun a => ltE a x)) := by rw [List.takeWhile_append_dropWhile]; exact hs
  obtain ⟨h1, h2, h3⟩ := List.pairwise_append.1 h0
  have hgt : ∀ e ∈ l.dropWhile (fun a => ltE a x), ltE x e = true := fun e he => by
    rcases ltE_or e x with k | k | k
    · rw [dropWhile_ge hs he] at k; cases k
    · exact k
    · exact absurd k (hx e ((List.dropWhile_suffix _).subset he))
  refine List.pairwise_append.2 ⟨h1, List.pairwise_cons.2 ⟨hgt, h2⟩, fun a ha b hb => ?_⟩
  rcases List.mem_cons.1 hb with hb | hb
  · subst hb; exact takeWhile_lt ha
  · exact h3 a ha b hb

/-- all of a list laid in, one after the other -/
theorem fold_ins : ∀ {l acc : List Ent}, Sorted acc → (∀ e ∈ l, ∀ f ∈ acc, cfE f e ≠ 0) → (l.Pairwise fun a b => cfE a b ≠ 0) → Sorted (l.foldl insE acc) ∧ ∀ e, e ∈ l.foldl insE acc ↔ e ∈ l ∨ e ∈ acc
  | [], acc, h, _, _ => ⟨h, fun e => by simp⟩
  | x :: l, acc, h, h1, h2 => by
    obtain ⟨a, b⟩ := List.pairwise_cons.1 h2
    have := fold_ins (l := l) (acc := insE acc x) (insE_sorted h (fun e he => h1 x List.mem_cons_self e he)) (fun e he f hf => by
      rcases mem_insE.1 hf with hf | hf
      · subst hf; exact a e he
      · exact h1 e (List.mem_cons_of_mem _ he) f hf) b
    refine ⟨this.1, fun e => ?_⟩
    rw [List.foldl_cons, this.2 e, mem_insE, List.mem_cons]
    constructor
    · rintro (h | h | h)
      · exact .inl (.inr h)
      · exact .inl (.inl h)
      · exact .inr h
    · rintro ((h | h) | h)
      · exact .inr (.inl h)
      · exact .inl h
      · exact .inr (.inr h)

/-! ### tables -/
structure Tab where
  seen : Nat → Nat
  L : List Ent
/-- a table that was made with at most m writes -/
structure Tab.Ok (m : Nat) (T : Tab) : Prop where
  out : ∀ i, 8 ≤ i → T.seen i = 0
  few : ∀ i, T.seen i ≤ m
  srt : Sorted T.L
  ent : ∀ e ∈ T.L, e.site < 8 ∧ 1 ≤ e.count ∧ e.count ≤ T.seen e.site
  txt : ∀ e ∈ T.L, 1 ≤ e.key.size ∧ e.key.size ≤ 64 ∧ e.val.size ≤ 64
  dots : ∀ e ∈ T.L, ∀ f ∈ T.L, e.site = f.site → e.count = f.count → e = f
def Tab.none : Tab := ⟨fun _ => 0, []⟩
theorem Tab.none_ok : Tab.none.Ok 0 := ⟨fun _ _ => rfl, fun _ => Nat.le_refl _, List.Pairwise.nil, fun e h => (by cases h), fun e h => (by cases h), fun e h => (by cases h)⟩
theorem Tab.Ok.more {m n : Nat} {T : Tab} (h : T.Ok m) (hn : m ≤ n) : T.Ok n := ⟨h.out, fun i => Nat.le_trans (h.few i) hn, h.srt, h.ent, h.txt, h.dots⟩

theorem nodup_lt : ∀ (n : Nat) (l : List Nat), l.Nodup → (∀ x ∈ l, x < n) → l.length ≤ n
  | 0, [], _, _ => Nat.le_refl _
  | 0, x :: l, _, h => absurd (h x List.mem_cons_self) (by omega)
  | n + 1, l, hn, h => by
    have h1 : (l.erase n).length ≤ n := nodup_lt n _ (hn.erase n) (fun x hx => by
      obtain ⟨a, b⟩ := (hn.mem_erase_iff).1 hx
      have := h x b; omega)
    have h2 := List.length_erase_le (a := n) (l := l)
    have h3 : l.length ≤ (l.erase n).length + 1 := by rw [List.length_erase]; split <;> omega
    omega
theorem Tab.Ok.len {m : Nat} {T : Tab} (h : T.Ok m) : T.L.length ≤ 8 * m := by
  have h1 : (T.L.map fun e => e.site * m + (e.count - 1)).Nodup := by
    refine List.pairwise_map.2 (List.Pairwise.imp_of_mem ?_ h.srt)
    intro a b ha hb k e
    obtain ⟨a1, a2, a3⟩ := h.ent a ha
    obtain ⟨b1, b2, b3⟩ := h.ent b hb
    have a4 := h.few a.site; have b4 := h.few b.site
    have m0 : 0 < m := by omega
    have ea : (a.site * m + (a.count - 1)) / m = a.site := by rw [Nat.mul_comm, Nat.mul_add_div m0, Nat.div_eq_of_lt (by omega)]; omega
    have eb : (b.site * m + (b.count - 1)) / m = b.site := by rw [Nat.mul_comm, Nat.mul_add_div m0, Nat.div_eq_of_lt (by omega)]; omega
    have es : a.site = b.site := by rw [← ea, ← eb, e]
    have ec : a.count = b.count := by rw [es] at e; omega
    have := h.dots a ha b hb es ec
    subst this
    rw [ltE_irrefl] at k; cases k
  have := nodup_lt (8 * m) _ h1 (fun x hx => by
    obtain ⟨e, he, rfl⟩ := List.mem_map.1 hx
    obtain ⟨a1, a2, a3⟩ := h.ent e he
    have a4 := h.few e.site
    have : e.site * m ≤ 7 * m := Nat.mul_le_mul_right _ (by omega)
    omega)
  simpa using this

noncomputable def remT (T : Tab) (k : ByteArray) : Tab := ⟨T.seen, T.L.filter fun e => !(decide (e.key = k))⟩
noncomputable def getT (T : Tab) (k : ByteArray) : List ByteArray := (T.L.filter fun e => decide (e.key = k)).map Ent.val
def upd (s : Nat → Nat) (i v : Nat) : Nat → Nat := fun j => if j = i then v else s j
noncomputable def putT (T : Tab) (s : Nat) (hs : s < 8) (k v : ByteArray) : Tab := ⟨upd T.seen s (T.seen s + 1), insE (remT T k).L ⟨k, v, s, T.seen s + 1, hs⟩⟩
def saw (s : Nat → Nat) (e : Ent) : Bool := decide (e.count ≤ s e.site)
open Classical in
noncomputable def hasE (l : List Ent) (e : Ent) : Bool := decide (e ∈ l)
noncomputable def keptT (a b : Tab) : List Ent := a.L.filter fun e => hasE b.L e || !(saw b.seen e)
noncomputable def addedT (a b : Tab) : List Ent := b.L.filter fun e => !(saw a.seen e)
noncomputable def merT (a b : Tab) : Tab := ⟨fun i => max (a.seen i) (b.seen i), (keptT a b ++ addedT a b).foldl insE []⟩

theorem mem_rem {T : Tab} {k : ByteArray} {e : Ent} : e ∈ (remT T k).L ↔ e ∈ T.L ∧ e.key ≠ k := by
  unfold remT; simp
theorem rem_ok {m : Nat} {T : Tab} (h : T.Ok m) (k : ByteArray) : (remT T k).Ok m :=
  ⟨h.out, h.few, h.srt.filter _, fun e he => h.ent e (mem_rem.1 he).1, fun e he => h.txt e (mem_rem.1 he).1, fun e he f hf => h.dots e (mem_rem.1 he).1 f (mem_rem.1 hf).1⟩
theorem mem_put {T : Tab} {s : Nat} {hs : s < 8} {k v : ByteArray} {e : Ent} : e ∈ (putT T s hs k v).L ↔ e = ⟨k, v, s, T.seen s + 1, hs⟩ ∨ (e ∈ T.L ∧ e.key ≠ k) := by
  unfold putT; rw [mem_insE, mem_rem]
theorem upd_self (s : Nat → Nat) (i v : Nat) : upd s i v i = v := by unfold upd; simp
theorem upd_other (s : Nat → Nat) {i j : Nat} (v : Nat) (h : j ≠ i) : upd s i v j = s j := by unfold upd; simp [h]
theorem upd_ge (s : Nat → Nat) (i j : Nat) : s j ≤ upd s i (s i + 1) j := by unfold upd; split <;> (try subst_vars) <;> omega
theorem put_ok {m : Nat} {T : Tab} (h : T.Ok m) {s : Nat} {k v : ByteArray} (hs : s < 8) (hk : 1 ≤ k.size ∧ k.size ≤ 64) (hv : v.size ≤ 64) : (putT T s hs k v).Ok (m + 1) := by
  have hsrt : Sorted (putT T s hs k v).L := insE_sorted (rem_ok h k).srt fun e he e0 => by
    exact (mem_rem.1 he).2 (cfE_zero.1 e0).1
  refine ⟨fun i hi => ?_, fun i => ?_, hsrt, fun e he => ?_, fun e he => ?_, fun e he f hf h1 h2 => ?_⟩
  · show upd T.seen s _ i = 0
    rw [upd_other _ _ (by omega)]; exact h.out i hi
  · show upd T.seen s _ i ≤ _
    unfold upd
    have := h.few s; have := h.few i
    split <;> omega
  · show _ ∧ _ ∧ e.count ≤ upd T.seen s _ e.site
    rcases mem_put.1 he with rfl | ⟨he, _⟩
    · refine ⟨hs, by simp, ?_⟩
      rw [upd_self]; exact Nat.le_refl _
    · obtain ⟨a, b, c⟩ := h.ent e he
      exact ⟨a, b, Nat.le_trans c (upd_ge _ _ _)⟩
  · rcases mem_put.1 he with rfl | ⟨he, _⟩
    · exact ⟨hk.1, hk.2, hv⟩
    · exact h.txt e he
  · rcases mem_put.1 he with rfl | ⟨he, _⟩
    · rcases mem_put.1 hf with rfl | ⟨hf, _⟩
      · rfl
      · have := (h.ent f hf).2.2
        simp only at h1 h2
        rw [← h1, ← h2] at this; omega
    · rcases mem_put.1 hf with rfl | ⟨hf, _⟩
      · have := (h.ent e he).2.2
        simp only at h1 h2
        rw [h1, h2] at this; omega
      · exact h.dots e he f hf h1 h2

theorem mem_kept {a b : Tab} {e : Ent} : e ∈ keptT a b ↔ e ∈ a.L ∧ (e ∈ b.L ∨ saw b.seen e = false) := by
  unfold keptT hasE; simp
theorem mem_added {a b : Tab} {e : Ent} : e ∈ addedT a b ↔ e ∈ b.L ∧ saw a.seen e = false := by
  unfold addedT; simp
theorem saw_own {m : Nat} {T : Tab} (h : T.Ok m) {e : Ent} (he : e ∈ T.L) : saw T.seen e = true := by
  unfold saw; simpa using (h.ent e he).2.2
theorem kept_added {m n : Nat} {a b : Tab} (ha : a.Ok m) (hb : b.Ok n) : (keptT a b ++ addedT a b).Pairwise fun x y => cfE x y ≠ 0 := by
  have key : ∀ l : List Ent, Sorted l → l.Pairwise fun x y => cfE x y ≠ 0 := fun l h => List.Pairwise.imp (fun {x y} k e => by rw [ltE_congr e, ltE_irrefl] at k; cases k) h
  refine List.pairwise_append.2 ⟨key _ (ha.srt.filter _), key _ (hb.srt.filter _), fun x hx y hy e => ?_⟩
  obtain ⟨_, e1, e2⟩ := cfE_zero.1 e
  have h1 := saw_own ha (mem_kept.1 hx).1
  have h2 := (mem_added.1 hy).2
  unfold saw at h1 h2
  rw [e1, e2] at h1
  rw [h1] at h2; cases h2
theorem mer_sorted {m n : Nat} {a b : Tab} (ha : a.Ok m) (hb : b.Ok n) : Sorted (merT a b).L :=
  (fold_ins (l := keptT a b ++ addedT a b) (acc := []) List.Pairwise.nil (fun _ _ f hf => (by cases hf)) (kept_added ha hb)).1
theorem mem_mer0 {m n : Nat} {a b : Tab} (ha : a.Ok m) (hb : b.Ok n) {e : Ent} : e ∈ (merT a b).L ↔ e ∈ keptT a b ++ addedT a b := by
  have := (fold_ins (l := keptT a b ++ addedT a b) (acc := []) List.Pairwise.nil (fun _ _ f hf => (by cases hf)) (kept_added ha hb)).2 e
  simpa [merT] using this
/-- the document's words: in both, or in one and not seen by the other one -/
theorem mem_mer {m n : Nat} {a b : Tab} (ha : a.Ok m) (hb : b.Ok n) {e : Ent} : e ∈ (merT a b).L ↔ (e ∈ a.L ∧ e ∈ b.L) ∨ (e ∈ a.L ∧ saw b.seen e = false) ∨ (e ∈ b.L ∧ saw a.seen e = false) := by
  rw [mem_mer0 ha hb, List.mem_append, mem_kept, mem_added]
  constructor
  · rintro (⟨h, h1 | h1⟩ | h)
    · exact .inl ⟨h, h1⟩
    · exact .inr (.inl ⟨h, h1⟩)
    · exact .inr (.inr h)
  · rintro (⟨h, h1⟩ | h | h)
    · exact .inl ⟨h, .inl h1⟩
    · exact .inl ⟨h.1, .inr h.2⟩
    · exact .inr h
theorem saw_mer {a b : Tab} {e : Ent} : saw (merT a b).seen e = (saw a.seen e || saw b.seen e) := by
  unfold saw merT
  rw [Bool.eq_iff_iff]; simp; omega
theorem mer_ok {m n q : Nat} {a b : Tab} (ha : a.Ok m) (hb : b.Ok n) (h1 : m ≤ q) (h2 : n ≤ q) : (merT a b).Ok q := by
  have sub : ∀ e ∈ (merT a b).L, e ∈ a.L ∨ e ∈ b.L := fun e he => by
    rcases (mem_mer ha hb).1 he with h | h | h
    · exact .inl h.1
    · exact .inl h.1
    · exact .inr h.1
  refine ⟨fun i hi => ?_, fun i => ?_, mer_sorted ha hb, fun e he => ?_, fun e he => ?_, fun e he f hf e1 e2 => ?_⟩
  · show max _ _ = 0
    rw [ha.out i hi, hb.out i hi]; rfl
  · show max _ _ ≤ q
    have := ha.few i; have := hb.few i; omega
  · show _ ∧ _ ∧ e.count ≤ max _ _
    rcases sub e he with h | h
    · have := ha.ent e h; omega
    · have := hb.ent e h; omega
  · rcases sub e he with h | h
    · exact ha.txt e h
    · exact hb.txt e h
  · have sw : ∀ s, saw s e = saw s f := fun s => by unfold saw; rw [e1, e2]
    have he' := (mem_mer ha hb).1 he
    have hf' := (mem_mer ha hb).1 hf
    have sa : e ∈ a.L → f ∈ a.L → e = f := fun x y => ha.dots e x f y e1 e2
    have sb : e ∈ b.L → f ∈ b.L → e = f := fun x y => hb.dots e x f y e1 e2
    have oa : ∀ {x}, x ∈ a.L → saw a.seen x = true := fun h => saw_own ha h
    have ob : ∀ {x}, x ∈ b.L → saw b.seen x = true := fun h => saw_own hb h
    rcases he' with ⟨p, p'⟩ | ⟨p, p'⟩ | ⟨p, p'⟩ <;> rcases hf' with ⟨r, r'⟩ | ⟨r, r'⟩ | ⟨r, r'⟩
    all_goals first
      | exact sa p r | exact sb p r | exact sb p' r | exact sb p r' | exact sa p r'
      | (exfalso; have u := oa p; rw [sw] at u; rw [u] at r'; cases r')
      | (exfalso; have u := ob p; rw [sw] at u; rw [u] at r'; cases r')
      | (exfalso; have u := oa r; rw [← sw] at u; rw [u] at p'; cases p')
      | (exfalso; have u := ob r; rw [← sw] at u; rw [u] at p'; cases p')
theorem Tab.ext' {a b : Tab} (h1 : ∀ i, a.seen i = b.seen i) (h2 : a.L = b.L) : a = b := by
  obtain ⟨s, l⟩ := a; obtain ⟨s', l'⟩ := b
  simp only at h1 h2
  rw [funext h1, h2]
/-- tables with the same numbers and the same entries are the same -/
theorem Tab.Ok.eq {m n : Nat} {a b : Tab} (ha : a.Ok m) (hb : b.Ok n) (h1 : ∀ i, a.seen i = b.seen i) (h2 : ∀ e, e ∈ a.L ↔ e ∈ b.L) : a = b := Tab.ext' h1 (Sorted.uniq ha.srt hb.srt h2)
end Go.Proofs.Ytpghehckojdgeaa

/- The contracts that the program calls come to, at the numbers of this program. -/
namespace Go.Proofs
open Go.Shelf
def Try.lays128_ren : Go.Shelf.Ren := ⟨fun | 128 => 101 | n => n, fun | 51 => 145 | 3 => 3 | 4 => 4 | 46 => 135 | 5 => 5 | 9 => 9 | n => n, fun | n => n⟩
theorem Try.lays128 : Go.Proofs.Lays.n128 Try.prog Try.lays128_ren := {
  mixed := by kernel_rfl
  f128 := Try.func101.trans (congrArg some (by kernel_rfl))
  t3 := Try.underlying3
  a3 := Try.isAgg3
  z3 := Try.sizeOf3
  v3 := Try.zeroValue3
  t4 := Try.underlying4
  a4 := Try.isAgg4
  z4 := Try.sizeOf4
  v4 := Try.zeroValue4
  t5 := Try.underlying5
  a5 := Try.isAgg5
  z5 := Try.sizeOf5
  v5 := Try.zeroValue5
  t9 := Try.underlying9
  a9 := Try.isAgg9
  z9 := Try.sizeOf9
  v9 := Try.zeroValue9
  t46 := Try.underlying135
  a46 := Try.isAgg135
  z46 := Try.sizeOf135
  v46 := Try.zeroValue135
  t51 := Try.underlying145
  a51 := Try.isAgg145
  z51 := Try.sizeOf145
  v51 := Try.zeroValue145 }
theorem Try.bits_Len32 (x : Int) (w : World) (h0 : 0 ≤ x) (h1 : x ≤ 4294967295) :
    Calls Try.prog 101 #[.int .u32 x] w fun e w' => e = .returned (.int .i64 (Lib.bitLen x.toNat)) ∧ w' = w := Any.bits_Len32 Try.lays128 x w h0 h1
def Try.lays125_ren : Go.Shelf.Ren := ⟨fun | 125 => 89 | 128 => 101 | 129 => 102 | n => n, fun | 46 => 135 | 3 => 3 | 51 => 145 | 53 => 147 | 4 => 4 | 5 => 5 | 9 => 9 | n => n, fun | n => n⟩
theorem Try.lays125 : Go.Proofs.Lays.n125 Try.prog Try.lays125_ren := {
  mixed := by kernel_rfl
  f125 := Try.func89.trans (congrArg some (by kernel_rfl))
  f128 := Try.func101.trans (congrArg some (by kernel_rfl))
  f129 := Try.func102.trans (congrArg some (by kernel_rfl))
  t3 := Try.underlying3
  a3 := Try.isAgg3
  z3 := Try.sizeOf3
  v3 := Try.zeroValue3
  t4 := Try.underlying4
  a4 := Try.isAgg4
  z4 := Try.sizeOf4
  v4 := Try.zeroValue4
  t5 := Try.underlying5
  a5 := Try.isAgg5
  z5 := Try.sizeOf5
  v5 := Try.zeroValue5
  t9 := Try.underlying9
  a9 := Try.isAgg9
  z9 := Try.sizeOf9
  v9 := Try.zeroValue9
  t46 := Try.underlying135
  a46 := Try.isAgg135
  z46 := Try.sizeOf135
  v46 := Try.zeroValue135
  t51 := Try.underlying145
  a51 := Try.isAgg145
  z51 := Try.sizeOf145
  v51 := Try.zeroValue145
  t53 := Try.underlying147
  a53 := Try.isAgg147
  z53 := Try.sizeOf147
  v53 := Try.zeroValue147 }
theorem Try.bits_Len (x : Int) (w : World) (h0 : 0 ≤ x) (h1 : x ≤ 18446744073709551615) :
    Calls Try.prog 89 #[.int .u64 x] w fun e w' => e = .returned (.int .i64 (Lib.bitLen x.toNat)) ∧ w' = w := Any.bits_Len Try.lays125 x w h0 h1
def Try.lays213_ren : Go.Shelf.Ren := ⟨fun | 213 => 90 | 265 => 103 | n => n, fun | 9 => 9 | 3 => 3 | n => n, fun | n => n⟩
theorem Try.lays213 : Go.Proofs.Lays.n213 Try.prog Try.lays213_ren := {
  mixed := by kernel_rfl
  f213 := Try.func90.trans (congrArg some (by kernel_rfl))
  f265 := Try.func103.trans (congrArg some (by kernel_rfl))
  t3 := Try.underlying3
  a3 := Try.isAgg3
  z3 := Try.sizeOf3
  v3 := Try.zeroValue3
  t9 := Try.underlying9
  a9 := Try.isAgg9
  z9 := Try.sizeOf9
  v9 := Try.zeroValue9 }
open Go.RowKit in
theorem Try.bytealg_CompareString (a b : ByteArray) (w : World) :
    Calls Try.prog 90 #[.string a, .string b] w fun e w' => e = .returned (.int .i64 (Lib.compareBytes a.data.toList b.data.toList)) ∧ w' = w := Any.bytealg_CompareString Try.lays213 a b w
def Try.lays106_ren : Go.Shelf.Ren := ⟨fun | 106 => 81 | 213 => 90 | 265 => 103 | n => n, fun | 9 => 9 | 3 => 3 | n => n, fun | n => n⟩
theorem Try.lays106 : Go.Proofs.Lays.n106 Try.prog Try.lays106_ren := {
  mixed := by kernel_rfl
  f106 := Try.func81.trans (congrArg some (by kernel_rfl))
  f213 := Try.func90.trans (congrArg some (by kernel_rfl))
  f265 := Try.func103.trans (congrArg some (by kernel_rfl))
  t3 := Try.underlying3
  a3 := Try.isAgg3
  z3 := Try.sizeOf3
  v3 := Try.zeroValue3
  t9 := Try.underlying9
  a9 := Try.isAgg9
  z9 := Try.sizeOf9
  v9 := Try.zeroValue9 }
open Go.RowKit in
theorem Try.strings_Compare (a b : ByteArray) (w : World) :
    Calls Try.prog 81 #[.string a, .string b] w fun e w' => e = .returned (.int .i64 (Lib.compareBytes a.data.toList b.data.toList)) ∧ w' = w := Any.strings_Compare Try.lays106 a b w
def Try.lays215_ren : Go.Shelf.Ren := ⟨fun | 215 => 91 | n => n, fun | 3 => 3 | 4 => 4 | n => n, fun | n => n⟩
theorem Try.lays215 : Go.Proofs.Lays.n215 Try.prog Try.lays215_ren := {
  mixed := by kernel_rfl
  f215 := Try.func91.trans (congrArg some (by kernel_rfl))
  t3 := Try.underlying3
  a3 := Try.isAgg3
  z3 := Try.sizeOf3
  v3 := Try.zeroValue3
  t4 := Try.underlying4
  a4 := Try.isAgg4
  z4 := Try.sizeOf4
  v4 := Try.zeroValue4 }
open Go.RowKit in
theorem Try.cmp_isNaN_int (x : Int) (w : World) :
    Calls Try.prog 91 #[.int .i64 x] w fun e w' => e = .returned (.bool false) ∧ w' = w := Any.cmp_isNaN_int Try.lays215 x w
def Try.lays122_ren : Go.Shelf.Ren := ⟨fun | 122 => 82 | 215 => 91 | n => n, fun | 3 => 3 | 4 => 4 | n => n, fun | n => n⟩
theorem Try.lays122 : Go.Proofs.Lays.n122 Try.prog Try.lays122_ren := {
  mixed := by kernel_rfl
  f122 := Try.func82.trans (congrArg some (by kernel_rfl))
  f215 := Try.func91.trans (congrArg some (by kernel_rfl))
  t3 := Try.underlying3
  a3 := Try.isAgg3
  z3 := Try.sizeOf3
  v3 := Try.zeroValue3
  t4 := Try.underlying4
  a4 := Try.isAgg4
  z4 := Try.sizeOf4
  v4 := Try.zeroValue4 }
open Go.RowKit in
theorem Try.cmp_Compare_int (x y : Int) (w : World) :
    Calls Try.prog 82 #[.int .i64 x, .int .i64 y] w fun e w' => e = .returned (.int .i64 (Lib.compareInt x y)) ∧ w' = w := Any.cmp_Compare_int Try.lays122 x y w
def Try.lays129_ren : Go.Shelf.Ren := ⟨fun | 129 => 102 | n => n, fun | 53 => 147 | 3 => 3 | 4 => 4 | 46 => 135 | 5 => 5 | 9 => 9 | n => n, fun | n => n⟩
theorem Try.lays129 : Go.Proofs.Lays.n129 Try.prog Try.lays129_ren := {
  mixed := by kernel_rfl
  f129 := Try.func102.trans (congrArg some (by kernel_rfl))
  t3 := Try.underlying3
  a3 := Try.isAgg3
  z3 := Try.sizeOf3
  v3 := Try.zeroValue3
  t4 := Try.underlying4
  a4 := Try.isAgg4
  z4 := Try.sizeOf4
  v4 := Try.zeroValue4
  t5 := Try.underlying5
  a5 := Try.isAgg5
  z5 := Try.sizeOf5
  v5 := Try.zeroValue5
  t9 := Try.underlying9
  a9 := Try.isAgg9
  z9 := Try.sizeOf9
  v9 := Try.zeroValue9
  t46 := Try.underlying135
  a46 := Try.isAgg135
  z46 := Try.sizeOf135
  v46 := Try.zeroValue135
  t53 := Try.underlying147
  a53 := Try.isAgg147
  z53 := Try.sizeOf147
  v53 := Try.zeroValue147 }
theorem Try.bits_Len64 (x : Int) (w : World) (h0 : 0 ≤ x) (h1 : x ≤ 18446744073709551615) :
    Calls Try.prog 102 #[.int .u64 x] w fun e w' => e = .returned (.int .i64 (Lib.bitLen x.toNat)) ∧ w' = w := Any.bits_Len64 Try.lays129 x w h0 h1
def Try.laysM316_ren : Go.Shelf.Ren := ⟨fun | 316 => 77 | n => n, fun | 9 => 9 | 3 => 3 | 4 => 4 | 37 => 62 | 0 => 0 | 127 => 131 | 5 => 5 | n => n, fun | n => n⟩
theorem Try.laysM316 : Go.Proofs.LaysM.n316 Try.prog Try.laysM316_ren := {
  mixed := by kernel_rfl
  f316 := Try.func77.trans (congrArg some (by kernel_rfl))
  t0 := Try.underlying0
  a0 := Try.isAgg0
  z0 := Try.sizeOf0
  v0 := Try.zeroValue0
  t3 := Try.underlying3
  a3 := Try.isAgg3
  z3 := Try.sizeOf3
  v3 := Try.zeroValue3
  t4 := Try.underlying4
  a4 := Try.isAgg4
  z4 := Try.sizeOf4
  v4 := Try.zeroValue4
  t9 := Try.underlying9
  a9 := Try.isAgg9
  z9 := Try.sizeOf9
  v9 := Try.zeroValue9
  t37 := Try.underlying62
  a37 := Try.isAgg62
  z37 := Try.sizeOf62
  v37 := Try.zeroValue62
  t127 := Try.underlying131
  a127 := Try.isAgg131
  z127 := Try.sizeOf131
  v127 := Try.zeroValue131
  t5 := Try.underlying5
  a5 := Try.isAgg5
  z5 := Try.sizeOf5
  v5 := Try.zeroValue5
  i0 := by kernel_rfl
  i3 := by kernel_rfl
  i4 := by kernel_rfl
  i5 := by kernel_rfl
  i9 := by kernel_rfl
  i37 := by kernel_rfl
  i127 := by kernel_rfl }
open Go.RowKit in
theorem Try.stringslite_Clone (s : ByteArray) (w : World) (hlim : s.size ≤ 281474976710656) :
    Calls Try.prog 77 #[.string s] w fun e w' => e = .returned (.string s) ∧ Below w.heap.size w w' := Any.stringslite_Clone Try.laysM316 s w hlim
def Try.equalE_ren : Go.Shelf.Ren := ⟨fun | 8 => 32 | n => n, fun | 22 => 32 | 24 => 82 | 4 => 4 | 3 => 3 | 0 => 0 | n => n, fun | n => n⟩
theorem Try.equalE : Go.Proofs.SlLaysQ.n8 Try.prog Try.equalE_ren := {
  mixed := by kernel_rfl
  f8 := ⟨Try.f32.name, by decide, Try.func32.trans (congrArg some (by kernel_rfl))⟩
  t0 := Try.underlying0
  a0 := Try.isAgg0
  z0 := Try.sizeOf0
  v0 := Try.zeroValue0
  t3 := Try.underlying3
  a3 := Try.isAgg3
  z3 := Try.sizeOf3
  v3 := Try.zeroValue3
  t4 := Try.underlying4
  a4 := Try.isAgg4
  z4 := Try.sizeOf4
  v4 := Try.zeroValue4
  t22 := Try.underlying32
  a22 := Try.isAgg32
  z22 := Try.sizeOf32
  v22 := Try.zeroValue32 }
def Try.growE_ren : Go.Shelf.Ren := ⟨fun | 4 => 87 | n => n, fun | 22 => 32 | 25 => 82 | 3 => 3 | 4 => 4 | 9 => 9 | 20 => 20 | 0 => 0 | n => n, fun | n => n⟩
theorem Try.growE : Go.Proofs.Lays8.n4 Try.prog Try.growE_ren := {
  mixed := by kernel_rfl
  f4 := ⟨Try.f87.name, by decide, Try.func87.trans (congrArg some (by kernel_rfl))⟩
  t0 := Try.underlying0
  a0 := Try.isAgg0
  z0 := Try.sizeOf0
  v0 := Try.zeroValue0
  t3 := Try.underlying3
  a3 := Try.isAgg3
  z3 := Try.sizeOf3
  v3 := Try.zeroValue3
  t4 := Try.underlying4
  a4 := Try.isAgg4
  z4 := Try.sizeOf4
  v4 := Try.zeroValue4
  t9 := Try.underlying9
  a9 := Try.isAgg9
  z9 := Try.sizeOf9
  v9 := Try.zeroValue9
  t20 := Try.underlying20
  a20 := Try.isAgg20
  z20 := Try.sizeOf20
  v20 := Try.zeroValue20
  t22 := Try.underlying32
  a22 := Try.isAgg32
  z22 := Try.sizeOf32
  v22 := Try.zeroValue32 }
end Go.Proofs

/- Entries in memory; how they compare. -/
set_option linter.unusedVariables false
set_option linter.unusedSimpArgs false
namespace Go.Proofs.Ytpghehckojdgeaa
open Go.RowKit Go.Shelf Go.Sort

theorem box_below (W : World) (o : Obj) : Below W.heap.size W (W.alloc o) := (Below.refl _ _).alloc (Nat.le_refl _) _
theorem below_then {w w1 w2 : World} (h : Below w.heap.size w w1) (k : Below w1.heap.size w1 w2) : Below w.heap.size w w2 := h.trans (k.mono h.size)

/-- the cells of an entry -/
def encE (e : Ent) : List Value := [.string e.key, .string e.val, .int .i64 (e.site : Int), .int .i64 (e.count : Int)]

set_option maxHeartbeats 1000000 in
theorem or_any (b : Nat) (x y z : Int) (w : World) (h0 : w.cell? ⟨b, 0, none⟩ = some (.int .i64 x)) (h1 : w.cell? ⟨b, 1, none⟩ = some (.int .i64 y)) (h2 : w.cell? ⟨b, 2, none⟩ = some (.int .i64 z)) :
    Calls Try.prog 80 #[.slice (some ⟨b, 0, none⟩) 3 3] w (fun e w' => e = .returned (.int .i64 (orI x y z)) ∧ w = w') := by
  by_cases hx : x = 0
  · by_cases hy : y = 0
    · by_cases hz : z = 0
      · subst hx hy hz
        go_enter Try.func80, Try.ntmps80
        go_wp2
        refine wp_loop_rounds 4 ?_
        rw [rounds_succ]
        go_wp2
        rw [rounds_succ]
        go_wp2
        rw [rounds_succ]
        go_wp2
        rw [rounds_succ]
        go_wp2
        go_ret
        exact ⟨rfl, rfl⟩
      · have e : orI x y z = z := by unfold orI; simp [hx, hy]
        rw [e]
        subst hx hy
        go_enter Try.func80, Try.ntmps80
        go_wp2
        refine wp_loop_rounds 3 ?_
        rw [rounds_succ]
        go_wp2
        rw [rounds_succ]
        go_wp2
        rw [rounds_succ]
        go_wp2
        go_ret
        exact ⟨rfl, rfl⟩
    · have e : orI x y z = y := by unfold orI; simp [hx, hy]
      rw [e]
      subst hx
      go_enter Try.func80, Try.ntmps80
      go_wp2
      refine wp_loop_rounds 2 ?_
      rw [rounds_succ]
      go_wp2
      rw [rounds_succ]
      go_wp2
      go_ret
      exact ⟨rfl, rfl⟩
  · have e : orI x y z = x := by unfold orI; simp [hx]
    rw [e]
    go_enter Try.func80, Try.ntmps80
    go_wp2
    refine wp_loop_rounds 1 ?_
    rw [rounds_succ]
    go_wp2
    go_ret
    exact ⟨rfl, rfl⟩

theorem str_eq {a b : ByteArray} (h : a = b) : (a.toList == b.toList) = true := by rw [h]; simp
theorem str_ne {a b : ByteArray} (h : a ≠ b) : (a.toList == b.toList) = false := by
  rw [beq_eq_false_iff_ne]
  intro k
  rw [ByteArray.toList_eq, ByteArray.toList_eq] at k
  exact h (bytes_ext k)
theorem four_cells {w : World} {T : Nat} {a b c d : Value} {ty : TypeId} (h : w.heap[T]? = some (.cells #[a, b, c, d] ty (0, 0))) :
    w.cell? ⟨T, 0, none⟩ = some a ∧ w.cell? ⟨T, 1, none⟩ = some b ∧ w.cell? ⟨T, 2, none⟩ = some c ∧ w.cell? ⟨T, 3, none⟩ = some d := by
  refine ⟨?_, ?_, ?_, ?_⟩
  all_goals (simp only [World.cell?]; rw [h]; simp; done)

theorem grow3 (W : World) (a b c : Obj) : ((W.alloc a).alloc b).drew.alloc c = grow (W.drewN 1) #[a, b, c] := by
  rw [alloc_eq_grow, alloc_eq_grow, alloc_eq_grow]; rfl

set_option maxRecDepth 100000 in
set_option maxHeartbeats 1000000 in
/-- byKeyAndDot, in whatever world -/
theorem byKey_any (x y : Ent) (w : World) : Calls Try.prog 56 #[.agg (encE x).toArray, .agg (encE y).toArray] w (fun e w' => e = .returned (.int .i64 (cfE x y)) ∧ ∃ q os, w' = grow (w.drewN q) os) := by
  have hk := fun W => Try.strings_Compare x.key y.key W
  have hs := fun W => Try.cmp_Compare_int (x.site : Int) (y.site : Int) W
  have hc := fun W => Try.cmp_Compare_int (x.count : Int) (y.count : Int) W
  obtain ⟨xk, xv, xs, xc, xl⟩ := x
  obtain ⟨yk, yv, ys, yc, yl⟩ := y
  simp only at hk hs hc
  have HF : Hid (cfE ⟨xk, xv, xs, xc, xl⟩ ⟨yk, yv, ys, yc, yl⟩ = orI (keyCmp xk yk) (natCmp xs ys) (natCmp xc yc)) := Lib.hid rfl
  generalize cfE ⟨xk, xv, xs, xc, xl⟩ ⟨yk, yv, ys, yc, yl⟩ = r at HF ⊢
  change Calls _ _ #[.agg #[.string xk, .string xv, .int .i64 (xs : Int), .int .i64 (xc : Int)], .agg #[.string yk, .string yv, .int .i64 (ys : Int), .int .i64 (yc : Int)]] _ _
  change ∀ W, Calls _ _ _ _ (fun e w' => e = .returned (.int .i64 (keyCmp xk yk)) ∧ w' = W) at hk
  change ∀ W, Calls _ _ _ _ (fun e w' => e = .returned (.int .i64 (natCmp xs ys)) ∧ w' = W) at hs
  change ∀ W, Calls _ _ _ _ (fun e w' => e = .returned (.int .i64 (natCmp xc yc)) ∧ w' = W) at hc
  generalize keyCmp xk yk = k1 at hk HF
  generalize natCmp xs ys = k2 at hs HF
  generalize natCmp xc yc = k3 at hc HF
  obtain ⟨V, hV⟩ : ∃ V, V = (w.alloc (.cells #[.string xk, .string xv, .int .i64 (xs : Int), .int .i64 (xc : Int)] 82)).alloc (.cells #[.string yk, .string yv, .int .i64 (ys : Int), .int .i64 (yc : Int)] 82) := ⟨_, rfl⟩
  have r0 := four_cells (ty := 82) (w := V) (T := w.heap.size) (a := .string xk) (b := .string xv) (c := .int .i64 (xs : Int)) (d := .int .i64 (xc : Int)) (by rw [hV, Below.heap_alloc _ _ _ (by simp)]; exact heap_alloc_new _ _)
  have r1 := four_cells (ty := 82) (w := V) (T := w.heap.size + 1) (a := .string yk) (b := .string yv) (c := .int .i64 (ys : Int)) (d := .int .i64 (yc : Int)) (by
    rw [hV]
    have := heap_alloc_new (w.alloc (.cells #[.string xk, .string xv, .int .i64 (xs : Int), .int .i64 (xc : Int)] 82)) (.cells #[.string yk, .string yv, .int .i64 (ys : Int), .int .i64 (yc : Int)] 82)
    rwa [World.size_alloc] at this)
  obtain ⟨a0, a1, a2, a3⟩ := r0
  obtain ⟨b0, b1, b2, b3⟩ := r1
  have HV := Lib.hid hV
  clear hV
  go_enter Try.func56, Try.ntmps56
  go_upto_region 1 with fail
  rw [← HV.out]
  go_still_tail 19, (by kernel_rfl)
  still_call (hk _)
  repeat still_step
  still_call (hs _)
  repeat still_step
  still_call (hc _)
  repeat still_step
  refine wpStill_nil ?_
  go_wp2_with (go_at_call 80; refine (or_any _ k1 k2 k3 _ (by simp) (by simp) (by simp)).mono ?_; rintro e w' ⟨rfl, rfl⟩)
  go_ret
  exact ⟨by rw [HF.out]; rfl, 1, _, by rw [HV.out]; exact grow3 _ _ _ _⟩
end Go.Proofs.Ytpghehckojdgeaa

/- Slices of entries in memory. No function of the program is walked here. -/
set_option linter.unusedVariables false
set_option linter.unusedSimpArgs false
namespace Go.Proofs.Ytpghehckojdgeaa
open Go.RowKit Go.Shelf Go.Sort

/-- the four cells at ⟨g, o⟩ hold the entry e -/
def At4 (w : World) (g o : Nat) (e : Ent) : Prop :=
  w.cell? ⟨g, o, none⟩ = some (.string e.key) ∧ w.cell? ⟨g, o + 1, none⟩ = some (.string e.val) ∧ w.cell? ⟨g, o + 2, none⟩ = some (.int .i64 (e.site : Int)) ∧ w.cell? ⟨g, o + 3, none⟩ = some (.int .i64 (e.count : Int))
/-- block g begins with the entries xs -/
def RowE (w : World) (g : Nat) (xs : List Ent) : Prop := g < w.heap.size ∧ ∀ i, i < xs.length → At4 w g (i * 4) xs[i]!
/-- .. and may be written there -/
def FreeE (w : World) (g n : Nat) : Prop := ∀ o, o < n * 4 → w.frozen? ⟨g, o, none⟩ = false
/-- the slice (ao, n) holds the entries xs -/
def El (w : World) (ao : Option Addr) (n : Nat) (xs : List Ent) : Prop := xs.length = n ∧ ((ao = none ∧ n = 0) ∨ ∃ g, ao = some ⟨g, 0, none⟩ ∧ RowE w g xs)

theorem At4.keep {w w' : World} {g o : Nat} {e : Ent} {B : Nat} (h : At4 w g o e) (hb : Below B w w') (hg : g < B) : At4 w' g o e := by
  obtain ⟨a, b, c, d⟩ := h
  refine ⟨?_, ?_, ?_, ?_⟩
  · rw [hb.cell (p := ⟨g, o, none⟩) hg]; exact a
  · rw [hb.cell (p := ⟨g, o + 1, none⟩) hg]; exact b
  · rw [hb.cell (p := ⟨g, o + 2, none⟩) hg]; exact c
  · rw [hb.cell (p := ⟨g, o + 3, none⟩) hg]; exact d
theorem RowE.keepB {w w' : World} {g B : Nat} {xs : List Ent} (h : RowE w g xs) (hb : Below B w w') (hB : g < B) (hs : g < w'.heap.size) : RowE w' g xs := ⟨hs, fun i hi => (h.2 i hi).keep hb hB⟩
theorem RowE.keep {w w' : World} {g : Nat} {xs : List Ent} (h : RowE w g xs) (hb : Below w.heap.size w w') : RowE w' g xs := h.keepB hb h.1 (Nat.lt_of_lt_of_le h.1 hb.size)
theorem FreeE.keep {w w' : World} {g n : Nat} (h : FreeE w g n) (hb : Below w.heap.size w w') (hg : g < w.heap.size) : FreeE w' g n := fun o ho => by rw [hb.frozen (p := ⟨g, o, none⟩) hg]; exact h o ho
theorem El.keep {w w' : World} {ao : Option Addr} {n : Nat} {xs : List Ent} (h : El w ao n xs) (hb : Below w.heap.size w w') : El w' ao n xs := by
  obtain ⟨h1, h2⟩ := h
  refine ⟨h1, ?_⟩
  rcases h2 with h2 | ⟨g, h2, h3⟩
  · exact .inl h2
  · exact .inr ⟨g, h2, h3.keep hb⟩
theorem El.len {w : World} {ao : Option Addr} {n : Nat} {xs : List Ent} (h : El w ao n xs) : xs.length = n := h.1
theorem El.nil (w : World) : El w none 0 [] := ⟨rfl, .inl ⟨rfl, rfl⟩⟩

/-! ### flat rows -/
def flatE (xs : List Ent) : List Value := xs.flatMap encE
theorem flatE_len : ∀ xs : List Ent, (flatE xs).length = xs.length * 4
  | [] => rfl
  | x :: xs => by
    have := flatE_len xs
    unfold flatE at *
    simp [List.flatMap_cons, encE, this]; omega
theorem flatE_get : ∀ (xs : List Ent) (i c : Nat), c < 4 → (flatE xs)[i * 4 + c]? = (xs[i]?).bind fun e => (encE e)[c]?
  | [], i, c, _ => by simp [flatE]
  | x :: xs, 0, c, hc => by
    unfold flatE
    rw [List.flatMap_cons, Nat.zero_mul, Nat.zero_add, List.getElem?_append_left (by simpa [encE] using hc)]
    rfl
  | x :: xs, i + 1, c, hc => by
    have := flatE_get xs i c hc
    unfold flatE at *
    rw [List.flatMap_cons, List.getElem?_append_right (by simp [encE]; omega), List.getElem?_cons_succ, ← this]
    congr 1
    simp [encE]; omega
theorem flatE_app (xs ys : List Ent) : flatE (xs ++ ys) = flatE xs ++ flatE ys := by unfold flatE; simp
theorem flatE_one (xs : List Ent) : ∀ u ∈ flatE xs, u.oneCell' = true := by
  intro u hu
  unfold flatE at hu
  obtain ⟨e, _, h⟩ := List.mem_flatMap.1 hu
  simp [encE] at h
  rcases h with rfl | rfl | rfl | rfl <;> rfl
theorem add_off (g o j : Nat) : ((⟨g, o, none⟩ : Addr).add j) = ⟨g, o + j, none⟩ := by unfold Addr.add; split <;> simp_all
/-- the cells of a row, one after the other -/
theorem RowE.cells {w : World} {g : Nat} {xs : List Ent} (h : RowE w g xs) (j : Nat) (u : Value) (hu : (flatE xs)[j]? = some u) : w.cell? ((⟨g, 0, none⟩ : Addr).add j) = some u := by
  rw [add_off, Nat.zero_add]
  have hj : j = j / 4 * 4 + j % 4 := by omega
  have hc : j % 4 < 4 := by omega
  rw [hj, flatE_get _ _ _ hc] at hu
  rw [hj]
  generalize j / 4 = i at hu
  generalize j % 4 = c at hu hc
  by_cases hi : i < xs.length
  · obtain ⟨a, b, c', d⟩ := h.2 i hi
    rw [List.getElem?_eq_getElem hi] at hu
    rw [getElem!_pos xs i hi] at a b c' d
    match c, hc with
    | 0, _ => simp [encE] at hu; subst hu; exact a
    | 1, _ => simp [encE] at hu; subst hu; exact b
    | 2, _ => simp [encE] at hu; subst hu; exact c'
    | 3, _ => simp [encE] at hu; subst hu; exact d
  · rw [List.getElem?_eq_none (by omega)] at hu; simp at hu
/-- an own row of entries -/
def OwnE (w : World) (base : Nat) (v : Value) (n : Nat) (xs : List Ent) : Prop := xs.length = n ∧ w.ownsRow base 82 4 v n (flatE xs)
theorem OwnE.nil (w : World) (base : Nat) : OwnE w base (.slice none 0 0) 0 [] := ⟨rfl, World.ownsRow_nil _ _ _ _⟩
theorem getbang {xs : List Ent} {i : Nat} {e : Ent} (h : xs[i]? = some e) : xs[i]! = e := by simp [h]
theorem OwnE.row {w : World} {base g n cap : Nat} {xs : List Ent} (h : OwnE w base (.slice (some ⟨g, 0, none⟩) n cap) n xs) : RowE w g xs ∧ FreeE w g n ∧ base ≤ g ∧ n ≤ cap ∧ cap ≤ maxLen := by
  obtain ⟨hl, h1, h2⟩ := h
  rcases h2 with ⟨h2, _⟩ | ⟨g', cap', cur, h2, hb, hg, hnc, hcm, hcs, ht⟩
  · cases h2
  · cases h2
    have hcell : ∀ o v, (flatE xs)[o]? = some v → w.cell? ⟨g, o, none⟩ = some v := fun o v hv => by
      rw [← ht, List.getElem?_take] at hv
      split at hv
      · simp only [World.cell?, hg]
        simpa using hv
      · cases hv
    refine ⟨⟨(Array.getElem?_eq_some_iff.1 hg).1, fun i hi => ?_⟩, fun o ho => ?_, hb, hnc, hcm⟩
    · rw [getElem!_pos xs i hi]
      refine ⟨?_, ?_, ?_, ?_⟩
      · exact hcell (i * 4 + 0) _ (by rw [flatE_get _ _ _ (by omega), List.getElem?_eq_getElem hi]; rfl)
      · exact hcell (i * 4 + 1) _ (by rw [flatE_get _ _ _ (by omega), List.getElem?_eq_getElem hi]; rfl)
      · exact hcell (i * 4 + 2) _ (by rw [flatE_get _ _ _ (by omega), List.getElem?_eq_getElem hi]; rfl)
      · exact hcell (i * 4 + 3) _ (by rw [flatE_get _ _ _ (by omega), List.getElem?_eq_getElem hi]; rfl)
    · simp only [World.frozen?, hg]
      simp
theorem infoE : (Try.prog.info? 82).map (fun i => (i.zero, i.size, i.bytes)) = some (some (.agg #[.string ⟨#[]⟩, .string ⟨#[]⟩, .int .i64 0, .int .i64 0]), 4, 48) := by kernel_rfl

/-- entries are appended to an own row -/
theorem wpList_appE {w : World} {ops : Array Oper} {rest : List Oper} {o : Oper} {a : Act} {Q : Exit → Act → World → Prop} (hgd : o.guard = none) (s x : Operand)
    (ho : o.op = .call { callee := .builtin .append, args := #[s, x], argTypes := #[32, 32] }) (base : Nat) (v : Value) (n : Nat) (xs : List Ent) (hs : a.eval s = v) (hown : OwnE w base v n xs)
    (g m c : Nat) (ys : List Ent) (hx : a.eval x = .slice (some ⟨g, 0, none⟩) m c) (hrow : RowE w g ys) (hm : ys.length = m) (h0 : 0 < m) (hn : n + m ≤ 1000000) (hbase : base ≤ w.heap.size)
    (h : ∀ g' cap w', OwnE w' base (.slice (some ⟨g', 0, none⟩) (n + m) cap) (n + m) (xs ++ ys) → Below base w w' → w.heap.size ≤ w'.heap.size → wpList Try.prog ops Q rest (a.put o.dst (.slice (some ⟨g', 0, none⟩) (n + m) cap)) w') :
    wpList Try.prog ops Q (o :: rest) a w := by
  obtain ⟨i0, hi, hz0, hz1, hz2⟩ := info_parts infoE
  refine wpList_append_lies w hgd s x 32 ho base 82 i0 _ 4 48 Try.underlying32 hi hz0 hz1 hz2 rfl (by decide) v n (flatE xs) hs hown.2 ⟨g, 0, none⟩ m c (flatE ys) hx (by rw [flatE_len, hm]) hrow.cells (flatE_one ys) h0 (by unfold maxLen; omega) (by omega) hbase _ rfl ?_
  intro g' cap w' hr hg _ _
  refine h g' cap w' ⟨by rw [List.length_append, hown.1, hm], by rw [flatE_app]; exact hr⟩ ?_ hg.size
  exact (Below.refl base w).grown hg hbase (fun j hj => (World.ownsRow.lt hown.2 j hj).1)
end Go.Proofs.Ytpghehckojdgeaa

/- slices.Clone of entries. -/
set_option linter.unusedVariables false
set_option linter.unusedSimpArgs false
namespace Go.Proofs.Ytpghehckojdgeaa
open Go.RowKit Go.Shelf Go.Sort

theorem own_empty (w : World) : OwnE (w.alloc (.cells #[] 82)) w.heap.size (.slice (some ⟨w.heap.size, 0, none⟩) 0 0) 0 [] :=
  ⟨rfl, rfl, .inr ⟨w.heap.size, 0, #[], rfl, Nat.le_refl _, heap_alloc_new _ _, Nat.le_refl _, by unfold maxLen; omega, rfl, rfl⟩⟩

/-- nothing is appended to an own row of none -/
theorem wpList_appE0 {w : World} {ops : Array Oper} {rest : List Oper} {o : Oper} {a : Act} {Q : Exit → Act → World → Prop} (hgd : o.guard = none) (s x : Operand)
    (ho : o.op = .call { callee := .builtin .append, args := #[s, x], argTypes := #[32, 32] }) (base : Nat) (v : Value) (hown : OwnE w base v 0 []) (g c : Nat) (hbase : base ≤ w.heap.size) (hs : a.eval s = v) (hx : a.eval x = .slice (some ⟨g, 0, none⟩) 0 c)
    (h : ∀ ao cap w', El w' ao 0 [] → Below base w w' → wpList Try.prog ops Q rest (a.put o.dst (.slice ao 0 cap)) w') :
    wpList Try.prog ops Q (o :: rest) a w := by
  obtain ⟨i0, hi, hz0, hz1, hz2⟩ := info_parts infoE
  refine wpList_append_own w hgd s x 32 ho base 82 i0 _ 4 48 Try.underlying32 hi hz0 hz1 hz2 rfl (by decide) v 0 (flatE []) hs hown.2 ⟨g, 0, none⟩ 0 c [] hx rfl (fun j u hu => by simp at hu) (fun u hu => by simp at hu) (by unfold maxLen; omega) (by omega) hbase ?_
  intro v' w' hr hg _
  have hb : Below base w w' := (Below.refl base w).grown hg hbase (fun j hj => (World.ownsRow.lt hown.2 j hj).1)
  rcases hr.2 with ⟨h2, _⟩ | ⟨g', cap', cur, h2, hb', hg', _⟩
  · subst h2
    exact h none 0 w' (El.nil _) hb
  · subst h2
    exact h _ cap' w' ⟨rfl, .inr ⟨g', rfl, (Array.getElem?_eq_some_iff.1 hg').1, fun i hi => absurd hi (by simp)⟩⟩ hb

/-- a slice of the call's own is returned: nil, or a row that may be written -/
def CloneOut (W : World) (xs : List Ent) (e : Ending) (w' : World) : Prop :=
  Below W.heap.size W w' ∧ ((xs = [] ∧ ∃ ao cap, e = .returned (.slice ao 0 cap) ∧ El w' ao 0 []) ∨ ∃ g cap, e = .returned (.slice (some ⟨g, 0, none⟩) xs.length cap) ∧ 0 < xs.length ∧ OwnE w' W.heap.size (.slice (some ⟨g, 0, none⟩) xs.length cap) xs.length xs)

set_option maxHeartbeats 1000000 in
theorem clone_any (ao : Option Addr) (n cap : Nat) (xs : List Ent) (W : World) (h : El W ao n xs) (hn : n ≤ 900000) :
    Calls Try.prog 65 #[.slice ao n cap] W (CloneOut W xs) := by
  obtain ⟨hl, h⟩ := h
  rcases h with ⟨rfl, rfl⟩ | ⟨g, rfl, hr⟩
  · have h0 : xs = [] := List.eq_nil_of_length_eq_zero hl
    have HO : Hid (CloneOut W xs (.returned (.slice none 0 0)) W) := Lib.hid ⟨Below.refl _ _, .inl ⟨h0, none, 0, rfl, El.nil _⟩⟩
    have hq := fun w => Lib.run_eql_slice_nil (P := Try.prog) w 32 82 none 0 cap 0 0 Try.underlying32
    clear hl h0
    go_enter Try.func65, Try.ntmps65
    go_wp2
    go_ret
    exact HO.out
  · by_cases hn0 : n = 0
    · subst hn0
      have h0 : xs = [] := List.eq_nil_of_length_eq_zero hl
      have hq := fun w => Lib.run_eql_slice_nil (P := Try.prog) w 32 82 (some ⟨g, 0, none⟩) 0 cap 0 0 Try.underlying32
      have HW := Lib.hid (own_empty W)
      have HB := Lib.hid (box_below W (.cells #[] 82))
      have H0 := Lib.hid h0
      clear hl hr h0
      go_enter Try.func65, Try.ntmps65
      go_wp2_with (at_builtin; refine wpList_appE0 rfl _ _ rfl W.heap.size _ HW.out g cap HB.out.size rfl rfl ?_; intro ao' cap' w' hown hb)
      go_ret
      exact ⟨HB.out.trans hb, .inl ⟨H0.out, ao', cap', rfl, hown⟩⟩
    · have hq := fun w => Lib.run_eql_slice_nil (P := Try.prog) w 32 82 (some ⟨g, 0, none⟩) n cap 0 0 Try.underlying32
      have HL := Lib.hid hl
      have HR := Lib.hid (hr.keep (box_below W (.cells #[] 82)))
      have HW := Lib.hid (own_empty W)
      have hB : W.heap.size ≤ (W.alloc (.cells #[] 82)).heap.size := by simp
      have HB := Lib.hid hB
      have h0 : 0 < n := by omega
      clear hl hr hB
      go_enter Try.func65, Try.ntmps65
      go_wp2_with (at_builtin; refine wpList_appE rfl _ _ rfl W.heap.size _ 0 [] rfl HW.out g n cap xs rfl HR.out HL.out h0 (by omega) HB.out ?_; intro g' cap' w' hown hb _)
      go_ret
      have e : n = xs.length := HL.out.symm
      subst e
      refine ⟨(box_below W _).trans (hb.mono (Nat.le_refl _)), .inr ⟨g', cap', by simp, h0, ?_⟩⟩
      simpa using hown
end Go.Proofs.Ytpghehckojdgeaa

/- The contracts that the program calls come to, at the numbers of this program. -/
namespace Go.Proofs
open Go.Shelf
def Try.indexFE_ren : Go.Shelf.Ren := ⟨fun | 6 => 92 | n => n, fun | 22 => 32 | 23 => 82 | 25 => 83 | 3 => 3 | 0 => 0 | 4 => 4 | n => n, fun | n => n⟩
theorem Try.indexFE : Go.Proofs.SlLaysH0.n6 Try.prog Try.indexFE_ren := {
  mixed := by kernel_rfl
  f6 := ⟨Try.f92.name, by decide, Try.func92.trans (congrArg some (by kernel_rfl))⟩
  t0 := Try.underlying0
  a0 := Try.isAgg0
  z0 := Try.sizeOf0
  v0 := Try.zeroValue0
  t3 := Try.underlying3
  a3 := Try.isAgg3
  z3 := Try.sizeOf3
  v3 := Try.zeroValue3
  t4 := Try.underlying4
  a4 := Try.isAgg4
  z4 := Try.sizeOf4
  v4 := Try.zeroValue4
  t22 := Try.underlying32
  a22 := Try.isAgg32
  z22 := Try.sizeOf32
  v22 := Try.zeroValue32
  t25 := Try.underlying83
  a25 := Try.isAgg83
  z25 := Try.sizeOf83
  v25 := Try.zeroValue83 }
def Try.containsT_ren : Go.Shelf.Ren := ⟨fun | 8 => 69 | 6 => 86 | n => n, fun | 22 => 25 | 23 => 34 | 25 => 117 | 4 => 4 | 3 => 3 | 0 => 0 | n => n, fun | n => n⟩
theorem Try.containsT : Go.Proofs.SlLaysH0.n8 Try.prog Try.containsT_ren := {
  mixed := by kernel_rfl
  f6 := ⟨Try.f86.name, by decide, Try.func86.trans (congrArg some (by kernel_rfl))⟩
  f8 := ⟨Try.f69.name, by decide, Try.func69.trans (congrArg some (by kernel_rfl))⟩
  t0 := Try.underlying0
  a0 := Try.isAgg0
  z0 := Try.sizeOf0
  v0 := Try.zeroValue0
  t3 := Try.underlying3
  a3 := Try.isAgg3
  z3 := Try.sizeOf3
  v3 := Try.zeroValue3
  t4 := Try.underlying4
  a4 := Try.isAgg4
  z4 := Try.sizeOf4
  v4 := Try.zeroValue4
  t22 := Try.underlying25
  a22 := Try.isAgg25
  z22 := Try.sizeOf25
  v22 := Try.zeroValue25
  t25 := Try.underlying117
  a25 := Try.isAgg117
  z25 := Try.sizeOf117
  v25 := Try.zeroValue117 }
end Go.Proofs

/- slices.DeleteFunc over an own row of entries. -/
set_option linter.unusedVariables false
set_option linter.unusedSimpArgs false
namespace Go.Proofs.Ytpghehckojdgeaa
open Go.RowKit Go.Shelf Go.Sort

/-- what is asked of a predicate: in whatever world that came after W it returns p x and lays blocks at most -/
def PredE (g : Nat) (lb : Array Value) (p : Ent → Bool) (W : World) : Prop :=
  ∀ (w : World) (x : Ent), Below W.heap.size W w → Calls Try.prog g (#[.agg #[.string x.key, .string x.val, .int .i64 (x.site : Int), .int .i64 (x.count : Int)]] ++ lb) w fun e w' => e = .returned (.bool (p x)) ∧ Below w.heap.size w w'

theorem encE_len (x : Ent) : (encE x).length = 4 := rfl
/-- four stores of an entry -/
def set4 (w : World) (g o : Nat) (e : Ent) : World := (((w.setCell ⟨g, o, none⟩ (.string e.key)).setCell ⟨g, o + 1, none⟩ (.string e.val)).setCell ⟨g, o + 2, none⟩ (.int .i64 (e.site : Int))).setCell ⟨g, o + 3, none⟩ (.int .i64 (e.count : Int))
theorem ne_off {g a b : Nat} (h : a ≠ b) : (⟨g, a, none⟩ : Addr) ≠ ⟨g, b, none⟩ := fun e => h (by injection e)
theorem cset {w : World} {g a b : Nat} {v : Value} (h : a ≠ b) : (w.setCell ⟨g, a, none⟩ v).cell? ⟨g, b, none⟩ = w.cell? ⟨g, b, none⟩ := World.cell?_setCell_other w ⟨g, a, none⟩ ⟨g, b, none⟩ v (ne_off h)
theorem set4_same {w : World} {g o : Nat} {e e' : Ent} (h : At4 w g o e') : At4 (set4 w g o e) g o e := by
  obtain ⟨a, b, c, d⟩ := h
  unfold set4
  refine ⟨?_, ?_, ?_, ?_⟩
  · rw [cset (by omega), cset (by omega), cset (by omega), World.cell?_setCell_same' _ _ _ (by rw [a]; rfl)]
  · rw [cset (by omega), cset (by omega), World.cell?_setCell_same' _ _ _ (by rw [cset (by omega), b]; rfl)]
  · rw [cset (by omega), World.cell?_setCell_same' _ _ _ (by rw [cset (by omega), cset (by omega), c]; rfl)]
  · rw [World.cell?_setCell_same' _ _ _ (by rw [cset (by omega), cset (by omega), cset (by omega), d]; rfl)]
theorem set4_cell {w : World} {g o q : Nat} (e : Ent) (h : q < o ∨ o + 4 ≤ q) : (set4 w g o e).cell? ⟨g, q, none⟩ = w.cell? ⟨g, q, none⟩ := by
  unfold set4
  rw [cset (by omega), cset (by omega), cset (by omega), cset (by omega)]
theorem set4_frozen (w : World) (g o : Nat) (e : Ent) (a : Addr) : (set4 w g o e).frozen? a = w.frozen? a := by
  unfold set4; rw [World.frozen?_setCell, World.frozen?_setCell, World.frozen?_setCell, World.frozen?_setCell]
theorem set4_size (w : World) (g o : Nat) (e : Ent) : (set4 w g o e).heap.size = w.heap.size := by unfold set4; simp
theorem set4_below {B : Nat} {W w : World} {g : Nat} (o : Nat) (e : Ent) (hb : Below B W w) (hg : B ≤ g) : Below B W (set4 w g o e) := by
  unfold set4
  exact (((hb.setCell (p := ⟨g, o, none⟩) hg _).setCell (p := ⟨g, o + 1, none⟩) hg _).setCell (p := ⟨g, o + 2, none⟩) hg _).setCell (p := ⟨g, o + 3, none⟩) hg _
theorem RowE.set {w : World} {g i : Nat} {ys : List Ent} (h : RowE w g ys) (hi : i < ys.length) (e : Ent) : RowE (set4 w g (i * 4) e) g (ys.set i e) := by
  refine ⟨by rw [set4_size]; exact h.1, fun k hk => ?_⟩
  rw [List.length_set] at hk
  by_cases hki : k = i
  · subst hki
    have : (ys.set k e)[k]! = e := by simp [hk]
    rw [this]
    exact set4_same (h.2 k hk)
  · have : (ys.set i e)[k]! = ys[k]! := by
      rw [getElem!_pos _ k (by simpa using hk), getElem!_pos ys k hk, List.getElem_set_ne (Ne.symm hki)]
    rw [this]
    obtain ⟨a, b, c, d⟩ := h.2 k hk
    refine ⟨?_, ?_, ?_, ?_⟩
    · rw [set4_cell _ (by omega)]; exact a
    · rw [set4_cell _ (by omega)]; exact b
    · rw [set4_cell _ (by omega)]; exact c
    · rw [set4_cell _ (by omega)]; exact d
theorem FreeE.set {w : World} {g n : Nat} (h : FreeE w g n) (o : Nat) (e : Ent) : FreeE (set4 w g o e) g n := fun q hq => by rw [set4_frozen]; exact h q hq

/-- clear of a tail of entries -/
theorem run_clear4 {P : Program} (w : World) (t e ty : TypeId) (z : Value) (ht : P.underlying t = some (.slice e)) (hv : ∀ w, (zeroValue e).run P w = .ok z w) (hz : z.cells.size = 4) (h1 : ∀ v ∈ z.cells, v.oneCell' = true) (b o n c : Nat) (hn : 0 < n)
    (hc : ∀ j, j < n * 4 → (w.cell? ⟨b, o + j, none⟩).isSome = true) (hf : ∀ j, j < n * 4 → w.frozen? ⟨b, o + j, none⟩ = false) :
    (Builtin.clear_ #[t] ty #[.slice (some ⟨b, o, none⟩) n c]).run P w = .ok (.tuple #[]) (w.setCells b o (Builtin.zeroCells z.cells n).toList) := by
  have hl : (Builtin.zeroCells z.cells n).toList.length = n * 4 := by simp [size_zeroCells, hz]
  have hst := run_storeCells_cells (P := P) b o (Builtin.zeroCells z.cells n).toList 0 w (by rw [hl]; simpa using hc) (by rw [hl]; simpa using hf) (by
    intro v hv'
    unfold Builtin.zeroCells at hv'
    simp at hv'
    obtain ⟨i, hi, rfl⟩ := hv'
    have hm : i % z.cells.size < z.cells.size := Nat.mod_lt _ (by omega)
    rw [getElem!_pos z.cells _ hm]
    exact h1 _ (Array.getElem_mem hm))
  simp only [Nat.add_zero] at hst
  obtain ⟨m, rfl⟩ : ∃ m, n = m + 1 := ⟨n - 1, by omega⟩
  simp [Builtin.clear_, run_underlying ht, hv, hst]

/-! ### what is kept -/
structure KeptE (p : Ent → Bool) (xs : List Ent) (i j : Nat) (ys : List Ent) : Prop where
  len : ys.length = xs.length
  lt : i < j
  le : j ≤ xs.length
  low : ys.take i = (xs.take j).filter fun e => !p e
  high : ∀ k, i ≤ k → ys[k]! = xs[k]!
theorem filter_hit {p : Ent → Bool} {x : Ent} (h : p x = true) : [x].filter (fun e => !p e) = [] := by simp [h]
theorem filter_miss {p : Ent → Bool} {x : Ent} (h : p x = false) : [x].filter (fun e => !p e) = [x] := by simp [h]
theorem take_succ! {xs : List Ent} {j : Nat} (hj : j < xs.length) : xs.take (j + 1) = xs.take j ++ [xs[j]!] := by
  rw [List.take_succ_eq_append_getElem hj, getElem!_pos xs j hj]
theorem filter_all {p : Ent → Bool} : ∀ {l : List Ent}, (∀ e ∈ l, p e = false) → (l.filter fun e => !p e) = l
  | [], _ => rfl
  | x :: l, h => by rw [List.filter_cons, h x List.mem_cons_self]; simpa using filter_all (fun e he => h e (List.mem_cons_of_mem _ he))
theorem mem_take! {xs : List Ent} {j : Nat} {e : Ent} (h : e ∈ xs.take j) : ∃ k, k < j ∧ k < xs.length ∧ xs[k]! = e := by
  obtain ⟨k, hk, rfl⟩ := List.mem_iff_getElem.1 h
  have hk' : k < j ∧ k < xs.length := by simp at hk; omega
  exact ⟨k, hk'.1, hk'.2, by rw [getElem!_pos xs k hk'.2]; simp⟩
theorem KeptE.start {p : Ent → Bool} {xs : List Ent} {k : Nat} (hk : k < xs.length) (h0 : ∀ j, j < k → p xs[j]! = false) (h1 : p xs[k]! = true) : KeptE p xs k (k + 1) xs where
  len := rfl
  lt := Nat.lt_succ_self _
  le := hk
  low := by
    rw [take_succ! hk, List.filter_append, filter_all (fun e he => by obtain ⟨j, hj, _, rfl⟩ := mem_take! he; exact h0 j hj), filter_hit h1, List.append_nil]
  high := fun _ _ => rfl
theorem KeptE.skip {p : Ent → Bool} {xs ys : List Ent} {i j : Nat} (h : KeptE p xs i j ys) (hj : j < xs.length) (hp : p xs[j]! = true) : KeptE p xs i (j + 1) ys where
  len := h.len
  lt := by have := h.lt; omega
  le := hj
  low := by rw [take_succ! hj, List.filter_append, ← h.low, filter_hit hp, List.append_nil]
  high := h.high
theorem KeptE.keep {p : Ent → Bool} {xs ys : List Ent} {i j : Nat} (h : KeptE p xs i j ys) (hj : j < xs.length) (hp : p xs[j]! = false) : KeptE p xs (i + 1) (j + 1) (ys.set i xs[j]!) where
  len := by rw [List.length_set]; exact h.len
  lt := by have := h.lt; omega
  le := hj
  low := by
    have hl := h.lt
    have hi : i < ys.length := by rw [h.len]; omega
    rw [take_succ! hj, List.filter_append, ← h.low, filter_miss hp]
    rw [take_succ! (by rw [List.length_set]; exact hi)]
    rw [List.take_set_of_le (Nat.le_refl _)]
    rw [getElem!_pos _ i (by rw [List.length_set]; exact hi), List.getElem_set_self]
  high := fun k hk => by
    by_cases hkl : k < ys.length
    · rw [getElem!_pos _ k (by simpa using hkl), List.getElem_set_ne (by omega), ← getElem!_pos ys k hkl]
      exact h.high k (by omega)
    · rw [getElem!_neg _ k (by simpa using hkl), getElem!_neg xs k (by rw [← h.len]; exact hkl)]
theorem KeptE.done {p : Ent → Bool} {xs ys : List Ent} {i : Nat} (h : KeptE p xs i xs.length ys) : ys.take i = xs.filter fun e => !p e := by
  have := h.low
  rwa [List.take_length] at this
theorem RowE.take {w : World} {g : Nat} {ys : List Ent} (h : RowE w g ys) (i : Nat) : RowE w g (ys.take i) := ⟨h.1, fun k hk => by
  have hk' : k < i ∧ k < ys.length := by simp at hk; omega
  have : (ys.take i)[k]! = ys[k]! := by rw [getElem!_pos _ k hk, getElem!_pos ys k hk'.2]; simp
  rw [this]
  exact h.2 k hk'.2⟩

/-- a slice that holds xs is returned; what lay in the first B blocks lies as it lay -/
def OutE (B : Nat) (W : World) (xs : List Ent) (e : Ending) (w' : World) : Prop := ∃ ao cap, e = .returned (.slice ao xs.length cap) ∧ El w' ao xs.length xs ∧ Below B W w'
end Go.Proofs.Ytpghehckojdgeaa
