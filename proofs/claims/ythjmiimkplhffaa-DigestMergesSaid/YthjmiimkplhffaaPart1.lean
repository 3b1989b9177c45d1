/- Part 1 of the contracts: DWords, DMath, DMap, DIds, DSmall, DClimb, DRows. -/
import Derived.WalkKit
import Derived.Lib.Hide
import Derived.WalkSpells
import Derived.WalkLawsBesides
import Derived.BigQuiet
import Derived.Deep.QuietTactic
import Derived.Laws.CopyOwn
import Derived.Deep.DeepCutAuto
import Derived.RegionTactic
import Derived.ChangeAlike
import Derived.Test.YthjmiimkplhffaaProg
import Derived.Maps.OwnOps
import Derived.Maps.OwnSet
import Derived.Maps.RangeWalk
import Derived.Maps.OwnIn
import Derived.Lib.SlKeysI
import Derived.Deep.RegionWith
import Derived.Laws.StructEq
import Derived.Deep.AppendLies
import Derived.Deep.RegionHeldLaw
import Derived.Laws.Rows

/- Words for memory: a slice that reads as a row of integers; an own slice of integers that is appended to. No function of the program is walked here. -/
set_option linter.unusedVariables false
namespace Go.Proofs.Ythjmiimkplhffaa
open Go.RowKit

/-- The slice (ao, len) reads as the integers xs. -/
def Il (w : World) (ao : Option Addr) (len : Nat) (xs : List Int) : Prop :=
  xs.length = len ∧ ∃ b off, (0 < len → ao = some ⟨b, off, none⟩) ∧ ∀ i, i < len → w.cell? ⟨b, off + i, none⟩ = some (.int .i64 (xs[i]?.getD 0))

theorem Il.nil (w : World) (ao : Option Addr) : Il w ao 0 [] := ⟨rfl, 0, 0, fun h => by omega, fun i hi => by omega⟩
theorem Il.len {w : World} {ao : Option Addr} {len : Nat} {xs : List Int} (h : Il w ao len xs) : xs.length = len := h.1
theorem Il.keep {w w' : World} {ao : Option Addr} {len : Nat} {xs : List Int} (h : Il w ao len xs) (hb : Below w.heap.size w w') : Il w' ao len xs := by
  obtain ⟨h1, b, off, h2, h3⟩ := h
  exact ⟨h1, b, off, h2, fun i hi => cell_later hb (h3 i hi)⟩
theorem Il.drewN {w : World} {ao : Option Addr} {len : Nat} {xs : List Int} (h : Il w ao len xs) (n : Nat) : Il (w.drewN n) ao len xs := h
theorem Il.drew {w : World} {ao : Option Addr} {len : Nat} {xs : List Int} (h : Il w ao len xs) : Il w.drew ao len xs := h
/-- the block and the place of a slice that is not empty -/
theorem Il.at {w : World} {ao : Option Addr} {len : Nat} {xs : List Int} (h : Il w ao len xs) (h0 : 0 < len) : ∃ b off, ao = some ⟨b, off, none⟩ ∧ ∀ i, i < len → w.cell? ⟨b, off + i, none⟩ = some (.int .i64 (xs[i]?.getD 0)) := by
  obtain ⟨h1, b, off, h2, h3⟩ := h
  exact ⟨b, off, h2 h0, h3⟩

/-- The slice (v, n) starts at the head of a block of the call's own (from block base on) whose first cells are the integers xs; it may be written and appended to. -/
def OwnI (w : World) (base e : Nat) (v : Value) (n : Nat) (xs : List Int) : Prop := w.ownsRow base e 1 v n (xs.map fun z => Value.int .i64 z)

theorem OwnI.len {w : World} {base e n : Nat} {v : Value} {xs : List Int} (h : OwnI w base e v n xs) : xs.length = n := by
  have := h.1
  simpa using this
theorem OwnI.nil (w : World) (base e : Nat) : OwnI w base e (.slice none 0 0) 0 [] := World.ownsRow_nil _ _ _ _
theorem OwnI.ge {w : World} {base e n : Nat} {v : Value} {xs : List Int} (h : OwnI w base e v n xs) : ∀ b, v.ownBlock = some b → base ≤ b := fun b hb => (World.ownsRow.lt h b hb).1
theorem OwnI.later {w w' : World} {base e n : Nat} {v : Value} {xs : List Int} (h : OwnI w base e v n xs) (hb : Below w.heap.size w w') : OwnI w' base e v n xs := by
  refine ⟨h.1, ?_⟩
  rcases h.2 with h2 | ⟨g, cap, cur, h3, h4, h5, h6⟩
  · exact .inl h2
  · exact .inr ⟨g, cap, cur, h3, h4, (hb.block g (Array.getElem?_eq_some_iff.1 h5).1).trans h5, h6⟩
theorem OwnI.base {w : World} {base base' e n : Nat} {v : Value} {xs : List Int} (h : OwnI w base e v n xs) (hb : base' ≤ base) : OwnI w base' e v n xs := by
  refine ⟨h.1, ?_⟩
  rcases h.2 with h2 | ⟨g, cap, cur, h3, h4, h5⟩
  · exact .inl h2
  · exact .inr ⟨g, cap, cur, h3, by omega, h5⟩

/-- It is a slice (of no block, or of one) that reads as the integers. -/
theorem OwnI.il {w : World} {base e n : Nat} {v : Value} {xs : List Int} (h : OwnI w base e v n xs) : ∃ ao cap, v = .slice ao n cap ∧ n ≤ cap ∧ cap ≤ maxLen ∧ Il w ao n xs := by
  have hl := h.len
  rcases h.2 with ⟨rfl, rfl⟩ | ⟨g, cap, cur, rfl, hb, hg, hnc, hcm, hcs, htake⟩
  · obtain rfl := List.eq_nil_of_length_eq_zero hl
    exact ⟨none, 0, rfl, Nat.le_refl _, Nat.zero_le _, Il.nil _ _⟩
  · refine ⟨_, cap, rfl, hnc, hcm, hl, g, 0, fun _ => rfl, fun i hi => ?_⟩
    have := World.ownsRow.cellAt h i (by simp; omega)
    rw [Nat.zero_add, this]
    simp [List.getElem?_eq_getElem (show i < xs.length by omega)]

/-- 'append(s, x)' of one integer, s the call's own -/
theorem wpList_appI {P : Program} {w : World} {ops : Array Oper} {rest : List Oper} {o : Oper} {a : Act} {Q : Exit → Act → World → Prop} (hgd : o.guard = none) (s x : Operand) (t : TypeId)
    (ho : o.op = .call { callee := .builtin .append, args := #[s, x], argTypes := #[t, t] }) (base e : Nat) (bytes : Nat)
    (h1 : P.underlying t = some (.slice e)) (h2 : (P.info? e).map (fun i => (i.zero, i.size, i.bytes)) = some (some (.int .i64 0), 1, bytes))
    (v : Value) (n : Nat) (xs : List Int) (hs : a.eval s = v) (hown : OwnI w base e v n xs) (V : Int) (hx : a.eval x = .slice (some ⟨w.heap.size, 0, none⟩) 1 1)
    (hn : n ≤ 9000000000000) (hby : bytes ≤ 8) (hbase : base ≤ w.heap.size)
    (h : ∀ v' w', OwnI w' base e v' (n + 1) (xs ++ [V]) → Below base w w' → wpList P ops Q rest (a.put o.dst v') w') :
    wpList P ops Q (o :: rest) a (w.alloc (.cells #[.int .i64 V] e)) := by
  obtain ⟨i0, hi, hz0, hz1, hz2⟩ := info_parts h2
  have hown' : (w.alloc (.cells #[.int .i64 V] e)).ownsRow base e 1 v n (xs.map fun z => Value.int .i64 z) := World.ownsRow.alloc hown _
  have hb : (n + 1) * bytes ≤ 140737488355328 := by
    have : (n + 1) * bytes ≤ (n + 1) * 8 := Nat.mul_le_mul_left _ hby
    omega
  refine wpList_append_own _ hgd s x t ho base e i0 (.int .i64 0) 1 bytes h1 hi hz0 hz1 hz2 rfl (by decide) v n _ hs hown' ⟨w.heap.size, 0, none⟩ 1 1 [.int .i64 V] hx rfl ?_ ?_ (by unfold maxLen; omega) hb (by simp; omega) ?_
  · intro j u hj
    match j, hj with
    | 0, hj => simp at hj; subst hj; simp [Addr.add]
  · intro u hu; simp at hu; subst hu; rfl
  · intro v' w' hr hg _
    refine h v' w' ?_ ?_
    · unfold OwnI
      rw [List.map_append]
      exact hr
    · exact ((Below.refl base w).alloc hbase _).grown hg (by simp; omega) hown.ge

/-- 'append(s, xs...)' of a row of integers, s the call's own -/
theorem wpList_appRow {P : Program} {w : World} {ops : Array Oper} {rest : List Oper} {o : Oper} {a : Act} {Q : Exit → Act → World → Prop} (hgd : o.guard = none) (s x : Operand) (t : TypeId)
    (ho : o.op = .call { callee := .builtin .append, args := #[s, x], argTypes := #[t, t] }) (base e : Nat) (bytes : Nat)
    (h1 : P.underlying t = some (.slice e)) (h2 : (P.info? e).map (fun i => (i.zero, i.size, i.bytes)) = some (some (.int .i64 0), 1, bytes))
    (v : Value) (n : Nat) (xs : List Int) (hs : a.eval s = v) (hown : OwnI w base e v n xs) (ao : Option Addr) (m c : Nat) (ys : List Int) (hx : a.eval x = .slice ao m c) (hil : Il w ao m ys) (h0 : 0 < m)
    (hn : n + m ≤ 9000000000000) (hby : bytes ≤ 8) (hbase : base ≤ w.heap.size)
    (h : ∀ v' w', OwnI w' base e v' (n + m) (xs ++ ys) → Below base w w' → wpList P ops Q rest (a.put o.dst v') w') :
    wpList P ops Q (o :: rest) a w := by
  obtain ⟨i0, hi, hz0, hz1, hz2⟩ := info_parts h2
  have hb : (n + m) * bytes ≤ 140737488355328 := by
    have : (n + m) * bytes ≤ (n + m) * 8 := Nat.mul_le_mul_left _ hby
    omega
  have hl := hil.len
  obtain ⟨b, off, rfl, hc⟩ := hil.at h0
  refine wpList_append_own _ hgd s x t ho base e i0 (.int .i64 0) 1 bytes h1 hi hz0 hz1 hz2 rfl (by decide) v n _ hs hown ⟨b, off, none⟩ m c (ys.map fun z => Value.int .i64 z) hx (by simp [hl]) ?_ ?_ (by unfold maxLen; omega) hb hbase ?_
  · intro j u hj
    have hj' : j < ys.length := by
      have := (List.getElem?_eq_some_iff.1 hj).1
      simpa using this
    have e1 : ((⟨b, off, none⟩ : Addr).add j) = ⟨b, off + j, none⟩ := by unfold Addr.add; split <;> simp_all
    rw [e1, hc j (by omega)]
    rw [List.getElem?_map, List.getElem?_eq_getElem hj'] at hj
    rw [List.getElem?_eq_getElem hj']
    simpa using hj
  · intro u hu
    simp at hu
    obtain ⟨z, _, rfl⟩ := hu
    rfl
  · intro v' w' hr hg _
    refine h v' w' ?_ ?_
    · unfold OwnI
      rw [List.map_append]
      exact hr
    · exact (Below.refl base w).grown hg hbase hown.ge

/-- later, by draws alone -/
def Drew (w w' : World) : Prop := ∃ k, w' = w.drewN k
theorem Drew.refl (w : World) : Drew w w := ⟨0, rfl⟩
theorem Drew.more {w w' : World} (h : Drew w w') (k : Nat) : Drew w (w'.drewN k) := by
  obtain ⟨j, rfl⟩ := h
  exact ⟨j + k, by simp [World.drewN, Nat.add_assoc]⟩
theorem Drew.cell {w w' : World} (h : Drew w w') (a : Addr) : w'.cell? a = w.cell? a := by obtain ⟨k, rfl⟩ := h; rfl
theorem Drew.below {B : Nat} {w w' : World} (h : Drew w w') : Below B w w' := by obtain ⟨k, rfl⟩ := h; exact below_drewN (Below.refl _ _) k
theorem Drew.size {w w' : World} (h : Drew w w') : w'.heap.size = w.heap.size := by obtain ⟨k, rfl⟩ := h; rfl
theorem Drew.trans {w w' w'' : World} (h : Drew w w') (h' : Drew w' w'') : Drew w w'' := by obtain ⟨k, rfl⟩ := h'; exact h.more k
theorem Il.of_drew {w w' : World} {ao : Option Addr} {len : Nat} {xs : List Int} (h : Il w ao len xs) (hd : Drew w w') : Il w' ao len xs := by obtain ⟨k, rfl⟩ := hd; exact h
theorem below_then {w w1 w2 : World} (h : Below w.heap.size w w1) (k : Below w1.heap.size w1 w2) : Below w.heap.size w w2 := h.trans (k.mono h.size)
theorem below_drewN1 {B : Nat} {a w : World} (h : Below B a w) (n : Nat) : Below B a (w.drewN n) := below_drewN h n

/-- a list of integers is returned -/
def OutL (W : World) (zs : List Int) (e : Ending) (w' : World) : Prop :=
  ∃ ao cap, e = .returned (.slice ao zs.length cap) ∧ zs.length ≤ cap ∧ cap ≤ maxLen ∧ Il w' ao zs.length zs ∧ Below W.heap.size W w'

theorem retI {a b : Int} (h : a = b) : Ending.returned (.int .i64 a) = .returned (.int .i64 b) := by rw [h]
theorem retB {a b : Bool} (h : a = b) : Ending.returned (.bool a) = .returned (.bool b) := by rw [h]
end Go.Proofs.Ythjmiimkplhffaa

/- Plain mathematics of a digest: counts by node number; a climb, a level, a pass, a compressed digest; sums; what a pass leaves. -/
set_option linter.unusedVariables false
namespace Go.Proofs.Ythjmiimkplhffaa

/-- may the counts of p's children climb to p? -/
def can (t : Int) (c : Int → Int) (p : Int) : Prop := c (2 * p) + c (2 * p + 1) ≠ 0 ∧ c p + c (2 * p) + c (2 * p + 1) ≤ t
instance (t : Int) (c : Int → Int) (p : Int) : Decidable (can t c p) := inferInstanceAs (Decidable (_ ∧ _))
/-- they climb -/
def climbF (c : Int → Int) (p : Int) : Int → Int := fun q => if q = p then c p + c (2 * p) + c (2 * p + 1) else if q = 2 * p ∨ q = 2 * p + 1 then 0 else c q
def stepF (t : Int) (c : Int → Int) (p : Int) : Int → Int := if can t c p then climbF c p else c
def foldF (t : Int) (c : Int → Int) (l : List Int) : Int → Int := l.foldl (stepF t) c

/-- the nodes at the depth d -/
def At (d : Nat) (q : Int) : Prop := (2 : Int) ^ d ≤ q ∧ q < 2 ^ (d + 1)
instance (d : Nat) (q : Int) : Decidable (At d q) := inferInstanceAs (Decidable (_ ∧ _))

/-- all climb to the nodes at the depth d, of those in S -/
def lvlS (t : Int) (c : Int → Int) (S : Int → Prop) [DecidablePred S] : Int → Int := fun q =>
  if S q ∧ can t c q then c q + c (2 * q) + c (2 * q + 1) else if S (q / 2) ∧ can t c (q / 2) then 0 else c q

theorem At.pos {d : Nat} {q : Int} (h : At d q) : 1 ≤ q := by
  have : (0 : Int) < 2 ^ d := Int.pow_pos (by omega)
  have := h.1
  omega
theorem At.ne2 {d : Nat} {p q : Int} (h : At d p) (k : At d q) : p ≠ 2 * q ∧ p ≠ 2 * q + 1 := by
  have h2 := h.2
  have k1 := k.1
  rw [Int.pow_succ] at h2
  omega
theorem At.ne3 {d : Nat} {q : Int} (h : At d q) : ¬ At d (q / 2) := by
  intro k
  have := k.1
  have h2 := h.2
  rw [Int.pow_succ] at h2
  omega
theorem At.same {d e : Nat} {q : Int} (h : At d q) (k : At e q) : d = e := by
  rcases Nat.lt_trichotomy d e with g | g | g
  · have : (2 : Int) ^ (d + 1) ≤ 2 ^ e := by exact_mod_cast Nat.pow_le_pow_right (by omega) (by omega : d + 1 ≤ e)
    have := h.2; have := k.1; omega
  · exact g
  · have : (2 : Int) ^ (e + 1) ≤ 2 ^ d := by exact_mod_cast Nat.pow_le_pow_right (by omega) (by omega : e + 1 ≤ d)
    have := h.1; have := k.2; omega
theorem At.child {d : Nat} {q : Int} (h : At d q) : At (d + 1) (2 * q) ∧ At (d + 1) (2 * q + 1) := by
  have h1 := h.1; have h2 := h.2
  refine ⟨⟨?_, ?_⟩, ⟨?_, ?_⟩⟩ <;> (rw [Int.pow_succ] at *; try rw [Int.pow_succ]) <;> omega
theorem At.parent {d : Nat} {q : Int} (h : At (d + 1) q) : At d (q / 2) := by
  have h1 := h.1; have h2 := h.2
  refine ⟨?_, ?_⟩
  · rw [Int.pow_succ] at h1; omega
  · rw [Int.pow_succ] at h2; omega
theorem at_zero (q : Int) : At 0 q ↔ q = 1 := by unfold At; simp; omega

/-- counts of a digest with L levels -/
def Good (L : Nat) (c : Int → Int) : Prop := (∀ q, 0 ≤ c q) ∧ ∀ q, c q ≠ 0 → 1 ≤ q ∧ q < 2 ^ (L + 1)

theorem climb_not {t : Int} {c : Int → Int} {p : Int} (hp : 1 ≤ p) : ¬ can t (climbF c p) p := by
  intro h
  apply h.1
  unfold climbF
  rw [if_neg (by omega), if_pos (Or.inl rfl), if_neg (by omega), if_pos (Or.inr rfl)]
  rfl
theorem climb_other {t : Int} {c : Int → Int} {d : Nat} {p q : Int} (hp : At d p) (hq : At d q) (hne : q ≠ p) : (can t (climbF c p) q ↔ can t c q) ∧ climbF c p q = c q ∧ climbF c p (2 * q) = c (2 * q) ∧ climbF c p (2 * q + 1) = c (2 * q + 1) := by
  have e1 := hq.ne2 hp
  have e2 := hp.ne2 hq
  have a : climbF c p q = c q := by unfold climbF; rw [if_neg hne, if_neg (by omega)]
  have b : climbF c p (2 * q) = c (2 * q) := by unfold climbF; rw [if_neg (by omega), if_neg (by omega)]
  have e : climbF c p (2 * q + 1) = c (2 * q + 1) := by unfold climbF; rw [if_neg (by omega), if_neg (by omega)]
  refine ⟨?_, a, b, e⟩
  unfold can
  rw [a, b, e]

/-- a fold over nodes at one depth is one step of all of them -/
theorem fold_lvl (t : Int) (d : Nat) : ∀ (l : List Int) (c : Int → Int), (∀ p ∈ l, At d p) → foldF t c l = lvlS t c (fun q => q ∈ l)
  | [], c, _ => by
    funext q
    simp [foldF, lvlS]
  | p :: l, c, h => by
    have hp : At d p := h p List.mem_cons_self
    have ih := fold_lvl t d l (stepF t c p) (fun x hx => h x (List.mem_cons_of_mem _ hx))
    show foldF t (stepF t c p) l = _
    rw [ih]
    have h1 := hp.pos
    funext q
    unfold lvlS stepF
    by_cases g : can t c p
    · simp only [if_pos g]
      have hnp := climb_not (t := t) (c := c) h1
      by_cases hq : q = p
      · subst hq
        have hq2 : ¬ At d (q / 2) := hp.ne3
        rw [if_neg (fun k => hnp k.2), if_neg (fun k => hq2 (h _ (List.mem_cons_of_mem _ k.1))), if_pos ⟨List.mem_cons_self, g⟩]
        unfold climbF
        rw [if_pos rfl]
      · by_cases hq2 : q / 2 = p
        · have hqd : ¬ At d q := by
            intro k
            have := k.ne3
            rw [hq2] at this
            exact this hp
          rw [if_neg (fun k => hqd (h _ (List.mem_cons_of_mem _ k.1))), if_neg (by rw [hq2]; exact fun k => hnp k.2)]
          rw [if_neg (fun k => hqd (h _ k.1)), if_pos (by rw [hq2]; exact ⟨List.mem_cons_self, g⟩)]
          unfold climbF
          rw [if_neg hq, if_pos (by omega)]
        · have e0 : climbF c p q = c q := by unfold climbF; rw [if_neg hq, if_neg (by omega)]
          have A : (q ∈ l ∧ can t (climbF c p) q) ↔ (q ∈ p :: l ∧ can t c q) := by
            constructor
            · rintro ⟨k1, k2⟩
              exact ⟨List.mem_cons_of_mem _ k1, (climb_other hp (h q (List.mem_cons_of_mem _ k1)) hq).1.1 k2⟩
            · rintro ⟨k1, k2⟩
              have k3 : q ∈ l := by rcases List.mem_cons.1 k1 with k | k; exact absurd k hq; exact k
              exact ⟨k3, (climb_other hp (h q k1) hq).1.2 k2⟩
          have B : (q / 2 ∈ l ∧ can t (climbF c p) (q / 2)) ↔ (q / 2 ∈ p :: l ∧ can t c (q / 2)) := by
            constructor
            · rintro ⟨k1, k2⟩
              exact ⟨List.mem_cons_of_mem _ k1, (climb_other hp (h _ (List.mem_cons_of_mem _ k1)) hq2).1.1 k2⟩
            · rintro ⟨k1, k2⟩
              have k3 : q / 2 ∈ l := by rcases List.mem_cons.1 k1 with k | k; exact absurd k hq2; exact k
              exact ⟨k3, (climb_other hp (h _ k1) hq2).1.2 k2⟩
          by_cases k : q ∈ p :: l ∧ can t c q
          · have o := climb_other (t := t) (c := c) hp (h q k.1) hq
            rw [if_pos (A.2 k), if_pos k, o.2.1, o.2.2.1, o.2.2.2]
          · rw [if_neg (fun x => k (A.1 x)), if_neg k]
            by_cases k' : q / 2 ∈ p :: l ∧ can t c (q / 2)
            · rw [if_pos (B.2 k'), if_pos k']
            · rw [if_neg (fun x => k' (B.1 x)), if_neg k', e0]
    · simp only [if_neg g]
      have A : ∀ r, (r ∈ l ∧ can t c r) ↔ (r ∈ p :: l ∧ can t c r) := by
        intro r
        constructor
        · rintro ⟨a, b⟩; exact ⟨List.mem_cons_of_mem _ a, b⟩
        · rintro ⟨a, b⟩
          rcases List.mem_cons.1 a with k | k
          · subst k; exact absurd b g
          · exact ⟨k, b⟩
      simp only [A]

theorem lvlS_congr (t : Int) (c : Int → Int) (S T : Int → Prop) [DecidablePred S] [DecidablePred T] (h : ∀ q, can t c q → (S q ↔ T q)) : lvlS t c S = lvlS t c T := by
  funext q
  unfold lvlS
  have A : ∀ r, (S r ∧ can t c r) ↔ (T r ∧ can t c r) := fun r => ⟨fun k => ⟨(h r k.2).1 k.1, k.2⟩, fun k => ⟨(h r k.2).2 k.1, k.2⟩⟩
  by_cases a : S q ∧ can t c q
  · rw [if_pos a, if_pos ((A q).1 a)]
  · rw [if_neg a, if_neg (fun k => a ((A q).2 k))]
    by_cases b : S (q / 2) ∧ can t c (q / 2)
    · rw [if_pos b, if_pos ((A _).1 b)]
    · rw [if_neg b, if_neg (fun k => b ((A _).2 k))]

/-- all climb that may at the depth d -/
def lvl (t : Int) (d : Nat) (c : Int → Int) : Int → Int := lvlS t c (At d)
/-- a fold over a list at one depth that holds all that may climb -/
theorem fold_all (t : Int) (d : Nat) (l : List Int) (c : Int → Int) (h : ∀ p ∈ l, At d p) (k : ∀ p, At d p → can t c p → p ∈ l) : foldF t c l = lvl t d c := by
  rw [fold_lvl t d l c h]
  exact lvlS_congr t c _ _ (fun q hq => ⟨fun a => h q a, fun a => k q a hq⟩)

theorem lvl_stay (t : Int) (d : Nat) (c : Int → Int) (h : ∀ p, At d p → ¬ can t c p) : lvl t d c = c := by
  funext q
  unfold lvl lvlS
  rw [if_neg (fun k => h q k.1 k.2), if_neg (fun k => h _ k.1 k.2)]

/-- a pass over the depths below d, from the lowest one up -/
def passF (t : Int) : Nat → (Int → Int) → (Int → Int)
  | 0, c => c
  | d + 1, c => passF t d (lvl t d c)
/-- does a pass change something? -/
def moved (t : Int) : Nat → (Int → Int) → Prop
  | 0, _ => False
  | d + 1, c => (∃ p, At d p ∧ can t c p) ∨ moved t d (lvl t d c)

/-- nothing may climb to a node above the depth d -/
def Still (t : Int) (d : Nat) (c : Int → Int) : Prop := ∀ e, e < d → ∀ p, At e p → ¬ can t c p

theorem still_pass (t : Int) : ∀ (d : Nat) (c : Int → Int), Still t d c → passF t d c = c ∧ ¬ moved t d c
  | 0, c, _ => ⟨rfl, fun h => h⟩
  | d + 1, c, h => by
    have e : lvl t d c = c := lvl_stay t d c (fun p hp => h d (by omega) p hp)
    have ih := still_pass t d c (fun e he p hp => h e (by omega) p hp)
    refine ⟨?_, ?_⟩
    · show passF t d (lvl t d c) = c
      rw [e]; exact ih.1
    · rintro (⟨p, hp, k⟩ | k)
      · exact h d (by omega) p hp k
      · rw [e] at k; exact ih.2 k
theorem still_of (t : Int) : ∀ (d : Nat) (c : Int → Int), ¬ moved t d c → Still t d c
  | 0, c, _ => fun e he => absurd he (by omega)
  | d + 1, c, h => by
    have h1 : ∀ p, At d p → ¬ can t c p := fun p hp k => h (Or.inl ⟨p, hp, k⟩)
    have e : lvl t d c = c := lvl_stay t d c h1
    have ih := still_of t d c (fun k => h (Or.inr (by rw [e]; exact k)))
    intro e he p hp
    rcases Nat.lt_succ_iff_lt_or_eq.1 he with g | g
    · exact ih e g p hp
    · subst g; exact h1 p hp

/-- compressed: passes until one changes nothing -/
inductive Comp (t : Int) (L : Nat) : (Int → Int) → (Int → Int) → Prop
  | done (c : Int → Int) : ¬ moved t L c → Comp t L c c
  | more (c c' : Int → Int) : moved t L c → Comp t L (passF t L c) c' → Comp t L c c'

theorem Comp.same {t : Int} {L : Nat} {c a b : Int → Int} (h : Comp t L c a) (k : Comp t L c b) : a = b := by
  induction h with
  | done c hn =>
    cases k with
    | done => rfl
    | more _ _ k1 _ => exact absurd k1 hn
  | more c c' hm _ ih =>
    cases k with
    | done _ k1 => exact absurd hm k1
    | more _ _ _ k1 => exact ih k1
theorem Comp.still {t : Int} {L : Nat} {c a : Int → Int} (h : Comp t L c a) : Still t L a := by
  induction h with
  | done c hn => exact still_of t L c hn
  | more c c' hm _ ih => exact ih

/-! sums -/
def S (f : Nat → Int) : Nat → Int
  | 0 => 0
  | n + 1 => S f n + f n
theorem S_congr {f g : Nat → Int} : ∀ (n : Nat), (∀ i, i < n → f i = g i) → S f n = S g n
  | 0, _ => rfl
  | n + 1, h => by unfold S; rw [S_congr n (fun i hi => h i (by omega)), h n (by omega)]
theorem S_add (f g : Nat → Int) : ∀ (n : Nat), S (fun i => f i + g i) n = S f n + S g n
  | 0 => rfl
  | n + 1 => by unfold S; rw [S_add f g n]; omega
theorem S_nonneg {f : Nat → Int} : ∀ (n : Nat), (∀ i, i < n → 0 ≤ f i) → 0 ≤ S f n
  | 0, _ => Int.le_refl _
  | n + 1, h => by have := S_nonneg n (fun i hi => h i (by omega)); have := h n (by omega); unfold S; omega
theorem S_le {f g : Nat → Int} : ∀ (n : Nat), (∀ i, i < n → f i ≤ g i) → S f n ≤ S g n
  | 0, _ => Int.le_refl _
  | n + 1, h => by have := S_le n (fun i hi => h i (by omega)); have := h n (by omega); unfold S; omega
theorem S_zero (n : Nat) : S (fun _ => 0) n = 0 := by
  induction n with
  | zero => rfl
  | succ n ih => unfold S; omega
def upd (f : Nat → Int) (k : Nat) (v : Int) : Nat → Int := fun i => if i = k then v else f i
theorem S_upd (f : Nat → Int) (k : Nat) (v : Int) : ∀ (n : Nat), k < n → S (upd f k v) n = S f n - f k + v
  | 0, h => absurd h (by omega)
  | n + 1, h => by
    unfold S
    by_cases g : k = n
    · subst g
      have : S (upd f k v) k = S f k := S_congr k (fun i hi => by unfold upd; rw [if_neg (by omega)])
      rw [this]
      unfold upd
      rw [if_pos rfl]
      omega
    · rw [S_upd f k v n (by omega)]
      have : upd f k v n = f n := by unfold upd; rw [if_neg (by omega)]
      rw [this]
      omega
theorem S_single {f : Nat → Int} {n k : Nat} (hk : k < n) (h : ∀ i, i < n → 0 ≤ f i) : f k ≤ S f n := by
  have e := S_upd f k 0 n hk
  have : 0 ≤ S (upd f k 0) n := S_nonneg n (fun i hi => by unfold upd; split; omega; exact h i hi)
  omega
theorem S_more {f : Nat → Int} (n m : Nat) (h : n ≤ m) (z : ∀ i, n ≤ i → i < m → f i = 0) : S f m = S f n := by
  induction m with
  | zero => rw [show n = 0 by omega]
  | succ m ih =>
    by_cases g : n = m + 1
    · subst g; rfl
    · have := ih (by omega) (fun i a b => z i a (by omega))
      show S f m + f m = S f n
      rw [this, z m (by omega) (by omega)]
      omega

/-- the number of nodes, and 1 -/
def SZ (L : Nat) : Nat := 2 ^ (L + 1)
theorem SZ_cast (L : Nat) : ((SZ L : Nat) : Int) = 2 ^ (L + 1) := by unfold SZ; exact_mod_cast rfl
theorem SZ_two (L : Nat) : SZ L = 2 * 2 ^ L := by unfold SZ; rw [Nat.pow_succ]; omega
/-- the number of values -/
def tot (L : Nat) (c : Int → Int) : Int := S (fun i => c i) (SZ L)

theorem climb_upd (c : Int → Int) (p : Nat) (hp : 1 ≤ p) (f : Int → Nat → Int) : (fun i : Nat => f (climbF c p i) i) = upd (upd (upd (fun i => f (c i) i) p (f (c p + c (2 * p) + c (2 * p + 1)) p)) (2 * p) (f 0 (2 * p))) (2 * p + 1) (f 0 (2 * p + 1)) := by
  funext i
  unfold upd climbF
  by_cases h1 : i = p
  · subst h1; rw [if_pos rfl, if_neg (by omega), if_neg (by omega), if_pos rfl]
  · by_cases h2 : i = 2 * p
    · subst h2; rw [if_neg (by omega), if_pos (Or.inl (by omega)), if_neg (by omega), if_pos rfl]
    · by_cases h3 : i = 2 * p + 1
      · subst h3; rw [if_neg (by omega), if_pos (Or.inr (by omega)), if_pos rfl]
      · rw [if_neg (by omega), if_neg (by omega), if_neg h3, if_neg h2, if_neg h1]

theorem S_climb (c : Int → Int) (p n : Nat) (hp : 1 ≤ p) (hn : 2 * p + 1 < n) (f : Int → Nat → Int) :
    S (fun i : Nat => f (climbF c p i) i) n = S (fun i : Nat => f (c i) i) n - f (c p) p - f (c (2 * p)) (2 * p) - f (c (2 * p + 1)) (2 * p + 1) + f (c p + c (2 * p) + c (2 * p + 1)) p + f 0 (2 * p) + f 0 (2 * p + 1) := by
  rw [climb_upd c p hp f, S_upd _ _ _ n hn, S_upd _ _ _ n (by omega), S_upd _ _ _ n (by omega)]
  have a : upd (upd (fun i : Nat => f (c i) i) p (f (c p + c (2 * p) + c (2 * p + 1)) p)) (2 * p) (f 0 (2 * p)) (2 * p + 1) = f (c (2 * p + 1)) (2 * p + 1) := by
    unfold upd; rw [if_neg (by omega), if_neg (by omega)]; exact_mod_cast rfl
  have b : upd (fun i : Nat => f (c i) i) p (f (c p + c (2 * p) + c (2 * p + 1)) p) (2 * p) = f (c (2 * p)) (2 * p) := by
    unfold upd; rw [if_neg (by omega)]; exact_mod_cast rfl
  rw [a, b]
  omega

/-- a climb keeps the number of values -/
theorem tot_climb {L : Nat} {c : Int → Int} {p : Int} (hp : 1 ≤ p) (hl : p < 2 ^ L) : tot L (climbF c p) = tot L c := by
  obtain ⟨n, rfl⟩ := Int.eq_ofNat_of_zero_le (by omega : 0 ≤ p)
  have h1 : n < 2 ^ L := by exact_mod_cast hl
  have := S_climb c n (SZ L) (by omega) (by rw [SZ_two]; omega) (fun v _ => v)
  unfold tot
  rw [this]
  omega
theorem good_climb {L : Nat} {c : Int → Int} {p : Int} (h : Good L c) (hp : 1 ≤ p) (hl : p < 2 ^ L) : Good L (climbF c p) := by
  have e : (2 : Int) ^ (L + 1) = 2 * 2 ^ L := by rw [Int.pow_succ]; omega
  refine ⟨fun q => ?_, fun q hq => ?_⟩
  · unfold climbF
    have := h.1 p; have := h.1 (2 * p); have := h.1 (2 * p + 1); have := h.1 q
    split
    · omega
    · split <;> omega
  · unfold climbF at hq
    split at hq
    · subst_vars; rw [e]; omega
    · split at hq
      · exact absurd rfl hq
      · exact h.2 q hq

/-- the weight of a digest: a climb lessens it -/
def wt (L : Nat) (c : Int → Int) : Int := S (fun i : Nat => if c i = 0 then 0 else (i : Int)) (SZ L)
theorem wt_nonneg (L : Nat) (c : Int → Int) : 0 ≤ wt L c := S_nonneg _ (fun i _ => by split <;> omega)
theorem wt_climb {L : Nat} {c : Int → Int} {t p : Int} (h : Good L c) (hp : 1 ≤ p) (hl : p < 2 ^ L) (hc : can t c p) : wt L (climbF c p) < wt L c := by
  obtain ⟨n, rfl⟩ := Int.eq_ofNat_of_zero_le (by omega : 0 ≤ p)
  have h1 : n < 2 ^ L := by exact_mod_cast hl
  have := S_climb c n (SZ L) (by omega) (by rw [SZ_two]; omega) (fun v i => if v = 0 then 0 else (i : Int))
  unfold wt
  simp only at this ⊢
  rw [this]
  have g0 := h.1 n; have g1 := h.1 (2 * n); have g2 := h.1 (2 * n + 1)
  have := hc.1
  by_cases k : c (2 * n) = 0
  · have k2 : c (2 * n + 1) ≠ 0 := by omega
    rw [if_neg (by omega : ¬ (c n + c (2 * n) + c (2 * n + 1) = 0)), if_neg k2, if_pos k]
    split <;> simp <;> omega
  · rw [if_neg (by omega : ¬ (c n + c (2 * n) + c (2 * n + 1) = 0)), if_neg k]
    split <;> split <;> simp <;> omega

/-- what a fold over nodes above the leaves keeps -/
theorem fold_keeps {L : Nat} {t : Int} : ∀ (l : List Int) (c : Int → Int), (∀ p ∈ l, 1 ≤ p ∧ p < 2 ^ L) → Good L c → Good L (foldF t c l) ∧ tot L (foldF t c l) = tot L c ∧ wt L (foldF t c l) ≤ wt L c
  | [], c, _, h => ⟨h, rfl, Int.le_refl _⟩
  | p :: l, c, hl, h => by
    show Good L (foldF t (stepF t c p) l) ∧ tot L (foldF t (stepF t c p) l) = tot L c ∧ wt L (foldF t (stepF t c p) l) ≤ wt L c
    have hp := hl p List.mem_cons_self
    by_cases g : can t c p
    · have e : stepF t c p = climbF c p := by unfold stepF; rw [if_pos g]
      rw [e]
      have ih := fold_keeps (t := t) l (climbF c p) (fun x hx => hl x (List.mem_cons_of_mem _ hx)) (good_climb h hp.1 hp.2)
      rw [tot_climb hp.1 hp.2] at ih
      have := wt_climb h hp.1 hp.2 g
      exact ⟨ih.1, ih.2.1, by omega⟩
    · have e : stepF t c p = c := by unfold stepF; rw [if_neg g]
      rw [e]
      exact fold_keeps l c (fun x hx => hl x (List.mem_cons_of_mem _ hx)) h
end Go.Proofs.Ythjmiimkplhffaa

/- Words for memory: a map whose entries are counts. No function of the program is walked here. -/
set_option linter.unusedVariables false
set_option linter.unusedSimpArgs false
namespace Go.Proofs.Ythjmiimkplhffaa
open Go.RowKit Go.Maps

def InW (z : Int) : Prop := -9223372036854775808 ≤ z ∧ z ≤ 9223372036854775807
theorem InW.wf {z : Int} (h : InW z) : (Lit.int .i64 z).wf = true := by
  unfold InW at h
  simp [Lit.wf, IntKind.min, IntKind.max, IntKind.signed, IntKind.bits]
  omega

/-- a datum reads as counts -/
structure Reads (D : DataW Unit) (c : Int → Int) : Prop where
  at_ : ∀ q, InW q → D.atKey (.int .i64 q) (.lit (.int .i64 0)) = .lit (.int .i64 (c q))
  has_ : ∀ q, InW q → (has D (.int .i64 q) = true ↔ c q ≠ 0)

/-- Block b is a map that holds the counts that are not 0. -/
def Cm (w : World) (b : Nat) (c : Int → Int) : Prop :=
  ∃ D, w.ownsMap Try.prog 3 (plainElem Try.prog 3) b (size D) D ∧ Reads D c

theorem Cm.lt {w : World} {b : Nat} {c : Int → Int} (h : Cm w b c) : b < w.heap.size := by obtain ⟨D, h1, _⟩ := h; exact h1.lt
theorem Cm.block {w w' : World} {b : Nat} {c : Int → Int} (h : Cm w b c) (hb : w'.heap[b]? = w.heap[b]?) : Cm w' b c := by
  obtain ⟨D, ⟨es, clock, h1, h2⟩, h3⟩ := h
  exact ⟨D, ⟨es, clock, hb.trans h1, h2⟩, h3⟩
theorem Cm.below {w w' : World} {b B : Nat} {c : Int → Int} (h : Cm w b c) (hb : Below B w w') (hB : b < B) : Cm w' b c := h.block (hb.block b hB)
theorem Cm.keep {w w' : World} {b : Nat} {c : Int → Int} (h : Cm w b c) (hb : Below w.heap.size w w') : Cm w' b c := h.below hb h.lt
theorem Cm.grown {w w' : World} {b : Nat} {row : Option Nat} {c : Int → Int} (h : Cm w b c) (hg : w.grownBy w' row) (hne : some b ≠ row) : Cm w' b c := h.block (hg.block b h.lt hne)

theorem own_tight {w : World} {b n : Nat} {D : DataW Unit} (h : w.ownsMap Try.prog 3 (plainElem Try.prog 3) b n D) : w.ownsMap Try.prog 3 (plainElem Try.prog 3) b (size D) D := by
  obtain ⟨es, clock, h1, h2, h3, rfl⟩ := h
  refine ⟨es, clock, h1, h2, ?_, rfl⟩
  show es.size ≤ List.length _
  rw [length_read]
  exact Nat.le_refl _

theorem reads_empty : Reads (.map []) (fun _ => 0) := ⟨fun q _ => rfl, fun q _ => by simp [has]⟩
theorem Reads.put {D : DataW Unit} {c : Int → Int} (hD : IsMap D) (h : Reads D c) {q v : Int} (hq : InW q) (hv : v ≠ 0) : Reads (D.put (.int .i64 q) (.lit (.int .i64 v))) (fun x => if x = q then v else c x) := by
  have hk : WideAt.IsKeyLit (.int .i64 q) := by simp [WideAt.IsKeyLit]
  refine ⟨fun x hx => ?_, fun x hx => ?_⟩
  · by_cases e : x = q
    · subst e; rw [atKey_put_same hD hk, if_pos rfl]
    · rw [atKey_put_other (by simpa using e), if_neg e]; exact h.at_ x hx
  · by_cases e : x = q
    · subst e; rw [has_put_same hD hk, if_pos rfl]; simp [hv]
    · rw [has_put_other (by simpa using e), if_neg e]; exact h.has_ x hx
theorem Reads.del {D : DataW Unit} {c : Int → Int} (h : Reads D c) {q : Int} : Reads (D.del (.int .i64 q)) (fun x => if x = q then 0 else c x) := by
  refine ⟨fun x hx => ?_, fun x hx => ?_⟩
  · by_cases e : x = q
    · subst e; rw [atKey_del_same, if_pos rfl]
    · rw [atKey_del_other (by simpa using e), if_neg e]; exact h.at_ x hx
  · by_cases e : x = q
    · subst e; rw [has_del_same, if_pos rfl]; simp
    · rw [has_del_other (by simpa using e), if_neg e]; exact h.has_ x hx

/-- a list without repeats of numbers from 1 to less than M is shorter than M -/
theorem nodup_short : ∀ (M : Nat) (l : List Int), l.Nodup → (∀ x ∈ l, 1 ≤ x ∧ x < M) → l.length ≤ M - 1
  | 0, l, _, h => by
    cases l with
    | nil => simp
    | cons x l => have := h x List.mem_cons_self; omega
  | M + 1, l, hn, h => by
    by_cases hm : (M : Int) ∈ l
    · have h1 := nodup_short M (l.erase (M : Int)) (hn.erase _) (fun x hx => by
        have h2 := h x (List.mem_of_mem_erase hx)
        have h3 : x ≠ (M : Int) := fun e => by subst e; exact absurd hx (List.Nodup.not_mem_erase hn)
        omega)
      have h2 := List.length_erase_of_mem hm
      have h3 : 0 < l.length := List.length_pos_of_mem hm
      have h4 := (h _ hm).1
      omega
    · have h1 := nodup_short M l hn (fun x hx => by
        have h2 := h x hx
        have h3 : x ≠ (M : Int) := fun e => hm (e ▸ hx)
        omega)
      omega

theorem own_keys {w : World} {b n : Nat} {D : DataW Unit} (h : w.ownsMap Try.prog 3 (plainElem Try.prog 3) b n D) : (intKeys D).Nodup ∧ (intKeys D).length = size D ∧ ∀ x, x ∈ intKeys D → has D (.int .i64 x) = true ∧ InW x := by
  obtain ⟨es, hD, hpw, _⟩ := h.entries (int_keyed Try.underlying3)
  obtain ⟨es', hD', hko⟩ := h.keysOf
  obtain rfl : es = es' := by rw [hD] at hD'; simpa using hD'
  have hwf := intKeys_wf h Try.underlying3
  subst hD
  have hk : ∀ p ∈ es, ∃ x, p.1 = .int .i64 x := fun p hp => by obtain ⟨v, hv⟩ := hko p hp; obtain ⟨x, _, hx, _⟩ := Maps.keyOf_i64 Try.underlying3 hv; exact ⟨x, hx⟩
  refine ⟨?_, by simp [intKeys, size], fun x hx => ⟨?_, ?_⟩⟩
  · show (es.map fun p => Go.intOf p.1).Nodup
    refine List.pairwise_map.2 (hpw.imp_of_mem fun {p q} hp' hq' hne e => hne ?_)
    obtain ⟨a, ha⟩ := hk p hp'
    obtain ⟨d, hd⟩ := hk q hq'
    rw [ha, hd] at e ⊢
    exact congrArg _ e
  · obtain ⟨p, hp, rfl⟩ := List.mem_map.1 hx
    obtain ⟨a, ha⟩ := hk p hp
    rw [has_eq, List.any_eq_true]
    exact ⟨p, hp, by rw [ha]; simp [Lit.sameKey, Go.intOf]⟩
  · have := hwf x hx
    unfold InW
    simp [Lit.wf, IntKind.min, IntKind.max, IntKind.signed, IntKind.bits] at this
    omega

theorem own_size {w : World} {b n : Nat} {D : DataW Unit} {c : Int → Int} {L : Nat} (h : w.ownsMap Try.prog 3 (plainElem Try.prog 3) b n D) (r : Reads D c) (hg : Good L c) : size D ≤ SZ L - 1 := by
  obtain ⟨h1, h2, h3⟩ := own_keys h
  rw [← h2]
  refine nodup_short (SZ L) _ h1 (fun x hx => ?_)
  have h4 := h3 x hx
  have := hg.2 x ((r.has_ x h4.2).1 h4.1)
  rw [SZ_cast]
  exact this
theorem zeroInt (w : World) : (zeroValue 3).run Try.prog w = .ok (.int .i64 0) w := by kernel_rfl

/-- a look-up -/
theorem Cm.look {w : World} {b : Nat} {c : Int → Int} (h : Cm w b c) (q : Int) (hq : InW q) :
    (Instr.lookup 67 (.map (some b)) (.int .i64 q) false).run Try.prog w = .ok (.int .i64 (c q)) w := by
  obtain ⟨D, hown, hr⟩ := h
  obtain ⟨z, hrun, hat, _⟩ := hown.lookup_int (t := 67) (int_keyed Try.underlying3) Try.underlying67 Try.underlying3 (zeroInt w) (keyOf_int_mk Try.underlying3 hq.wf)
  rw [hr.at_ q hq] at hat
  simp at hat
  rw [hrun, hat]
theorem Cm.drewN {w : World} {b : Nat} {c : Int → Int} (h : Cm w b c) (k : Nat) : Cm (w.drewN k) b c := h

/-- 'm[k] = v' -/
theorem wpList_put {w : World} {ops : Array Oper} {rest : List Oper} {o : Oper} {a : Act} {Q : Exit → Act → World → Prop} (hgd : o.guard = none) (m x v : Operand) (hop : o.op = Op.mapUpdate 67 m x v)
    (b : Nat) (c : Int → Int) (L : Nat) (h : Cm w b c) (hg : Good L c) (hL : L ≤ 20) (hm : a.eval m = .map (some b)) (q z : Int) (hq : InW q) (hz : InW z) (hz0 : z ≠ 0) (hx : a.eval x = .int .i64 q) (hv : a.eval v = .int .i64 z)
    (hK : ∀ w', Cm w' b (fun y => if y = q then z else c y) → w.grownBy w' (some b) → wpList Try.prog ops Q rest (a.put o.dst undef) w') :
    wpList Try.prog ops Q (o :: rest) a w := by
  obtain ⟨D, hown, hr⟩ := h
  have hs := own_size hown hr hg
  have hs2 : SZ L ≤ 2097152 := by unfold SZ; exact Nat.le_trans (Nat.pow_le_pow_right (by omega) (by omega : L + 1 ≤ 21)) (by omega)
  refine wpList_mapUpdate_own w hgd m x v 67 hop 3 3 (int_keyed Try.underlying3) Try.underlying67 (plainElem Try.prog 3) b (size D) D hm hown (by unfold maxLen; omega) _ _ _ hx hv (keyOf_int_mk Try.underlying3 hq.wf) _ [] (plainElem_int Try.underlying3 hz.wf) ?_
  intro w' hown' hgr
  exact hK w' ⟨_, own_tight hown', Reads.put hown.isMap hr hq hz0⟩ hgr
/-- 'delete(m, k)' -/
theorem wpList_drop {w : World} {ops : Array Oper} {rest : List Oper} {o : Oper} {a : Act} {Q : Exit → Act → World → Prop} (hgd : o.guard = none) (m x : Operand) (hop : o.op = Op.call { callee := Callee.builtin Builtin.delete, args := #[m, x], argTypes := #[67, 3] })
    (b : Nat) (c : Int → Int) (h : Cm w b c) (hm : a.eval m = .map (some b)) (q : Int) (hq : InW q) (hx : a.eval x = .int .i64 q)
    (hK : ∀ w', Cm w' b (fun y => if y = q then 0 else c y) → w.grownBy w' (some b) → wpList Try.prog ops Q rest (a.put o.dst (.tuple #[])) w') :
    wpList Try.prog ops Q (o :: rest) a w := by
  obtain ⟨D, hown, hr⟩ := h
  refine wpList_delete_own w hgd m x 67 3 hop 3 (int_keyed Try.underlying3) Try.underlying67 (plainElem Try.prog 3) b (size D) D hm hown _ _ hx (keyOf_int_mk Try.underlying3 hq.wf) ?_
  intro w' hown' ht
  exact hK w' ⟨_, own_tight hown', hr.del⟩ ht.grown
end Go.Proofs.Ythjmiimkplhffaa

/- Plain mathematics: the list of a digest's nodes. -/
set_option linter.unusedVariables false
namespace Go.Proofs.Ythjmiimkplhffaa
open Go.RowKit Go.Maps

/-- the nodes whose counts are not 0, ascending -/
def idsL (L : Nat) (c : Int → Int) : List Int := ((List.range (SZ L)).map (fun i : Nat => (i : Int))).filter (fun q => decide (c q ≠ 0))
def nodesL (L : Nat) (c : Int → Int) : List (Int × Int) := (idsL L c).map (fun q => (q, c q))

theorem range_rise (n : Nat) : ((List.range n).map (fun i : Nat => (i : Int))).Pairwise (· < ·) := by
  rw [List.pairwise_map]
  exact List.pairwise_lt_range.imp (fun h => by omega)
theorem ids_rise (L : Nat) (c : Int → Int) : (idsL L c).Pairwise (· < ·) := (range_rise _).filter _
theorem mem_ids {L : Nat} {c : Int → Int} (hg : Good L c) (q : Int) : q ∈ idsL L c ↔ c q ≠ 0 := by
  unfold idsL
  rw [List.mem_filter, List.mem_map]
  simp only [List.mem_range, decide_eq_true_eq]
  constructor
  · exact fun h => h.2
  · intro h
    refine ⟨⟨q.toNat, ?_, ?_⟩, h⟩
    · have := hg.2 q h; have := SZ_cast L; omega
    · have := hg.2 q h; omega
theorem ids_len (L : Nat) (c : Int → Int) : (idsL L c).length ≤ SZ L := by
  unfold idsL
  exact Nat.le_trans (List.length_filter_le _ _) (by simp)
theorem sz_le {L : Nat} (h : L ≤ 20) : SZ L ≤ 2097152 := by unfold SZ; exact Nat.le_trans (Nat.pow_le_pow_right (by omega) (by omega : L + 1 ≤ 21)) (by omega)

/-- two ascending lists with the same members are one -/
theorem rise_ext : ∀ {l m : List Int}, l.Pairwise (· < ·) → m.Pairwise (· < ·) → (∀ x, x ∈ l ↔ x ∈ m) → l = m
  | [], [], _, _, _ => rfl
  | [], y :: m, _, _, h => absurd ((h y).2 List.mem_cons_self) (by simp)
  | x :: l, [], _, _, h => absurd ((h x).1 List.mem_cons_self) (by simp)
  | x :: l, y :: m, hl, hm, h => by
    obtain ⟨hx, hl2⟩ := List.pairwise_cons.1 hl
    obtain ⟨hy, hm2⟩ := List.pairwise_cons.1 hm
    have e : x = y := by
      rcases List.mem_cons.1 ((h x).1 List.mem_cons_self) with g | g
      · exact g
      · rcases List.mem_cons.1 ((h y).2 List.mem_cons_self) with k | k
        · exact k.symm
        · have := hx y k; have := hy x g; omega
    subst e
    have e2 : l = m := rise_ext hl2 hm2 (fun z => by
      constructor
      · intro hz
        rcases List.mem_cons.1 ((h z).1 (List.mem_cons_of_mem _ hz)) with g | g
        · have := hx z hz; omega
        · exact g
      · intro hz
        rcases List.mem_cons.1 ((h z).2 (List.mem_cons_of_mem _ hz)) with g | g
        · have := hy z hz; omega
        · exact g)
    rw [e2]

theorem sort_rise {l : List Int} (h : l.Nodup) (le : Int → Int → Bool) (hle : ∀ x y, le x y = decide (x ≤ y)) : (l.mergeSort le).Pairwise (· < ·) := by
  have h1 : (l.mergeSort le).Pairwise (fun a b => le a b = true) := List.pairwise_mergeSort (fun a b c h1 h2 => by rw [hle] at *; simp at *; omega) (fun a b => by rw [hle, hle]; simp; omega) l
  have h2 : (l.mergeSort le).Nodup := (List.mergeSort_perm l le).nodup_iff.2 h
  refine (h1.and h2).imp (fun {a b} ⟨h3, h4⟩ => ?_)
  rw [hle] at h3
  simp at h3
  omega

/-- the keys of the map, sorted -/
theorem sort_ids {w : World} {b n L : Nat} {D : DataW Unit} {c : Int → Int} (hown : w.ownsMap Try.prog 3 (plainElem Try.prog 3) b n D) (hr : Reads D c) (hg : Good L c) (hL : L ≤ 20) {ss : List Int} (hp : ss.Perm (intKeys D)) (le : Int → Int → Bool) (hle : ∀ x y, le x y = decide (x ≤ y)) :
    ss.mergeSort le = idsL L c := by
  obtain ⟨h1, h2, h3⟩ := own_keys hown
  refine rise_ext (sort_rise (hp.nodup_iff.2 h1) le hle) (ids_rise L c) (fun x => ?_)
  rw [(List.mergeSort_perm ss le).mem_iff, hp.mem_iff, mem_ids hg]
  constructor
  · intro hx
    have := h3 x hx
    exact (hr.has_ x this.2).1 this.1
  · intro hx
    obtain ⟨es, hD, hpw, _⟩ := hown.entries (int_keyed Try.underlying3)
    have hw : InW x := by
      have h4 := hg.2 x hx
      have h5 := SZ_cast L
      have h6 := sz_le hL
      unfold InW
      omega
    have h7 := (hr.has_ x hw).2 hx
    obtain ⟨es', hD', hko⟩ := hown.keysOf
    subst hD
    obtain rfl : es = es' := by simpa using hD'
    rw [has_eq, List.any_eq_true] at h7
    obtain ⟨p, hp', hs⟩ := h7
    obtain ⟨v, hv⟩ := hko p hp'
    obtain ⟨y, _, hy, _⟩ := Maps.keyOf_i64 Try.underlying3 hv
    refine List.mem_map.2 ⟨p, hp', ?_⟩
    rw [hy] at hs ⊢
    simpa [Lit.sameKey, Go.intOf] using hs
end Go.Proofs.Ythjmiimkplhffaa

/- The program's small functions: isUsable, values, limit, parent. -/
set_option linter.unusedVariables false
set_option linter.unusedSimpArgs false
namespace Go.Proofs.Ythjmiimkplhffaa
open Go.RowKit Go.Maps

theorem parent_any (q : Int) (W : World) (hq : 0 ≤ q) (hq2 : q ≤ 9223372036854775807) : Calls Try.prog 50 #[.int .i64 q] W (fun e w' => e = .returned (.int .i64 (q / 2)) ∧ w' = W) := by
  go_enter Try.func50, Try.ntmps50
  go_wp2
  go_ret
  exact ⟨rfl, rfl⟩

theorem levels_any (l f : Int) (p : Option Addr) (W : World) : Calls Try.prog 31 #[.agg #[.int .i64 l, .int .i64 f, .pointer p]] W (fun e w' => e = .returned (.int .i64 l) ∧ Below W.heap.size W w') := by
  go_enter Try.func31, Try.ntmps31
  go_wp2
  go_ret
  exact ⟨rfl, (Below.refl _ _).alloc (Nat.le_refl _) _⟩
theorem factor_any (l f : Int) (p : Option Addr) (W : World) : Calls Try.prog 32 #[.agg #[.int .i64 l, .int .i64 f, .pointer p]] W (fun e w' => e = .returned (.int .i64 f) ∧ Below W.heap.size W w') := by
  go_enter Try.func32, Try.ntmps32
  go_wp2
  go_ret
  exact ⟨rfl, (Below.refl _ _).alloc (Nat.le_refl _) _⟩

theorem wrap_pow (l : Int) (h0 : 0 ≤ l) (h1 : l ≤ 20) : wrap64 (2 ^ l.toNat) = 2 ^ l.toNat := by
  obtain ⟨n, rfl⟩ := Int.eq_ofNat_of_zero_le h0
  have h2 : n ≤ 20 := by omega
  rw [Int.toNat_natCast]
  have h3 : (2 : Int) ^ n ≤ 2 ^ 20 := by exact_mod_cast Nat.pow_le_pow_right (by omega) h2
  have h4 : (0 : Int) < 2 ^ n := Int.pow_pos (by omega)
  unfold wrap64; omega

theorem values_any (l f : Int) (W : World) (h0 : 0 ≤ l) (h1 : l ≤ 20) : Calls Try.prog 41 #[.agg #[.int .i64 l, .int .i64 f]] W (fun e w' => e = .returned (.int .i64 (2 ^ l.toNat)) ∧ Below W.heap.size W w') := by
  have HW := Lib.hid (wrap_pow l h0 h1)
  go_enter Try.func41, Try.ntmps41
  go_wp2
  go_ret
  exact ⟨by show Ending.returned (.int .i64 (wrap64 (2 ^ l.toNat))) = _; rw [HW.out], (Below.refl _ _).alloc (Nat.le_refl _) _⟩

/-- the zero value of a digest -/
def zeroD : Value := .agg #[.int .i64 0, .int .i64 0, .pointer none]

theorem eqIn_shape (d : Nat) (l f a b : Int) (w : World) :
    (Op.equalIn (d + 1 + 1) 25 (.agg #[.int .i64 l, .int .i64 f]) (.agg #[.int .i64 a, .int .i64 b])).run Try.prog w = .ok (l == a && f == b) w := by
  have u3 := Try.underlying3
  rw [run_equalIn_agg w (d + 1) 25 _ _ (by kernel_rfl) (by kernel_rfl)]
  simp only [Program.fieldsOf, Try.underlying25, Op.eqFields]
  simp [part, run_equalIn_int, u3, Result.andThen]
  by_cases h1 : l = a <;> by_cases h2 : f = b <;> simp [h1, h2]
theorem eqIn_dig (d : Nat) (l f : Int) (p : Option Addr) (w : World) :
    (Op.equalIn (d + 1 + 1 + 1) 28 (.agg #[.int .i64 l, .int .i64 f, .pointer p]) (.agg #[.int .i64 0, .int .i64 0, .pointer none])).run Try.prog w = .ok ((l == 0 && f == 0) && p.isNone) w := by
  have h26 : Try.prog.underlying 26 = some (.pointer (Try.prog.pointee 26)) := by kernel_rfl
  have hp := run_equalIn_pointer_nil (P := Try.prog) w (d + 1) 26 p h26
  have hs := eqIn_shape d l f 0 0 w
  rw [run_equalIn_agg w (d + 1 + 1) 28 _ _ (by kernel_rfl) (by kernel_rfl)]
  simp only [Program.fieldsOf, Try.underlying28, Op.eqFields]
  clear h26
  have e1 : (part 25 #[.int .i64 l, .int .i64 f, .pointer p] 0).run Try.prog w = .ok (.agg #[.int .i64 l, .int .i64 f]) w := by kernel_rfl
  have e2 : (part 25 #[.int .i64 0, .int .i64 0, .pointer none] 0).run Try.prog w = .ok (.agg #[.int .i64 0, .int .i64 0]) w := by kernel_rfl
  have e3 : (part 26 #[.int .i64 l, .int .i64 f, .pointer p] 2).run Try.prog w = .ok (.pointer p) w := by kernel_rfl
  have e4 : (part 26 #[.int .i64 0, .int .i64 0, .pointer none] 2).run Try.prog w = .ok (.pointer none) w := by kernel_rfl
  by_cases h1 : l = 0 <;> by_cases h2 : f = 0 <;> cases p <;> simp [e1, e2, e3, e4, hs, hp, Result.andThen, h1, h2] <;> simp_all [Result.andThen]
theorem run_neq_dig (l f : Int) (p : Option Addr) (w : World) (hl : l ≠ 0) :
    (binOp .neq 28 (.agg #[.int .i64 l, .int .i64 f, .pointer p]) (.agg #[.int .i64 0, .int .i64 0, .pointer none])).run Try.prog w = .ok (.bool true) w := by
  rw [run_neq_struct, show (10000 : Nat) = 9997 + 1 + 1 + 1 from rfl, eqIn_dig]
  simp [Result.andThen, hl]
theorem run_neq_dig0 (w : World) :
    (binOp .neq 28 (.agg #[.int .i64 0, .int .i64 0, .pointer none]) (.agg #[.int .i64 0, .int .i64 0, .pointer none])).run Try.prog w = .ok (.bool false) w := by
  rw [run_neq_struct, show (10000 : Nat) = 9997 + 1 + 1 + 1 from rfl, eqIn_dig]
  simp [Result.andThen]

theorem usable_no (W : World) : Calls Try.prog 35 #[.agg #[.int .i64 0, .int .i64 0, .pointer none]] W (fun e w' => e = .returned (.bool false) ∧ Below W.heap.size W w') := by
  have hr := fun w => run_neq_dig0 w
  go_enter Try.func35, Try.ntmps35
  go_wp2
  go_ret
  exact ⟨rfl, (Below.refl _ _).alloc (Nat.le_refl _) _⟩
theorem usable_yes (l f : Int) (p : Option Addr) (W : World) (hl : 1 ≤ l) : Calls Try.prog 35 #[.agg #[.int .i64 l, .int .i64 f, .pointer p]] W (fun e w' => e = .returned (.bool true) ∧ Below W.heap.size W w') := by
  have hr := fun w => run_neq_dig l f p w (by omega)
  go_enter Try.func35, Try.ntmps35
  go_wp2
  go_ret
  exact ⟨rfl, (Below.refl _ _).alloc (Nat.le_refl _) _⟩
end Go.Proofs.Ythjmiimkplhffaa

/- The program's climb: the counts of a node's children climb to it, or nothing changes. -/
set_option linter.unusedVariables false
set_option linter.unusedSimpArgs false
namespace Go.Proofs.Ythjmiimkplhffaa
open Go.RowKit Go.Maps

/-- A tree in memory: a map of counts and their number. -/
structure Tree (w : World) (tb mb : Nat) (n : Int) (c : Int → Int) : Prop where
  c0 : w.cell? ⟨tb, 0, none⟩ = some (.map (some mb))
  c1 : w.cell? ⟨tb, 1, none⟩ = some (.int .i64 n)
  m : Cm w mb c

theorem climb_put (c : Int → Int) (p v : Int) (hp : 1 ≤ p) (hv : v = c p + c (2 * p) + c (2 * p + 1)) :
    (fun x => if x = 2 * p + 1 then 0 else (fun x => if x = 2 * p then 0 else (fun x => if x = p then v else c x) x) x) = climbF c p := by
  funext x
  unfold climbF
  simp only
  by_cases h1 : x = p
  · subst h1
    rw [if_neg (by omega), if_neg (by omega), if_pos rfl, if_pos rfl, hv]
  · by_cases h2 : x = 2 * p
    · subst h2; rw [if_neg (by omega), if_pos rfl, if_neg h1, if_pos (Or.inl rfl)]
    · by_cases h3 : x = 2 * p + 1
      · rw [if_pos h3, if_neg h1, if_pos (Or.inr h3)]
      · rw [if_neg h3, if_neg h2, if_neg h1, if_neg h1, if_neg (by omega)]

/-- a climb, or none -/
def Climbed (t : Int) (c : Int → Int) (p : Int) (mb : Nat) (W : World) (e : Ending) (w' : World) : Prop :=
  (can t c p ∧ e = .returned (.bool true) ∧ Cm w' mb (climbF c p) ∧ W.grownBy w' (some mb)) ∨ (¬ can t c p ∧ e = .returned (.bool false) ∧ Drew W w')

theorem drew_grown {w w' : World} (h : Drew w w') (row : Option Nat) : w.grownBy w' row := by
  obtain ⟨k, rfl⟩ := h; exact ⟨rfl, rfl, rfl, Nat.le_refl _, fun _ _ _ => rfl⟩
theorem grown_trans {a b c : World} {row : Option Nat} (h : a.grownBy b row) (k : b.grownBy c row) : a.grownBy c row :=
  ⟨k.os.trans h.os, k.tape.trans h.tape, k.output.trans h.output, Nat.le_trans h.size k.size, fun i hi hne => (k.block i (Nat.lt_of_lt_of_le hi h.size) hne).trans (h.block i hi hne)⟩

set_option maxHeartbeats 2000000 in
set_option maxRecDepth 20000 in
theorem climb_any (tb mb : Nat) (n t : Int) (c : Int → Int) (p : Int) (W : World) (h : Tree W tb mb n c) (hne : tb ≠ mb) (hp : 1 ≤ p) (hp2 : p ≤ 4194304) (L : Nat) (hpL : p < 2 ^ L) (hg : Good L c) (hL : L ≤ 20) (hc1 : ∀ q, c q ≤ 1099511627776) :
    Calls Try.prog 72 #[.pointer (some ⟨tb, 0, none⟩), .int .i64 p, .int .i64 t] W (Climbed t c p mb W) := by
  have h0 := h.c0
  have l0 : ∀ k, (Instr.lookup 67 (.map (some mb)) (.int .i64 p) false).run Try.prog (W.drewN k) = .ok (.int .i64 (c p)) (W.drewN k) := fun k => Cm.look (h.m.drewN k) p (by unfold InW; omega)
  have l1 : ∀ k, (Instr.lookup 67 (.map (some mb)) (.int .i64 (2 * p)) false).run Try.prog (W.drewN k) = .ok (.int .i64 (c (2 * p))) (W.drewN k) := fun k => Cm.look (h.m.drewN k) _ (by unfold InW; omega)
  have l2 : ∀ k, (Instr.lookup 67 (.map (some mb)) (.int .i64 (2 * p + 1)) false).run Try.prog (W.drewN k) = .ok (.int .i64 (c (2 * p + 1))) (W.drewN k) := fun k => Cm.look (h.m.drewN k) _ (by unfold InW; omega)
  have HM := Lib.hid h.m
  have HG := Lib.hid hg
  have a0 := hg.1 p
  have a1 := hg.1 (2 * p)
  have a2 := hg.1 (2 * p + 1)
  have b0 := hc1 p
  have b1 := hc1 (2 * p)
  have b2 := hc1 (2 * p + 1)
  have HC : Hid (can t c p ↔ (c (2 * p) + c (2 * p + 1) ≠ 0 ∧ c p + c (2 * p) + c (2 * p + 1) ≤ t)) := Iff.rfl
  have HP := Lib.hid (climb_put c p _ hp rfl)
  have HGC := Lib.hid (good_climb hg hp hpL)
  obtain ⟨x0, hx0⟩ : ∃ x, x = c p := ⟨_, rfl⟩
  obtain ⟨x1, hx1⟩ : ∃ x, x = c (2 * p) := ⟨_, rfl⟩
  obtain ⟨x2, hx2⟩ : ∃ x, x = c (2 * p + 1) := ⟨_, rfl⟩
  rw [← hx0] at a0 b0 HC HP
  rw [← hx1] at a1 b1 HC HP
  rw [← hx2] at a2 b2 HC HP
  simp only [← hx0, ← hx1, ← hx2] at l0 l1 l2
  clear h hg hc1 hx0 hx1 hx2
  go_enter Try.func72, Try.ntmps72
  go_wp2_with fail
  go_quiet (fail)
  by_cases g1 : x1 + x2 = 0
  · have t1 : ((x1 + x2 : Int) == 0) = true := by simpa using g1
    go_wp2
    go_ret
    exact .inr ⟨fun h => (HC.out.1 h).1 g1, rfl, ⟨_, rfl⟩⟩
  · have t1 : ((x1 + x2 : Int) == 0) = false := by simpa using g1
    by_cases g2 : t < x0 + x1 + x2
    · go_wp2
      go_ret
      exact .inr ⟨fun h => absurd (HC.out.1 h).2 (by omega), rfl, ⟨_, rfl⟩⟩
    · have t2 : ¬ t < x0 + x1 + x2 := g2
      have HN := Lib.hid hne
      clear hne l1 l2
      go_wp2_with (first
        | (at_mapUpdate; refine wpList_put rfl (.tmp 47) (.tmp 48) (.tmp 49) rfl mb c L (Cm.drewN HM.out _) HG.out hL rfl p (x0 + x1 + x2) (by unfold InW; omega) (by unfold InW; omega) (by omega) rfl rfl ?_; intro w1 hm1 hg1; have h1 : w1.cell? ⟨tb, 0, none⟩ = some (.map (some mb)) := hg1.cell h0 (by simpa using HN.out); have HM1 := Lib.hid hm1; have HG1 := Lib.hid hg1; clear hm1 hg1)
        | (at_delete; refine wpList_drop rfl (.tmp 53) (.tmp 55) rfl mb _ HM1.out rfl (2 * p) (by unfold InW; omega) rfl ?_; intro w2 hm2 hg2; have h2 : w2.cell? ⟨tb, 0, none⟩ = some (.map (some mb)) := hg2.cell h1 (by simpa using HN.out); have HM2 := Lib.hid hm2; have HG2 := Lib.hid hg2; clear hm2 hg2 h1)
        | (at_delete; refine wpList_drop rfl (.tmp 59) (.tmp 62) rfl mb _ HM2.out rfl (2 * p + 1) (by unfold InW; omega) rfl ?_; intro w3 hm3 hg3; have HM3 := Lib.hid hm3; have HG3 := Lib.hid hg3; clear hm3 hg3 h2))
      go_ret
      refine .inl ⟨HC.out.2 ⟨g1, by omega⟩, rfl, ?_, ?_⟩
      · rw [← HP.out]
        exact HM3.out
      · exact grown_trans (grown_trans (grown_trans (drew_grown ⟨_, rfl⟩ _) HG1.out) HG2.out) HG3.out
end Go.Proofs.Ythjmiimkplhffaa

/- Words for the rows of waiting nodes: twenty own slices of integers in one block. No function of the program is walked here. -/
set_option linter.unusedVariables false
set_option linter.unusedSimpArgs false
namespace Go.Proofs.Ythjmiimkplhffaa
open Go.RowKit Go.Maps

/-- only blocks of P are written, and new ones made -/
structure Only (P : Nat → Prop) (w w' : World) : Prop where
  os : w'.os = w.os
  tape : w'.tape = w.tape
  output : w'.output = w.output
  size : w.heap.size ≤ w'.heap.size
  block : ∀ k, k < w.heap.size → ¬ P k → w'.heap[k]? = w.heap[k]?

theorem Only.refl (P : Nat → Prop) (w : World) : Only P w w := ⟨rfl, rfl, rfl, Nat.le_refl _, fun _ _ _ => rfl⟩
theorem Only.trans {P : Nat → Prop} {a b c : World} (h : Only P a b) (k : Only P b c) : Only P a c :=
  ⟨k.os.trans h.os, k.tape.trans h.tape, k.output.trans h.output, Nat.le_trans h.size k.size, fun i hi hp => (k.block i (Nat.lt_of_lt_of_le hi h.size) hp).trans (h.block i hi hp)⟩
/-- what the second step writes lies in P or is new to the first -/
theorem Only.andThen {P R : Nat → Prop} {a b c : World} (h : Only P a b) (k : Only R b c) (hr : ∀ i, R i → P i ∨ a.heap.size ≤ i) : Only P a c :=
  ⟨k.os.trans h.os, k.tape.trans h.tape, k.output.trans h.output, Nat.le_trans h.size k.size, fun i hi hp => (k.block i (Nat.lt_of_lt_of_le hi h.size) (fun hR => by rcases hr i hR with g | g; exact hp g; omega)).trans (h.block i hi hp)⟩
theorem Only.mono {P R : Nat → Prop} {a b : World} (h : Only P a b) (hr : ∀ i, P i → R i) : Only R a b := ⟨h.os, h.tape, h.output, h.size, fun i hi hp => h.block i hi (fun g => hp (hr i g))⟩
theorem Only.of_grown {a b : World} {row : Option Nat} (h : a.grownBy b row) : Only (fun i => row = some i) a b := ⟨h.os, h.tape, h.output, h.size, fun i hi hp => h.block i hi (fun e => hp e.symm)⟩
theorem Only.of_below {P : Nat → Prop} {a b : World} (h : Below a.heap.size a b) : Only P a b := ⟨h.os, h.tape, h.output, h.size, fun i hi _ => h.block i hi⟩
theorem Only.below {P : Nat → Prop} {a b : World} (h : Only P a b) (hp : ∀ i, P i → a.heap.size ≤ i) : Below a.heap.size a b := ⟨h.os, h.tape, h.output, h.size, fun i hi => h.block i hi (fun g => by have := hp i g; omega)⟩
theorem Only.grown {P : Nat → Prop} {a b : World} {r : Nat} (h : Only P a b) (hp : ∀ i, P i → i = r ∨ a.heap.size ≤ i) : a.grownBy b (some r) := ⟨h.os, h.tape, h.output, h.size, fun i hi hne => h.block i hi (fun g => by rcases hp i g with e | e; exact hne (by rw [e]); omega)⟩
theorem Only.cell {P : Nat → Prop} {a b : World} (h : Only P a b) {p : Addr} {v : Value} (hc : a.cell? p = some v) (hp : ¬ P p.block) : b.cell? p = some v := by
  have hl : p.block < a.heap.size := by
    unfold World.cell? at hc
    cases hh : a.heap[p.block]? with
    | none => rw [hh] at hc; simp at hc
    | some o => exact (Array.getElem?_eq_some_iff.1 hh).1
  rw [World.cell?_of_block (w := a) (h.block p.block hl hp)]; exact hc
theorem Only.cm {P : Nat → Prop} {a b : World} (h : Only P a b) {m : Nat} {c : Int → Int} (hc : Cm a m c) (hp : ¬ P m) : Cm b m c := hc.block (h.block m hc.lt hp)
theorem Only.setCell (w : World) (p : Addr) (v : Value) : Only (fun i => i = p.block) w (w.setCell p v) := ⟨rfl, rfl, rfl, by simp [World.setCell], fun k hk hp => Below.heap_setCell w p v k hp⟩

/-- the i-th cell -/
def nth (vs : List Value) (i : Nat) : Value := vs[i]?.getD undef

/-- Twenty own slices, which share no block, all in X. -/
structure RowsV (w : World) (X : Nat → Prop) (vs : List Value) (rs : Nat → List Int) : Prop where
  len : vs.length = 20
  own : ∀ i, i < 20 → OwnI w 0 3 (nth vs i) (rs i).length (rs i)
  foot : ∀ i b, i < 20 → (nth vs i).ownBlock = some b → X b
  apart : ∀ i j b, i < 20 → j < 20 → i ≠ j → (nth vs i).ownBlock = some b → (nth vs j).ownBlock ≠ some b

theorem OwnI.block {w w' : World} {base e n : Nat} {v : Value} {xs : List Int} (h : OwnI w base e v n xs) (hk : ∀ g, v.ownBlock = some g → w'.heap[g]? = w.heap[g]?) : OwnI w' base e v n xs := by
  refine ⟨h.1, ?_⟩
  rcases h.2 with h2 | ⟨g, cap, cur, rfl, h4, h5, h6⟩
  · exact .inl h2
  · exact .inr ⟨g, cap, cur, rfl, h4, (hk g rfl).trans h5, h6⟩
theorem OwnI.blt {w : World} {base e n : Nat} {v : Value} {xs : List Int} (h : OwnI w base e v n xs) {g : Nat} (hg : v.ownBlock = some g) : g < w.heap.size := (World.ownsRow.lt h g hg).2

theorem RowsV.only {w w' : World} {X P : Nat → Prop} {vs : List Value} {rs : Nat → List Int} (h : RowsV w X vs rs) (ho : Only P w w') (hx : ∀ b, X b → ¬ P b) : RowsV w' X vs rs :=
  ⟨h.len, fun i hi => (h.own i hi).block (fun g hg => ho.block g ((h.own i hi).blt hg) (hx g (h.foot i g hi hg))), h.foot, h.apart⟩
theorem RowsV.mono {w : World} {X Y : Nat → Prop} {vs : List Value} {rs : Nat → List Int} (h : RowsV w X vs rs) (hx : ∀ b, X b → Y b) : RowsV w Y vs rs :=
  ⟨h.len, h.own, fun i b hi hb => hx b (h.foot i b hi hb), h.apart⟩
/-- only what lies in memory counts -/
theorem RowsV.tight {w : World} {X : Nat → Prop} {vs : List Value} {rs : Nat → List Int} (h : RowsV w X vs rs) : RowsV w (fun b => X b ∧ b < w.heap.size) vs rs :=
  ⟨h.len, h.own, fun i b hi hb => ⟨h.foot i b hi hb, (h.own i hi).blt hb⟩, h.apart⟩

theorem nth_set_same {vs : List Value} {d : Nat} (h : d < vs.length) (v : Value) : nth (vs.set d v) d = v := by simp [nth, h]
theorem nth_set_other {vs : List Value} {d i : Nat} (h : i ≠ d) (v : Value) : nth (vs.set d v) i = nth vs i := by
  simp [nth, List.getElem?_set_ne (fun e => h e.symm)]

theorem RowsV.put {w w' : World} {X : Nat → Prop} {vs : List Value} {rs : Nat → List Int} {d : Nat} (h : RowsV w X vs rs) (hd : d < 20) {v' : Value} {xs : List Int} {g : Nat}
    (ho : Only (fun b => (nth vs d).ownBlock = some b) w w') (hown : OwnI w' 0 3 v' xs.length xs) (hg : v'.ownBlock = some g) (hn : (nth vs d).ownBlock = some g ∨ w.heap.size ≤ g) :
    RowsV w' (fun b => X b ∨ b = g) (vs.set d v') (fun i => if i = d then xs else rs i) := by
  have hl := h.len
  refine ⟨by simp [hl], fun i hi => ?_, fun i b hi hb => ?_, fun i j b hi hj hne hb => ?_⟩
  · by_cases e : i = d
    · subst e; rw [nth_set_same (by omega), if_pos rfl]; exact hown
    · rw [nth_set_other e, if_neg e]
      exact (h.own i hi).block (fun k hk => ho.block k ((h.own i hi).blt hk) (h.apart i d k hi hd e hk))
  · by_cases e : i = d
    · subst e; rw [nth_set_same (by omega), hg] at hb; exact .inr (by simpa using hb.symm)
    · rw [nth_set_other e] at hb; exact .inl (h.foot i b hi hb)
  · by_cases e : i = d
    · subst e
      rw [nth_set_same (by omega), hg] at hb
      obtain rfl : g = b := by simpa using hb
      rw [nth_set_other (fun e => hne e.symm)]
      intro hb2
      rcases hn with hn | hn
      · exact h.apart i j g hi hj hne hn hb2
      · have := (h.own j hj).blt hb2; omega
    · rw [nth_set_other e] at hb
      by_cases e2 : j = d
      · subst e2
        rw [nth_set_same (by omega), hg]
        intro hb2
        obtain rfl : g = b := by simpa using hb2
        rcases hn with hn | hn
        · exact h.apart i j g hi hj hne hb hn
        · have := (h.own i hi).blt hb; omega
      · rw [nth_set_other e2]; exact h.apart i j b hi hj hne hb

/-- They lie in the block R, which is none of theirs. -/
def RowsAt (w : World) (R : Nat) (X : Nat → Prop) (rs : Nat → List Int) : Prop :=
  ∃ vs : List Value, w.heap[R]? = some (.cells vs.toArray 93 (0, 0)) ∧ RowsV w X vs rs ∧ ¬ X R

theorem cell_rows {w : World} {R i : Nat} {vs : List Value} {T : TypeId} (h : w.heap[R]? = some (.cells vs.toArray T (0, 0))) (hi : i < vs.length) : w.cell? ⟨R, i, none⟩ = some (nth vs i) := by
  simp only [World.cell?]
  rw [h]
  simp [nth, hi]
theorem frozen_rows {w : World} {R i : Nat} {vs : List Value} {T : TypeId} (h : w.heap[R]? = some (.cells vs.toArray T (0, 0))) : w.frozen? ⟨R, i, none⟩ = false := by
  simp only [World.frozen?]
  rw [h]
  simp
theorem set_rows {w : World} {R i : Nat} {vs : List Value} {T : TypeId} (h : w.heap[R]? = some (.cells vs.toArray T (0, 0))) (v : Value) : (w.setCell ⟨R, i, none⟩ v).heap[R]? = some (.cells (vs.set i v).toArray T (0, 0)) := by
  simp only [World.setCell, Array.getElem?_modify]
  rw [h]
  simp

/-- the nodes laid to the rows of their depths -/
def addL (rs : Nat → List Int) (l : List Int) : Nat → List Int := fun i => rs i ++ l.filter (fun p => decide (At i p))
theorem addL_nil (rs : Nat → List Int) : addL rs [] = rs := by funext i; simp [addL]
theorem addL_snoc (rs : Nat → List Int) (l : List Int) {d : Nat} {p : Int} (h : At d p) : addL rs (l ++ [p]) = fun i => if i = d then addL rs l d ++ [p] else addL rs l i := by
  funext i
  unfold addL
  rw [List.filter_append, ← List.append_assoc]
  by_cases e : i = d
  · subst e; rw [if_pos rfl]; simp [h]
  · have : ¬ At i p := fun k => e (k.same h)
    rw [if_neg e]; simp [this]

/-- 'append(s, x)' of one integer, s own, at a step of a region that draws its order -/
theorem step_addX {P : Program} {w : World} {ops : Array Oper} {o : Oper} {a : Act} {K : Act → World → Prop} {Q : Exit → Act → World → Prop} {E : Prop} (hgd : o.guard = none) (s x : Operand) (t : TypeId)
    (ho : o.op = .call { callee := .builtin .append, args := #[s, x], argTypes := #[t, t] })
    (h1 : P.underlying t = some (.slice 3)) (h2 : (P.info? 3).map (fun i => (i.zero, i.size, i.bytes)) = some (some (.int .i64 0), 1, 8))
    {v : Value} {n : Nat} {xs : List Int} (hs : a.eval s = v) (hown : OwnI w 0 3 v n xs) {z : Int} (hx : a.eval x = .slice (some ⟨w.heap.size, 0, none⟩) 1 1) (hn : n ≤ 9000000000000)
    (h : ∀ g cap w', OwnI w' 0 3 (.slice (some ⟨g, 0, none⟩) (n + 1) cap) (n + 1) (xs ++ [z]) → (w.alloc (.cells #[.int .i64 z] 3)).grownBy w' v.ownBlock → (v.ownBlock = some g ∨ g = w.heap.size + 1) → K (a.put o.dst (.slice (some ⟨g, 0, none⟩) (n + 1) cap)) w') :
    if Region.wanted o (yielded ops a.tmps) = true then Oper.wp P o a (w.alloc (.cells #[.int .i64 z] 3)) K Q else E := by
  obtain ⟨i0, hi, hz0, hz1, hz2⟩ := info_parts h2
  have hown' : (w.alloc (.cells #[.int .i64 z] 3)).ownsRow 0 3 1 v n (xs.map fun z => Value.int .i64 z) := World.ownsRow.alloc hown _
  refine step_append_lies _ hgd s x t ho 0 3 i0 (.int .i64 0) 1 8 h1 hi hz0 hz1 hz2 rfl (by decide) v n _ hs hown' ⟨w.heap.size, 0, none⟩ 1 1 [.int .i64 z] hx rfl ?_ ?_ (by omega) (by unfold maxLen; omega) (by omega) (by omega) (w.heap.size + 1) (by simp) ?_
  · intro j u hj
    match j, hj with
    | 0, hj => simp at hj; subst hj; simp [Addr.add]
  · intro u hu; simp at hu; subst hu; rfl
  · intro g cap w' hr hg hat _
    refine h g cap w' ?_ hg hat
    unfold OwnI
    rw [List.map_append]
    exact hr
end Go.Proofs.Ythjmiimkplhffaa
