/- Part 1 of the contracts: BWords, BBed, BBed2, BBed3, BTick. -/
import Derived.WalkKit
import Derived.Lib.Hide
import Derived.WalkSpells
import Derived.WalkLawsBesides
import Derived.BigQuiet
import Derived.Deep.QuietTactic
import Derived.Laws.CopyOwn
import Derived.Deep.DeepCutAuto
import Derived.RegionTactic
import Derived.ChangeAlike
import Derived.Test.YtcbbdbglbfnbpaaProg
import Derived.IntWalk

/- Words for memory: a slice that reads as a row of integers; an own slice of integers that is appended to. No function of the program is walked here. -/
set_option linter.unusedVariables false
namespace Go.Proofs.Ytcbbdbglbfnbpaa
open Go.RowKit

/-- The slice (ao, len) reads as the integers xs. -/
def Il (w : World) (ao : Option Addr) (len : Nat) (xs : List Int) : Prop :=
  xs.length = len ∧ ∃ b off, (0 < len → ao = some ⟨b, off, none⟩) ∧ ∀ i, i < len → w.cell? ⟨b, off + i, none⟩ = some (.int .i64 (xs[i]?.getD 0))

theorem Il.nil (w : World) (ao : Option Addr) : Il w ao 0 [] := ⟨rfl, 0, 0, fun h => by omega, fun i hi => by omega⟩
theorem Il.len {w : World} {ao : Option Addr} {len : Nat} {xs : List Int} (h : Il w ao len xs) : xs.length = len := h.1
theorem Il.keep {w w' : World} {ao : Option Addr} {len : Nat} {xs : List Int} (h : Il w ao len xs) (hb : Below w.heap.size w w') : Il w' ao len xs := by
  obtain ⟨h1, b, off, h2, h3⟩ := h
  exact ⟨h1, b, off, h2, fun i hi => cell_later hb (h3 i hi)⟩
theorem Il.drewN {w : World} {ao : Option Addr} {len : Nat} {xs : List Int} (h : Il w ao len xs) (n : Nat) : Il (w.drewN n) ao len xs := h
theorem Il.drew {w : World} {ao : Option Addr} {len : Nat} {xs : List Int} (h : Il w ao len xs) : Il w.drew ao len xs := h
/-- the block and the place of a slice that is not empty -/
theorem Il.at {w : World} {ao : Option Addr} {len : Nat} {xs : List Int} (h : Il w ao len xs) (h0 : 0 < len) : ∃ b off, ao = some ⟨b, off, none⟩ ∧ ∀ i, i < len → w.cell? ⟨b, off + i, none⟩ = some (.int .i64 (xs[i]?.getD 0)) := by
  obtain ⟨h1, b, off, h2, h3⟩ := h
  exact ⟨b, off, h2 h0, h3⟩

/-- The slice (v, n) starts at the head of a block of the call's own (from block base on) whose first cells are the integers xs; it may be written and appended to. -/
def OwnI (w : World) (base e : Nat) (v : Value) (n : Nat) (xs : List Int) : Prop := w.ownsRow base e 1 v n (xs.map fun z => Value.int .i64 z)

theorem OwnI.len {w : World} {base e n : Nat} {v : Value} {xs : List Int} (h : OwnI w base e v n xs) : xs.length = n := by
  have := h.1
  simpa using this
theorem OwnI.nil (w : World) (base e : Nat) : OwnI w base e (.slice none 0 0) 0 [] := World.ownsRow_nil _ _ _ _
theorem OwnI.ge {w : World} {base e n : Nat} {v : Value} {xs : List Int} (h : OwnI w base e v n xs) : ∀ b, v.ownBlock = some b → base ≤ b := fun b hb => (World.ownsRow.lt h b hb).1
theorem OwnI.later {w w' : World} {base e n : Nat} {v : Value} {xs : List Int} (h : OwnI w base e v n xs) (hb : Below w.heap.size w w') : OwnI w' base e v n xs := by
  refine ⟨h.1, ?_⟩
  rcases h.2 with h2 | ⟨g, cap, cur, h3, h4, h5, h6⟩
  · exact .inl h2
  · exact .inr ⟨g, cap, cur, h3, h4, (hb.block g (Array.getElem?_eq_some_iff.1 h5).1).trans h5, h6⟩
theorem OwnI.base {w : World} {base base' e n : Nat} {v : Value} {xs : List Int} (h : OwnI w base e v n xs) (hb : base' ≤ base) : OwnI w base' e v n xs := by
  refine ⟨h.1, ?_⟩
  rcases h.2 with h2 | ⟨g, cap, cur, h3, h4, h5⟩
  · exact .inl h2
  · exact .inr ⟨g, cap, cur, h3, by omega, h5⟩

/-- It is a slice (of no block, or of one) that reads as the integers. -/
theorem OwnI.il {w : World} {base e n : Nat} {v : Value} {xs : List Int} (h : OwnI w base e v n xs) : ∃ ao cap, v = .slice ao n cap ∧ n ≤ cap ∧ cap ≤ maxLen ∧ Il w ao n xs := by
  have hl := h.len
  rcases h.2 with ⟨rfl, rfl⟩ | ⟨g, cap, cur, rfl, hb, hg, hnc, hcm, hcs, htake⟩
  · obtain rfl := List.eq_nil_of_length_eq_zero hl
    exact ⟨none, 0, rfl, Nat.le_refl _, Nat.zero_le _, Il.nil _ _⟩
  · refine ⟨_, cap, rfl, hnc, hcm, hl, g, 0, fun _ => rfl, fun i hi => ?_⟩
    have := World.ownsRow.cellAt h i (by simp; omega)
    rw [Nat.zero_add, this]
    simp [List.getElem?_eq_getElem (show i < xs.length by omega)]

/-- 'append(s, x)' of one integer, s the call's own -/
theorem wpList_appI {P : Program} {w : World} {ops : Array Oper} {rest : List Oper} {o : Oper} {a : Act} {Q : Exit → Act → World → Prop} (hgd : o.guard = none) (s x : Operand) (t : TypeId)
    (ho : o.op = .call { callee := .builtin .append, args := #[s, x], argTypes := #[t, t] }) (base e : Nat) (bytes : Nat)
    (h1 : P.underlying t = some (.slice e)) (h2 : (P.info? e).map (fun i => (i.zero, i.size, i.bytes)) = some (some (.int .i64 0), 1, bytes))
    (v : Value) (n : Nat) (xs : List Int) (hs : a.eval s = v) (hown : OwnI w base e v n xs) (V : Int) (hx : a.eval x = .slice (some ⟨w.heap.size, 0, none⟩) 1 1)
    (hn : n ≤ 9000000000000) (hby : bytes ≤ 8) (hbase : base ≤ w.heap.size)
    (h : ∀ v' w', OwnI w' base e v' (n + 1) (xs ++ [V]) → Below base w w' → wpList P ops Q rest (a.put o.dst v') w') :
    wpList P ops Q (o :: rest) a (w.alloc (.cells #[.int .i64 V] e)) := by
  obtain ⟨i0, hi, hz0, hz1, hz2⟩ := info_parts h2
  have hown' : (w.alloc (.cells #[.int .i64 V] e)).ownsRow base e 1 v n (xs.map fun z => Value.int .i64 z) := World.ownsRow.alloc hown _
  have hb : (n + 1) * bytes ≤ 140737488355328 := by
    have : (n + 1) * bytes ≤ (n + 1) * 8 := Nat.mul_le_mul_left _ hby
    omega
  refine wpList_append_own _ hgd s x t ho base e i0 (.int .i64 0) 1 bytes h1 hi hz0 hz1 hz2 rfl (by decide) v n _ hs hown' ⟨w.heap.size, 0, none⟩ 1 1 [.int .i64 V] hx rfl ?_ ?_ (by unfold maxLen; omega) hb (by simp; omega) ?_
  · intro j u hj
    match j, hj with
    | 0, hj => simp at hj; subst hj; simp [Addr.add]
  · intro u hu; simp at hu; subst hu; rfl
  · intro v' w' hr hg _
    refine h v' w' ?_ ?_
    · unfold OwnI
      rw [List.map_append]
      exact hr
    · exact ((Below.refl base w).alloc hbase _).grown hg (by simp; omega) hown.ge

/-- 'append(s, xs...)' of a row of integers, s the call's own -/
theorem wpList_appRow {P : Program} {w : World} {ops : Array Oper} {rest : List Oper} {o : Oper} {a : Act} {Q : Exit → Act → World → Prop} (hgd : o.guard = none) (s x : Operand) (t : TypeId)
    (ho : o.op = .call { callee := .builtin .append, args := #[s, x], argTypes := #[t, t] }) (base e : Nat) (bytes : Nat)
    (h1 : P.underlying t = some (.slice e)) (h2 : (P.info? e).map (fun i => (i.zero, i.size, i.bytes)) = some (some (.int .i64 0), 1, bytes))
    (v : Value) (n : Nat) (xs : List Int) (hs : a.eval s = v) (hown : OwnI w base e v n xs) (ao : Option Addr) (m c : Nat) (ys : List Int) (hx : a.eval x = .slice ao m c) (hil : Il w ao m ys) (h0 : 0 < m)
    (hn : n + m ≤ 9000000000000) (hby : bytes ≤ 8) (hbase : base ≤ w.heap.size)
    (h : ∀ v' w', OwnI w' base e v' (n + m) (xs ++ ys) → Below base w w' → wpList P ops Q rest (a.put o.dst v') w') :
    wpList P ops Q (o :: rest) a w := by
  obtain ⟨i0, hi, hz0, hz1, hz2⟩ := info_parts h2
  have hb : (n + m) * bytes ≤ 140737488355328 := by
    have : (n + m) * bytes ≤ (n + m) * 8 := Nat.mul_le_mul_left _ hby
    omega
  have hl := hil.len
  obtain ⟨b, off, rfl, hc⟩ := hil.at h0
  refine wpList_append_own _ hgd s x t ho base e i0 (.int .i64 0) 1 bytes h1 hi hz0 hz1 hz2 rfl (by decide) v n _ hs hown ⟨b, off, none⟩ m c (ys.map fun z => Value.int .i64 z) hx (by simp [hl]) ?_ ?_ (by unfold maxLen; omega) hb hbase ?_
  · intro j u hj
    have hj' : j < ys.length := by
      have := (List.getElem?_eq_some_iff.1 hj).1
      simpa using this
    have e1 : ((⟨b, off, none⟩ : Addr).add j) = ⟨b, off + j, none⟩ := by unfold Addr.add; split <;> simp_all
    rw [e1, hc j (by omega)]
    rw [List.getElem?_map, List.getElem?_eq_getElem hj'] at hj
    rw [List.getElem?_eq_getElem hj']
    simpa using hj
  · intro u hu
    simp at hu
    obtain ⟨z, _, rfl⟩ := hu
    rfl
  · intro v' w' hr hg _
    refine h v' w' ?_ ?_
    · unfold OwnI
      rw [List.map_append]
      exact hr
    · exact (Below.refl base w).grown hg hbase hown.ge

/-- later, by draws alone -/
def Drew (w w' : World) : Prop := ∃ k, w' = w.drewN k
theorem Drew.refl (w : World) : Drew w w := ⟨0, rfl⟩
theorem Drew.more {w w' : World} (h : Drew w w') (k : Nat) : Drew w (w'.drewN k) := by
  obtain ⟨j, rfl⟩ := h
  exact ⟨j + k, by simp [World.drewN, Nat.add_assoc]⟩
theorem Drew.cell {w w' : World} (h : Drew w w') (a : Addr) : w'.cell? a = w.cell? a := by obtain ⟨k, rfl⟩ := h; rfl
theorem Drew.below {B : Nat} {w w' : World} (h : Drew w w') : Below B w w' := by obtain ⟨k, rfl⟩ := h; exact below_drewN (Below.refl _ _) k
theorem Drew.size {w w' : World} (h : Drew w w') : w'.heap.size = w.heap.size := by obtain ⟨k, rfl⟩ := h; rfl
theorem Drew.trans {w w' w'' : World} (h : Drew w w') (h' : Drew w' w'') : Drew w w'' := by obtain ⟨k, rfl⟩ := h'; exact h.more k
theorem Il.of_drew {w w' : World} {ao : Option Addr} {len : Nat} {xs : List Int} (h : Il w ao len xs) (hd : Drew w w') : Il w' ao len xs := by obtain ⟨k, rfl⟩ := hd; exact h
theorem below_then {w w1 w2 : World} (h : Below w.heap.size w w1) (k : Below w1.heap.size w1 w2) : Below w.heap.size w w2 := h.trans (k.mono h.size)
theorem below_drewN1 {B : Nat} {a w : World} (h : Below B a w) (n : Nat) : Below B a (w.drewN n) := below_drewN h n

/-- a list of integers is returned -/
def OutL (W : World) (zs : List Int) (e : Ending) (w' : World) : Prop :=
  ∃ ao cap, e = .returned (.slice ao zs.length cap) ∧ zs.length ≤ cap ∧ cap ≤ maxLen ∧ Il w' ao zs.length zs ∧ Below W.heap.size W w'

theorem retI {a b : Int} (h : a = b) : Ending.returned (.int .i64 a) = .returned (.int .i64 b) := by rw [h]
theorem retB {a b : Bool} (h : a = b) : Ending.returned (.bool a) = .returned (.bool b) := by rw [h]
end Go.Proofs.Ytcbbdbglbfnbpaa

/- The specification's Right, Bed, Within, Sum. -/
set_option linter.unusedVariables false
set_option linter.unusedSimpArgs false
namespace Go.Proofs.Ytcbbdbglbfnbpaa
open Go.RowKit

/-- a bed -/
def Bedly (xs : List Int) : Prop := 1 ≤ xs.length ∧ xs.length ≤ 64 ∧ ∀ i, i < xs.length → 0 ≤ xs[i]?.getD 0 ∧ xs[i]?.getD 0 ≤ 1048576

/-- all from low to high -/
def In (low high : Int) (xs : List Int) : Prop := ∀ i, i < xs.length → low ≤ xs[i]?.getD 0 ∧ xs[i]?.getD 0 ≤ high

/-- a valid grain -/
def Grainy (n d l : Int) : Prop := 1 ≤ d ∧ d ≤ 1048576 ∧ 0 ≤ n ∧ 0 ≤ l ∧ n ≤ d ∧ l ≤ d ∧ 2 * n + l ≤ d

def YesNo (p : Prop) (W : World) (e : Ending) (w' : World) : Prop := ((p ∧ e = .returned (.bool true)) ∨ (¬ p ∧ e = .returned (.bool false))) ∧ w' = W

set_option maxHeartbeats 800000 in
theorem bed_any (ao : Option Addr) (la ca : Nat) (xs : List Int) (W : World) (hs : Il W ao la xs) (hla : la ≤ 9223372036854775807) :
    Calls Try.prog 15 #[.slice ao la ca] W (YesNo (Bedly xs) W) := by
  have HS := Lib.hid hs
  have HL := Lib.hid hs.len
  clear hs
  go_enter Try.func15, Try.ntmps15
  by_cases g1 : la < 1
  · have t1 : (la : Int) < 1 := by omega
    go_wp2
    go_ret
    exact ⟨.inr ⟨fun h => by have := h.1; rw [HL.out] at this; omega, rfl⟩, rfl⟩
  · have t1 : ¬ (la : Int) < 1 := by omega
    by_cases g2 : 64 < la
    · have t2 : (64 : Int) < (la : Int) := by omega
      go_wp2
      go_ret
      exact ⟨.inr ⟨fun h => by have := h.2.1; rw [HL.out] at this; omega, rfl⟩, rfl⟩
    · have t2 : ¬ (64 : Int) < (la : Int) := by omega
      go_wp2
      go_loop [3] (fun t => ∃ i : Nat, i ≤ la ∧ t = .int .i64 (i : Int) ∧ ∀ j, j < i → 0 ≤ xs[j]?.getD 0 ∧ xs[j]?.getD 0 ≤ 1048576) (fun t => la - (intOf t).toNat)
      case atStart => exact ⟨0, by omega, rfl, fun j hj => absurd hj (by omega)⟩
      case round =>
        obtain ⟨i, hi, rfl, hall⟩ := hrel
        have HA := Lib.hid hall
        clear hall
        by_cases h1 : i < la
        · have u1 : (i : Int) < (la : Int) := by omega
          have u0 : (0 : Int) ≤ (i : Int) := by omega
          obtain ⟨b, off, rfl, hc⟩ := HS.out.at (by omega)
          have hci := hc i h1
          obtain ⟨x, hx⟩ : ∃ x, x = xs[i]?.getD 0 := ⟨_, rfl⟩
          rw [← hx] at hci
          have HX := Lib.hid hx
          clear hc hx
          by_cases c1 : x < 0
          · go_wp2
            go_ret
            exact ⟨.inr ⟨fun h => by have := h.2.2 i (by rw [HL.out]; omega); rw [← HX.out] at this; omega, rfl⟩, rfl⟩
          · by_cases c2 : 1048576 < x
            · go_wp2
              go_ret
              exact ⟨.inr ⟨fun h => by have := h.2.2 i (by rw [HL.out]; omega); rw [← HX.out] at this; omega, rfl⟩, rfl⟩
            · go_wp2
              go_round
              case rel =>
                refine ⟨i + 1, by omega, by go_num, fun j hj => ?_⟩
                rcases Nat.lt_succ_iff_lt_or_eq.1 hj with hj | rfl
                · exact HA.out j hj
                · rw [← HX.out]; omega
              case measure => simp only [intOf]; omega
        · have u1 : ¬ (i : Int) < (la : Int) := by omega
          go_wp2
          go_ret
          exact ⟨.inl ⟨⟨by rw [HL.out]; omega, by rw [HL.out]; omega, fun j hj => HA.out j (by rw [HL.out] at hj; omega)⟩, rfl⟩, rfl⟩

set_option maxHeartbeats 800000 in
theorem within_any (ao : Option Addr) (la ca : Nat) (low high : Int) (xs : List Int) (W : World) (hs : Il W ao la xs) (hla : la ≤ 9223372036854775807) :
    Calls Try.prog 30 #[.slice ao la ca, .int .i64 low, .int .i64 high] W (YesNo (In low high xs) W) := by
  have HS := Lib.hid hs
  have HL := Lib.hid hs.len
  clear hs
  go_enter Try.func30, Try.ntmps30
  go_wp2
  go_loop [7] (fun t => ∃ i : Nat, i ≤ la ∧ t = .int .i64 (i : Int) ∧ ∀ j, j < i → low ≤ xs[j]?.getD 0 ∧ xs[j]?.getD 0 ≤ high) (fun t => la - (intOf t).toNat)
  case atStart => exact ⟨0, by omega, rfl, fun j hj => absurd hj (by omega)⟩
  case round =>
    obtain ⟨i, hi, rfl, hall⟩ := hrel
    have HA := Lib.hid hall
    clear hall
    by_cases h1 : i < la
    · have u1 : (i : Int) < (la : Int) := by omega
      have u0 : (0 : Int) ≤ (i : Int) := by omega
      obtain ⟨b, off, rfl, hc⟩ := HS.out.at (by omega)
      have hci := hc i h1
      obtain ⟨x, hx⟩ : ∃ x, x = xs[i]?.getD 0 := ⟨_, rfl⟩
      rw [← hx] at hci
      have HX := Lib.hid hx
      clear hc hx
      by_cases c1 : x < low
      · go_wp2
        go_ret
        exact ⟨.inr ⟨fun h => by have := h i (by rw [HL.out]; omega); rw [← HX.out] at this; omega, rfl⟩, rfl⟩
      · by_cases c2 : high < x
        · go_wp2
          go_ret
          exact ⟨.inr ⟨fun h => by have := h i (by rw [HL.out]; omega); rw [← HX.out] at this; omega, rfl⟩, rfl⟩
        · go_wp2
          go_round
          case rel =>
            refine ⟨i + 1, by omega, by go_num, fun j hj => ?_⟩
            rcases Nat.lt_succ_iff_lt_or_eq.1 hj with hj | rfl
            · exact HA.out j hj
            · rw [← HX.out]; omega
          case measure => simp only [intOf]; omega
    · have u1 : ¬ (i : Int) < (la : Int) := by omega
      go_wp2
      go_ret
      exact ⟨.inl ⟨fun j hj => HA.out j (by rw [HL.out] at hj; omega), rfl⟩, rfl⟩

theorem take_sum (xs : List Int) (i : Nat) : (xs.take (i + 1)).sum = (xs.take i).sum + xs[i]?.getD 0 := by
  by_cases hi : i < xs.length
  · rw [List.take_succ_eq_append_getElem hi, List.getElem?_eq_getElem hi, List.sum_append]; simp
  · rw [List.take_of_length_le (by omega), List.take_of_length_le (by omega), List.getElem?_eq_none (by omega)]; simp

theorem sum_bound {M : Int} (hM : 0 ≤ M) : ∀ {xs : List Int}, (∀ i, i < xs.length → -M ≤ xs[i]?.getD 0 ∧ xs[i]?.getD 0 ≤ M) → -(M * xs.length) ≤ xs.sum ∧ xs.sum ≤ M * xs.length
  | [], _ => by simp
  | x :: xs, h => by
    have h0 := h 0 (by simp)
    have ih := sum_bound hM (xs := xs) (fun i hi => by have := h (i + 1) (by simpa using hi); simpa using this)
    simp only [List.getElem?_cons_zero, Option.getD_some] at h0
    simp only [List.sum_cons, List.length_cons, Int.natCast_add, Int.mul_add, Int.natCast_one, Int.mul_one]
    omega

set_option maxHeartbeats 800000 in
theorem sum_any (ao : Option Addr) (la ca : Nat) (xs : List Int) (W : World) (hs : Il W ao la xs) (hla : la ≤ 100000) (hb : ∀ i, i < xs.length → -4194304 ≤ xs[i]?.getD 0 ∧ xs[i]?.getD 0 ≤ 4194304) :
    Calls Try.prog 29 #[.slice ao la ca] W (fun e w' => e = .returned (.int .i64 xs.sum) ∧ w' = W) := by
  have HS := Lib.hid hs
  have HL := Lib.hid hs.len
  have HB := Lib.hid hb
  clear hs hb
  go_enter Try.func29, Try.ntmps29
  go_wp2
  go_loop [3, 4] (fun s t => ∃ i : Nat, i ≤ la ∧ t = .int .i64 (i : Int) ∧ s = .int .i64 (xs.take i).sum) (fun s t => la - (intOf t).toNat)
  case atStart => exact ⟨0, by omega, rfl, rfl⟩
  case round =>
    obtain ⟨i, hi, rfl, rfl⟩ := hrel
    by_cases h1 : i < la
    · have u1 : (i : Int) < (la : Int) := by omega
      have u0 : (0 : Int) ≤ (i : Int) := by omega
      obtain ⟨b, off, rfl, hc⟩ := HS.out.at (by omega)
      have hci := hc i h1
      obtain ⟨x, hx⟩ : ∃ x, x = xs[i]?.getD 0 := ⟨_, rfl⟩
      obtain ⟨s, hs⟩ : ∃ s, s = (xs.take i).sum := ⟨_, rfl⟩
      have k1 := HB.out i (by rw [HL.out]; omega)
      have k2 := sum_bound (M := 4194304) (by decide) (xs := xs.take i) (fun j hj => by
        have hj2 : j < i := by rw [List.length_take] at hj; omega
        have := HB.out j (by rw [HL.out]; omega)
        rwa [List.getElem?_take_of_lt hj2])
      have k3 : (xs.take i).length = i := by rw [List.length_take, HL.out]; omega
      have k4 := take_sum xs i
      rw [k3] at k2
      rw [← hx] at hci k1 k4
      rw [← hs] at k2 k4
      rw [← hs]
      have HX := Lib.hid hx
      have HK := Lib.hid k4
      clear hc hx hs k3 k4
      go_wp2
      go_round
      case rel => exact ⟨i + 1, by omega, by go_num, congrArg (Value.int .i64) HK.out.symm⟩
      case measure => simp only [intOf]; omega
    · have u1 : ¬ (i : Int) < (la : Int) := by omega
      have hE : xs.take i = xs := List.take_of_length_le (by rw [HL.out]; omega)
      rw [hE]
      go_wp2
      go_ret
      exact ⟨rfl, rfl⟩
end Go.Proofs.Ytcbbdbglbfnbpaa

/- The specification's Right, Same, Turn, Spread; the laws' helper copied. -/
set_option linter.unusedVariables false
set_option linter.unusedSimpArgs false
namespace Go.Proofs.Ytcbbdbglbfnbpaa
open Go.RowKit

def YesNoD (p : Prop) (W : World) (e : Ending) (w' : World) : Prop := ((p ∧ e = .returned (.bool true)) ∨ (¬ p ∧ e = .returned (.bool false))) ∧ Drew W w'

theorem list_eq {xs ys : List Int} (hl : xs.length = ys.length) (h : ∀ i, i < xs.length → xs[i]?.getD 0 = ys[i]?.getD 0) : xs = ys := by
  apply List.ext_getElem hl
  intro i h1 h2
  have := h i h1
  rwa [List.getElem?_eq_getElem h1, List.getElem?_eq_getElem h2] at this

set_option maxHeartbeats 1000000 in
theorem same_any (ao bo : Option Addr) (la lb ca cb : Nat) (xs ys : List Int) (W : World) (hs : Il W ao la xs) (ht : Il W bo lb ys) (hla : la ≤ 9223372036854775807) (hlb : lb ≤ 9223372036854775807) :
    Calls Try.prog 18 #[.slice ao la ca, .slice bo lb cb] W (YesNoD (xs = ys) W) := by
  have HS := Lib.hid hs
  have HT := Lib.hid ht
  have HL := Lib.hid hs.len
  have HM := Lib.hid ht.len
  clear hs ht
  go_enter Try.func18, Try.ntmps18
  by_cases g : la = lb
  · subst g
    have hbb : ((la : Int) != (la : Int)) = false := by simp
    go_wp2
    go_loopw [5] (fun t wr => ∃ i : Nat, i ≤ la ∧ t = .int .i64 (i : Int) ∧ (∀ j, j < i → xs[j]?.getD 0 = ys[j]?.getD 0) ∧ Drew W wr) (fun t _ => la - (intOf t).toNat)
    case atStart => exact ⟨0, by omega, rfl, fun j hj => absurd hj (by omega), Drew.refl _⟩
    case round =>
      obtain ⟨i, hi, rfl, hall, hw⟩ := hrel
      have HA := Lib.hid hall
      have HW := Lib.hid hw
      clear hall hw
      by_cases h1 : i < la
      · have u1 : (i : Int) < (la : Int) := by omega
        have u0 : (0 : Int) ≤ (i : Int) := by omega
        obtain ⟨b, off, rfl, hc⟩ := HS.out.at (by omega)
        obtain ⟨b', off', rfl, hc'⟩ := HT.out.at (by omega)
        have hci := (HW.out.cell _).trans (hc i h1)
        have hci' := (HW.out.cell _).trans (hc' i h1)
        obtain ⟨x, hx⟩ : ∃ x, x = xs[i]?.getD 0 := ⟨_, rfl⟩
        obtain ⟨y, hy⟩ : ∃ x, x = ys[i]?.getD 0 := ⟨_, rfl⟩
        rw [← hx] at hci
        rw [← hy] at hci'
        have HX := Lib.hid hx
        have HY := Lib.hid hy
        clear hc hc' hx hy
        by_cases c : x = y
        · subst c
          have hbb2 : (x != x) = false := by simp
          go_wp2
          go_quiet (fail)
          go_wp2
          go_roundw
          case rel =>
            refine ⟨i + 1, by omega, by go_num, fun j hj => ?_, HW.out.more _⟩
            rcases Nat.lt_succ_iff_lt_or_eq.1 hj with hj | rfl
            · exact HA.out j hj
            · rw [← HX.out, ← HY.out]
          case measure => simp only [intOf]; omega
        · have hbb2 : (x != y) = true := by simp [c]
          go_wp2
          go_quiet (fail)
          go_wp2
          go_ret
          exact ⟨.inr ⟨fun h => c (by rw [HX.out, HY.out, h]), rfl⟩, HW.out.more _⟩
      · have u1 : ¬ (i : Int) < (la : Int) := by omega
        go_wp2
        go_ret
        exact ⟨.inl ⟨list_eq (by rw [HL.out, HM.out]) (fun j hj => HA.out j (by rw [HL.out] at hj; omega)), rfl⟩, HW.out⟩
  · have hbb : ((la : Int) != (lb : Int)) = true := by simp; omega
    go_wp2
    go_ret
    exact ⟨.inr ⟨fun h => g (by rw [← HL.out, ← HM.out, h]), rfl⟩, Drew.refl _⟩

theorem own_all {w : World} {base e la : Nat} {v : Value} {xs : List Int} (h : OwnI w base e v (la - 0) (xs.drop 0).reverse) (hl : xs.length = la) : OwnI w base e v xs.reverse.length xs.reverse := by
  rw [List.drop_zero, show la - 0 = xs.reverse.length by rw [List.length_reverse, hl]; omega] at h
  exact h

theorem rev_step {xs : List Int} {j : Nat} (hj : j < xs.length) : (xs.drop (j + 1)).reverse ++ [xs[j]?.getD 0] = (xs.drop j).reverse := by
  rw [List.drop_eq_getElem_cons hj, List.reverse_cons, List.getElem?_eq_getElem hj]; rfl

set_option maxHeartbeats 1000000 in
theorem turn_any (ao : Option Addr) (la ca : Nat) (xs : List Int) (W : World) (hs : Il W ao la xs) (hla : la ≤ 1000000) :
    Calls Try.prog 26 #[.slice ao la ca] W (OutL W xs.reverse) := by
  have HS := Lib.hid hs
  have HL := Lib.hid hs.len
  clear hs
  go_enter Try.func26, Try.ntmps26
  go_wp2
  go_loopw [3, 4] (fun ov t wr => ∃ i : Nat, i ≤ la ∧ t = .int .i64 ((i : Int) - 1) ∧ OwnI wr W.heap.size 3 ov (la - i) (xs.drop i).reverse ∧ Below W.heap.size W wr) (fun ov t _ => (intOf t + 1).toNat)
  case atStart =>
    refine ⟨la, by omega, rfl, ?_, Below.refl _ _⟩
    rw [List.drop_of_length_le (by rw [HL.out]; omega), Nat.sub_self]
    exact OwnI.nil _ _ _
  case round =>
    obtain ⟨i, hi, rfl, hown, hbel⟩ := hrel
    have GO := Lib.hid hown
    have GW := Lib.hid hbel
    clear hown hbel
    by_cases h1 : i = 0
    · subst h1
      have GO' := Lib.hid (own_all GO.out HL.out)
      obtain ⟨oo, cap, rfl, hlc, hcm, hsl⟩ := GO'.out.il
      have HSL := Lib.hid hsl
      clear hsl GO GO'
      go_wp2
      go_ret
      exact ⟨_, _, rfl, hlc, hcm, HSL.out, GW.out⟩
    · obtain ⟨j, rfl⟩ : ∃ j, i = j + 1 := ⟨i - 1, by omega⟩
      have e1 : (((j + 1 : Nat) : Int) - 1) = (j : Int) := by omega
      rw [e1]
      have u0 : (0 : Int) ≤ (j : Int) := by omega
      have u1 : (j : Int) < (la : Int) := by omega
      obtain ⟨b, off, rfl, hc⟩ := (HS.out.keep GW.out).at (by omega)
      have hci := hc j (by omega)
      obtain ⟨x, hx⟩ : ∃ x, x = xs[j]?.getD 0 := ⟨_, rfl⟩
      rw [← hx] at hci
      have HX := Lib.hid hx
      clear hc hx e1
      go_wp2_with (at_builtin; refine wpList_appI rfl _ _ 24 rfl W.heap.size 3 8 Try.underlying24 (by kernel_rfl) _ (la - (j + 1)) _ rfl GO.out x rfl (by omega) (by omega) GW.out.size ?_; intro v' w2 hown' hbel')
      go_roundw
      case rel =>
        refine ⟨j, by omega, rfl, ?_, GW.out.trans hbel'⟩
        rw [HX.out, rev_step (by rw [HL.out]; omega)] at hown'
        rwa [show la - (j + 1) + 1 = la - j by omega] at hown'
      case measure => simp only [intOf]; omega

set_option maxHeartbeats 1000000 in
theorem copied_any (ao : Option Addr) (la ca : Nat) (xs : List Int) (W : World) (hs : Il W ao la xs) (h0 : 0 < la) (hla : la ≤ 1000000) :
    Calls Try.prog 13 #[.slice ao la ca] W (OutL W xs) := by
  have HS := Lib.hid hs
  have HL := Lib.hid hs.len
  clear hs
  go_enter Try.func13, Try.ntmps13
  have hown : OwnI (W.alloc (.cells #[] 3)) W.heap.size 3 (.slice (some ⟨W.heap.size, 0, none⟩) 0 0) 0 [] := by
    refine ⟨rfl, .inr ⟨W.heap.size, 0, #[], rfl, Nat.le_refl _, heap_alloc_new W _, Nat.le_refl _, Nat.zero_le _, rfl, rfl⟩⟩
  have hbe : Below W.heap.size W (W.alloc (.cells #[] 3)) := (Below.refl _ _).alloc (Nat.le_refl _) _
  have GO := Lib.hid hown
  have GB := Lib.hid hbe
  clear hown hbe
  go_wp2_with (at_builtin; refine wpList_appRow rfl _ _ 24 rfl W.heap.size 3 8 Try.underlying24 (by kernel_rfl) _ 0 [] rfl GO.out _ la _ xs rfl (HS.out.keep GB.out) h0 (by omega) (by omega) GB.out.size ?_; intro v' w2 hown' hbel')
  have GO' : Hid (OwnI w2 W.heap.size 3 v' xs.length xs) := by
    have := hown'
    rwa [Nat.zero_add, List.nil_append, ← HL.out] at this
  obtain ⟨oo, cap, rfl, hlc, hcm, hsl⟩ := GO'.out.il
  have HSL := Lib.hid hsl
  have HBL := Lib.hid (GB.out.trans hbel')
  clear hsl hown' hbel'
  go_wp2
  go_ret
  exact ⟨_, _, rfl, hlc, hcm, HSL.out, HBL.out⟩
end Go.Proofs.Ytcbbdbglbfnbpaa

/- The specification's Right, Spread, Steep. -/
set_option linter.unusedVariables false
set_option linter.unusedSimpArgs false
namespace Go.Proofs.Ytcbbdbglbfnbpaa
open Go.RowKit

def YesNoB (p : Prop) (W : World) (e : Ending) (w' : World) : Prop := ((p ∧ e = .returned (.bool true)) ∨ (¬ p ∧ e = .returned (.bool false))) ∧ Below W.heap.size W w'

set_option maxHeartbeats 1000000 in
theorem right_any (n d l : Int) (W : World) :
    Calls Try.prog 16 #[.agg #[.int .i64 n, .int .i64 d, .int .i64 l]] W (YesNoB (Grainy n d l) W) := by
  have hbe : Below W.heap.size W (W.alloc (.cells #[.int .i64 n, .int .i64 d, .int .i64 l] 23)) := (Below.refl _ _).alloc (Nat.le_refl _) _
  have GB := Lib.hid hbe
  clear hbe
  go_enter Try.func16, Try.ntmps16
  by_cases c1 : 1 ≤ d
  · by_cases c2 : d ≤ 1048576
    · by_cases c3 : 0 ≤ n
      · by_cases c4 : 0 ≤ l
        · by_cases c5 : n ≤ d
          · by_cases c6 : l ≤ d
            · by_cases c7 : 2 * n + l ≤ d
              · go_wp2
                go_ret
                exact ⟨.inl ⟨⟨c1, c2, c3, c4, c5, c6, c7⟩, rfl⟩, GB.out⟩
              · go_wp2
                go_ret
                exact ⟨.inr ⟨fun h => by have := h.2.2.2.2.2.2; omega, rfl⟩, GB.out⟩
            · go_wp2
              go_ret
              exact ⟨.inr ⟨fun h => by have := h.2.2.2.2.2.1; omega, rfl⟩, GB.out⟩
          · go_wp2
            go_ret
            exact ⟨.inr ⟨fun h => by have := h.2.2.2.2.1; omega, rfl⟩, GB.out⟩
        · go_wp2
          go_ret
          exact ⟨.inr ⟨fun h => by have := h.2.2.2.1; omega, rfl⟩, GB.out⟩
      · go_wp2
        go_ret
        exact ⟨.inr ⟨fun h => by have := h.2.2.1; omega, rfl⟩, GB.out⟩
    · go_wp2
      go_ret
      exact ⟨.inr ⟨fun h => by have := h.2.1; omega, rfl⟩, GB.out⟩
  · go_wp2
    go_ret
    exact ⟨.inr ⟨fun h => by have := h.1; omega, rfl⟩, GB.out⟩

/-- the least and the greatest of a row and of z -/
def lowZ (z : Int) (xs : List Int) : Int := xs.foldl min z
def highZ (z : Int) (xs : List Int) : Int := xs.foldl max z
def spreadL (xs : List Int) : Int := highZ (xs[0]?.getD 0) xs - lowZ (xs[0]?.getD 0) xs

theorem lowZ_step (z : Int) {xs : List Int} {i : Nat} (hi : i < xs.length) : lowZ z (xs.take (i + 1)) = min (lowZ z (xs.take i)) (xs[i]?.getD 0) := by
  unfold lowZ
  rw [List.take_succ_eq_append_getElem hi, List.foldl_append, List.getElem?_eq_getElem hi]; rfl
theorem highZ_step (z : Int) {xs : List Int} {i : Nat} (hi : i < xs.length) : highZ z (xs.take (i + 1)) = max (highZ z (xs.take i)) (xs[i]?.getD 0) := by
  unfold highZ
  rw [List.take_succ_eq_append_getElem hi, List.foldl_append, List.getElem?_eq_getElem hi]; rfl

/-- in range, as a word -/
def Tame (z : Int) : Prop := -1073741824 ≤ z ∧ z ≤ 1073741824

set_option maxHeartbeats 1000000 in
theorem spread_any (ao : Option Addr) (la ca : Nat) (xs : List Int) (W : World) (hs : Il W ao la xs) (h0 : 0 < la) (hla : la ≤ 1000000) (hb : ∀ i, i < xs.length → Tame (xs[i]?.getD 0)) :
    Calls Try.prog 27 #[.slice ao la ca] W (fun e w' => e = .returned (.int .i64 (spreadL xs)) ∧ Drew W w') := by
  have HS := Lib.hid hs
  have HL := Lib.hid hs.len
  have HB := Lib.hid hb
  clear hs hb
  obtain ⟨b, off, rfl, hc⟩ := HS.out.at h0
  have HC := Lib.hid hc
  have hc0 := hc 0 h0
  rw [Nat.add_zero] at hc0
  have k0 := HB.out 0 (by rw [HL.out]; omega)
  obtain ⟨z, hz⟩ : ∃ z, z = xs[0]?.getD 0 := ⟨_, rfl⟩
  rw [← hz] at hc0 k0
  have HZ := Lib.hid hz
  have K0 := Lib.hid k0
  clear hc hz k0
  have u3 : (0 : Int) < (la : Int) := by omega
  go_enter Try.func27, Try.ntmps27
  go_wp2
  go_quiet (fail)
  go_wp2
  go_loopw [3, 4, 5] (fun lv hv t wr => ∃ i : Nat, i ≤ la ∧ t = .int .i64 (i : Int) ∧ lv = .int .i64 (lowZ z (xs.take i)) ∧ hv = .int .i64 (highZ z (xs.take i)) ∧ Tame (lowZ z (xs.take i)) ∧ Tame (highZ z (xs.take i)) ∧ Drew W wr) (fun lv hv t _ => la - (intOf t).toNat)
  case atStart => exact ⟨0, by omega, rfl, rfl, rfl, K0.out, K0.out, (Drew.refl _).more _⟩
  case round =>
    obtain ⟨i, hi, rfl, rfl, rfl, k1, k2, hw⟩ := hrel
    have HW := Lib.hid hw
    clear hw
    by_cases h1 : i < la
    · have u1 : (i : Int) < (la : Int) := by omega
      have u0 : (0 : Int) ≤ (i : Int) := by omega
      have hci := (HW.out.cell _).trans (HC.out i h1)
      have kx := HB.out i (by rw [HL.out]; omega)
      have e1 := lowZ_step z (xs := xs) (i := i) (by rw [HL.out]; omega)
      have e2 := highZ_step z (xs := xs) (i := i) (by rw [HL.out]; omega)
      obtain ⟨x, hx⟩ : ∃ x, x = xs[i]?.getD 0 := ⟨_, rfl⟩
      obtain ⟨lo, hlo⟩ : ∃ x, x = lowZ z (xs.take i) := ⟨_, rfl⟩
      obtain ⟨hi2, hhi⟩ : ∃ x, x = highZ z (xs.take i) := ⟨_, rfl⟩
      rw [← hx] at hci kx e1 e2
      rw [← hlo] at e1 k1
      rw [← hhi] at e2 k2
      rw [← hlo, ← hhi]
      have E1 := Lib.hid e1
      have E2 := Lib.hid e2
      have KX := Lib.hid (⟨kx, k1, k2⟩ : Tame x ∧ Tame lo ∧ Tame hi2)
      clear hx hlo hhi e1 e2 kx k1 k2
      go_wp2
      go_roundw
      case rel =>
        refine ⟨i + 1, by omega, by go_num, congrArg (Value.int .i64) (by rw [E1.out]; split <;> omega), congrArg (Value.int .i64) (by rw [E2.out]; split <;> omega), ?_, ?_, HW.out⟩
        · rw [E1.out]
          have := KX.out
          unfold Tame at this ⊢
          omega
        · rw [E2.out]
          have := KX.out
          unfold Tame at this ⊢
          omega
      case measure => simp only [intOf]; omega
    · have u1 : ¬ (i : Int) < (la : Int) := by omega
      have hE : xs.take i = xs := List.take_of_length_le (by rw [HL.out]; omega)
      rw [hE] at k1 k2
      rw [hE]
      have HK := Lib.hid HZ.out
      unfold Tame at k1 k2
      obtain ⟨lo, hlo⟩ : ∃ x, x = lowZ z xs := ⟨_, rfl⟩
      obtain ⟨hi2, hhi⟩ : ∃ x, x = highZ z xs := ⟨_, rfl⟩
      rw [← hlo] at k1
      rw [← hhi] at k2
      rw [← hlo, ← hhi]
      have HE := Lib.hid (show hi2 - lo = spreadL xs by unfold spreadL; rw [hlo, hhi, HZ.out])
      clear hlo hhi
      go_wp2
      go_ret
      exact ⟨retI HE.out, HW.out⟩

/-- what a bed takes of the water, and what is left -/
def steepL (full : Int) : List Int → Int → List Int × Int
  | [], water => ([], water)
  | x :: xs, water => ((x + min water (max 0 (full - x))) :: (steepL full xs (water - min water (max 0 (full - x)))).1, (steepL full xs (water - min water (max 0 (full - x)))).2)

theorem steepL_take (full : Int) : ∀ (xs : List Int) (water : Int) (i : Nat), i < xs.length →
    (steepL full (xs.take (i + 1)) water).1 = (steepL full (xs.take i) water).1 ++ [xs[i]?.getD 0 + min (steepL full (xs.take i) water).2 (max 0 (full - xs[i]?.getD 0))] ∧
    (steepL full (xs.take (i + 1)) water).2 = (steepL full (xs.take i) water).2 - min (steepL full (xs.take i) water).2 (max 0 (full - xs[i]?.getD 0))
  | [], _, i, h => by simp at h
  | x :: xs, water, 0, h => by simp [steepL]
  | x :: xs, water, i + 1, h => by
    have ih := steepL_take full xs (water - min water (max 0 (full - x))) i (by simpa using h)
    simp only [List.take_succ_cons, steepL, List.getElem?_cons_succ, List.cons_append]
    exact ⟨by rw [ih.1], ih.2⟩

theorem steepL_len (full : Int) : ∀ (xs : List Int) (water : Int), (steepL full xs water).1.length = xs.length
  | [], _ => rfl
  | x :: xs, water => by simp only [steepL, List.length_cons, steepL_len full xs]

theorem steepL_left (full : Int) : ∀ (xs : List Int) (water : Int), 0 ≤ water → 0 ≤ (steepL full xs water).2 ∧ (steepL full xs water).2 ≤ water
  | [], water, h => ⟨h, Int.le_refl _⟩
  | x :: xs, water, h => by
    have := steepL_left full xs (water - min water (max 0 (full - x))) (by omega)
    simp only [steepL]
    omega

theorem steepL_sum (full : Int) : ∀ (xs : List Int) (water : Int), (steepL full xs water).1.sum + (steepL full xs water).2 = xs.sum + water
  | [], water => by simp [steepL]
  | x :: xs, water => by
    have := steepL_sum full xs (water - min water (max 0 (full - x)))
    simp only [steepL, List.sum_cons]
    omega

theorem OwnI.eqv {w : World} {base e n : Nat} {v : Value} {xs : List Int} {a b : Int} (h : OwnI w base e v n (xs ++ [a])) (hab : a = b) : OwnI w base e v n (xs ++ [b]) := hab ▸ h

theorem own_len {w : World} {base e i : Nat} {v : Value} {xs : List Int} {full water : Int} (h : OwnI w base e v i (steepL full (xs.take i) water).1) (he : xs.take i = xs) (hi : i = (steepL full xs water).1.length) :
    OwnI w base e v (steepL full xs water).1.length (steepL full xs water).1 := by
  rw [he] at h
  rw [← hi]
  exact h

def OutLI (W : World) (zs : List Int) (z : Int) (e : Ending) (w' : World) : Prop :=
  ∃ ao cap, e = .returned (.tuple #[.slice ao zs.length cap, .int .i64 z]) ∧ zs.length ≤ cap ∧ cap ≤ maxLen ∧ Il w' ao zs.length zs ∧ Below W.heap.size W w'

set_option maxHeartbeats 1000000 in
theorem steep_any (ao : Option Addr) (la ca : Nat) (full water : Int) (xs : List Int) (W : World) (hs : Il W ao la xs) (hla : la ≤ 1000000) (hb : ∀ i, i < xs.length → Tame (xs[i]?.getD 0)) (hf : Tame full) (hw0 : 0 ≤ water) (hw1 : water ≤ 9223372036854775807) :
    Calls Try.prog 28 #[.slice ao la ca, .int .i64 full, .int .i64 water] W (OutLI W (steepL full xs water).1 (steepL full xs water).2) := by
  have HS := Lib.hid hs
  have HL := Lib.hid hs.len
  have HB := Lib.hid hb
  have HLE := Lib.hid (steepL_len full xs water)
  unfold Tame at hf
  clear hs hb
  go_enter Try.func28, Try.ntmps28
  go_wp2
  go_loopw [2, 8, 9] (fun wv ov t wr => ∃ i : Nat, i ≤ la ∧ t = .int .i64 (i : Int) ∧ wv = .int .i64 (steepL full (xs.take i) water).2 ∧ OwnI wr W.heap.size 3 ov i (steepL full (xs.take i) water).1 ∧ Below W.heap.size W wr) (fun wv ov t _ => la - (intOf t).toNat)
  case atStart => exact ⟨0, by omega, rfl, rfl, OwnI.nil _ _ _, Below.refl _ _⟩
  case round =>
    obtain ⟨i, hi, rfl, rfl, hown, hbel⟩ := hrel
    have GO := Lib.hid hown
    have GW := Lib.hid hbel
    clear hown hbel
    by_cases h1 : i < la
    · have u1 : (i : Int) < (la : Int) := by omega
      have u0 : (0 : Int) ≤ (i : Int) := by omega
      obtain ⟨b, off, rfl, hc⟩ := (HS.out.keep GW.out).at (by omega)
      have hci := hc i (by omega)
      have kx := HB.out i (by rw [HL.out]; omega)
      have st := steepL_take full xs water i (by rw [HL.out]; omega)
      have kw := steepL_left full (xs.take i) water hw0
      obtain ⟨x, hx⟩ : ∃ x, x = xs[i]?.getD 0 := ⟨_, rfl⟩
      obtain ⟨q, hq⟩ : ∃ x, x = (steepL full (xs.take i) water).2 := ⟨_, rfl⟩
      rw [← hx] at hci kx st
      rw [← hq] at st kw
      rw [← hq]
      unfold Tame at kx
      have ST := Lib.hid st
      have HX := Lib.hid hx
      have HQ := Lib.hid hq
      clear hc hx hq st
      by_cases c2 : full - x ≤ 0
      · have c3 : ¬ 0 < full - x := by omega
        by_cases c5 : 0 < q
        · skip
          go_wp2_with (at_builtin; refine wpList_appI rfl _ _ 24 rfl W.heap.size 3 8 Try.underlying24 (by kernel_rfl) _ i _ rfl GO.out _ rfl (by omega) (by omega) GW.out.size ?_; intro v' w2 hown' hbel')
          go_roundw
          case rel =>
            refine ⟨i + 1, by omega, by go_num, congrArg (Value.int .i64) (by rw [ST.out.2]; omega), ?_, GW.out.trans hbel'⟩
            rw [ST.out.1]
            exact hown'.eqv (by omega)
          case measure => simp only [intOf]; omega
        · obtain rfl : q = 0 := by omega
          go_wp2_with (at_builtin; refine wpList_appI rfl _ _ 24 rfl W.heap.size 3 8 Try.underlying24 (by kernel_rfl) _ i _ rfl GO.out _ rfl (by omega) (by omega) GW.out.size ?_; intro v' w2 hown' hbel')
          go_roundw
          case rel =>
            refine ⟨i + 1, by omega, by go_num, congrArg (Value.int .i64) (by rw [ST.out.2]; omega), ?_, GW.out.trans hbel'⟩
            rw [ST.out.1]
            exact hown'.eqv (by omega)
          case measure => simp only [intOf]; omega
      · have c3 : 0 < full - x := by omega
        by_cases c5 : full - x < q
        · skip
          go_wp2_with (at_builtin; refine wpList_appI rfl _ _ 24 rfl W.heap.size 3 8 Try.underlying24 (by kernel_rfl) _ i _ rfl GO.out _ rfl (by omega) (by omega) GW.out.size ?_; intro v' w2 hown' hbel')
          go_roundw
          case rel =>
            refine ⟨i + 1, by omega, by go_num, congrArg (Value.int .i64) (by rw [ST.out.2]; omega), ?_, GW.out.trans hbel'⟩
            rw [ST.out.1]
            exact hown'.eqv (by omega)
          case measure => simp only [intOf]; omega
        · skip
          go_wp2_with (at_builtin; refine wpList_appI rfl _ _ 24 rfl W.heap.size 3 8 Try.underlying24 (by kernel_rfl) _ i _ rfl GO.out _ rfl (by omega) (by omega) GW.out.size ?_; intro v' w2 hown' hbel')
          go_roundw
          case rel =>
            refine ⟨i + 1, by omega, by go_num, congrArg (Value.int .i64) (by rw [ST.out.2]; omega), ?_, GW.out.trans hbel'⟩
            rw [ST.out.1]
            exact hown'.eqv (by omega)
          case measure => simp only [intOf]; omega
    · have u1 : ¬ (i : Int) < (la : Int) := by omega
      have hE : xs.take i = xs := List.take_of_length_le (by rw [HL.out]; omega)
      have GO' := Lib.hid (own_len GO.out hE (show i = (steepL full xs water).1.length by rw [HLE.out, HL.out]; omega))
      obtain ⟨oo, cap, rfl, hlc, hcm, hsl⟩ := GO'.out.il
      have HSL := Lib.hid hsl
      clear hsl GO GO'
      rw [hE]
      go_wp2
      exact bodyPost_ret (v := .tuple #[.slice oo (steepL full xs water).1.length cap, .int .i64 (steepL full xs water).2]) (by simp [results, Try.results28, go_sem]) rfl ⟨_, _, rfl, hlc, hcm, HSL.out, GW.out⟩
end Go.Proofs.Ytcbbdbglbfnbpaa

/- The specification's Tick. (By gen_tick.py.) -/
set_option linter.unusedVariables false
set_option linter.unusedSimpArgs false
namespace Go.Proofs.Ytcbbdbglbfnbpaa
open Go.RowKit

/-- what flows from a cell with x to the next one with y -/
def flow (n d x y : Int) : Int := ((x - y) * n).tdiv d
def lostL (d l : Int) (xs : List Int) : Int := ((xs[0]?.getD 0) * l).tdiv d
/-- the cell i after a tick -/
def cellT (n d l : Int) (xs : List Int) (i : Nat) : Int :=
  (if i = 0 then xs[0]?.getD 0 - lostL d l xs else xs[i]?.getD 0 + flow n d (xs[i - 1]?.getD 0) (xs[i]?.getD 0)) - (if i + 1 < xs.length then flow n d (xs[i]?.getD 0) (xs[i + 1]?.getD 0) else 0)
def tickL (n d l : Int) (xs : List Int) : List Int := (List.range xs.length).map (cellT n d l xs)

theorem tickL_len (n d l : Int) (xs : List Int) : (tickL n d l xs).length = xs.length := by simp [tickL]
theorem tickL_get (n d l : Int) (xs : List Int) (i : Nat) (hi : i < xs.length) : (tickL n d l xs)[i]?.getD 0 = cellT n d l xs i := by
  unfold tickL
  rw [List.getElem?_map, List.getElem?_range hi]; rfl
theorem tickL_take (n d l : Int) (xs : List Int) (i : Nat) (hi : i < xs.length) : (tickL n d l xs).take (i + 1) = (tickL n d l xs).take i ++ [cellT n d l xs i] := by
  have h : i < (tickL n d l xs).length := by rw [tickL_len]; exact hi
  rw [List.take_succ_eq_append_getElem h]
  have e := tickL_get n d l xs i hi
  rw [List.getElem?_eq_getElem h] at e
  rw [← e]; rfl

theorem mul_bound {p n : Int} (h1 : -1048576 ≤ p) (h2 : p ≤ 1048576) (h3 : 0 ≤ n) (h4 : n ≤ 1048576) : -1099511627776 ≤ p * n ∧ p * n ≤ 1099511627776 := by
  have a1 := Int.mul_le_mul_of_nonneg_right h2 h3
  have a2 := Int.mul_le_mul_of_nonneg_right h1 h3
  omega

/-- a part of a difference that is at most a half of it -/
theorem half_part {p n d : Int} (h3 : 0 ≤ n) (h5 : 1 ≤ d) (h6 : 2 * n ≤ d) : (0 ≤ p → 0 ≤ (p * n).tdiv d ∧ 2 * (p * n).tdiv d ≤ p) ∧ (p ≤ 0 → p ≤ 2 * (p * n).tdiv d ∧ (p * n).tdiv d ≤ 0) := by
  have key : ∀ p : Int, 0 ≤ p → 0 ≤ (p * n).tdiv d ∧ 2 * (p * n).tdiv d ≤ p := by
    intro p h0
    have h1 : 0 ≤ p * n := Int.mul_nonneg h0 h3
    rw [Int.tdiv_eq_ediv_of_nonneg h1]
    refine ⟨Int.ediv_nonneg h1 (by omega), ?_⟩
    have h2 : p * n / d * d ≤ p * n := Int.ediv_mul_le _ (by omega)
    have h7 : p * (2 * n) ≤ p * d := Int.mul_le_mul_of_nonneg_left h6 h0
    have h8 : 2 * (p * n / d) * d ≤ p * d := by
      have e1 : 2 * (p * n / d) * d = 2 * (p * n / d * d) := Int.mul_assoc _ _ _
      have e2 : p * (2 * n) = 2 * (p * n) := by rw [← Int.mul_assoc, Int.mul_comm p 2, Int.mul_assoc]
      omega
    exact Int.le_of_mul_le_mul_right h8 (by omega)
  refine ⟨key p, fun h => ?_⟩
  have := key (-p) (by omega)
  rw [Int.neg_mul, Int.neg_tdiv] at this
  omega

/-- a part of a moisture -/
theorem whole_part {p n d : Int} (h0 : 0 ≤ p) (h3 : 0 ≤ n) (h5 : 1 ≤ d) (h6 : n ≤ d) : 0 ≤ (p * n).tdiv d ∧ (p * n).tdiv d ≤ p := by
  have h1 : 0 ≤ p * n := Int.mul_nonneg h0 h3
  rw [Int.tdiv_eq_ediv_of_nonneg h1]
  refine ⟨Int.ediv_nonneg h1 (by omega), ?_⟩
  have h2 : p * n / d * d ≤ p * n := Int.ediv_mul_le _ (by omega)
  have h7 : p * n ≤ p * d := Int.mul_le_mul_of_nonneg_left h6 h0
  exact Int.le_of_mul_le_mul_right (Int.le_trans h2 h7) (by omega)

/-- a grain's own block -/
def Gr (w : World) (g : Nat) (n d l : Int) : Prop := w.heap[g]? = some (.cells #[.int .i64 n, .int .i64 d, .int .i64 l] 23 (0, 0))
theorem Gr.new (w : World) (n d l : Int) : Gr (w.alloc (.cells #[.int .i64 n, .int .i64 d, .int .i64 l] 23)) w.heap.size n d l := heap_alloc_new w _
theorem Gr.lt {w : World} {g : Nat} {n d l : Int} (h : Gr w g n d l) : g < w.heap.size := (Array.getElem?_eq_some_iff.1 h).1
theorem Gr.keep {w w' : World} {g : Nat} {n d l : Int} (h : Gr w g n d l) (hb : Below w.heap.size w w') : Gr w' g n d l := (hb.block g h.lt).trans h
theorem Gr.keepB {w w' : World} {g B : Nat} {n d l : Int} (h : Gr w g n d l) (hb : Below B w w') (hB : g < B) : Gr w' g n d l := (hb.block g hB).trans h
theorem Gr.c0 {w : World} {g : Nat} {n d l : Int} (h : Gr w g n d l) : w.cell? ⟨g, 0, none⟩ = some (.int .i64 n) := by
  simp only [World.cell?]
  rw [show w.heap[g]? = some (.cells #[.int .i64 n, .int .i64 d, .int .i64 l] 23 (0, 0)) from h]
  rfl
theorem Gr.c1 {w : World} {g : Nat} {n d l : Int} (h : Gr w g n d l) : w.cell? ⟨g, 1, none⟩ = some (.int .i64 d) := by
  simp only [World.cell?]
  rw [show w.heap[g]? = some (.cells #[.int .i64 n, .int .i64 d, .int .i64 l] 23 (0, 0)) from h]
  rfl
theorem Gr.c2 {w : World} {g : Nat} {n d l : Int} (h : Gr w g n d l) : w.cell? ⟨g, 2, none⟩ = some (.int .i64 l) := by
  simp only [World.cell?]
  rw [show w.heap[g]? = some (.cells #[.int .i64 n, .int .i64 d, .int .i64 l] 23 (0, 0)) from h]
  rfl
theorem OwnI.drewN {w : World} {base e n : Nat} {v : Value} {xs : List Int} (h : OwnI w base e v n xs) (k : Nat) : OwnI (w.drewN k) base e v n xs := h
theorem Gr.drewN {w : World} {g : Nat} {n d l : Int} (h : Gr w g n d l) (k : Nat) : Gr (w.drewN k) g n d l := h

def TickRel (la : Nat) (n d l : Int) (xs : List Int) (W : World) (ov t : Value) (wr : World) : Prop :=
  ∃ i : Nat, i ≤ la ∧ t = .int .i64 (i : Int) ∧ OwnI wr (W.heap.size + 1) 3 ov i ((tickL n d l xs).take i) ∧ Gr wr W.heap.size n d l ∧ Below W.heap.size W wr

theorem tick_next {la : Nat} {n d l : Int} {xs : List Int} {W wr w2 : World} {v : Value} {i : Nat} {V : Int} (hl : xs.length = la) (hi : i < la) (hg : Gr wr W.heap.size n d l) (hb : Below W.heap.size W wr)
    (hown : OwnI w2 (W.heap.size + 1) 3 v (i + 1) ((tickL n d l xs).take i ++ [V])) (hbel : Below (W.heap.size + 1) wr w2) (hV : V = cellT n d l xs i) (e : Int) (he : e = ((i + 1 : Nat) : Int)) : TickRel la n d l xs W v (.int .i64 e) w2 := by
  subst he
  refine ⟨i + 1, by omega, rfl, ?_, hg.keepB hbel (by omega), hb.trans (hbel.mono (by omega))⟩
  rw [tickL_take n d l xs i (by omega), ← hV]
  exact hown

theorem below_of_drewN {B k : Nat} {w w2 : World} (h : Below B (w.drewN k) w2) : Below B w w2 := (below_drewN (Below.refl B w) k).trans h

theorem tick_end {w : World} {base e i la : Nat} {v : Value} {n d l : Int} {xs : List Int} (h : OwnI w base e v i ((tickL n d l xs).take i)) (hl : xs.length = la) (hi : i = la) : OwnI w base e v (tickL n d l xs).length (tickL n d l xs) := by
  subst hi hl
  rw [List.take_of_length_le (by rw [tickL_len]; exact Nat.le_refl _)] at h
  rw [tickL_len]
  exact h

set_option maxHeartbeats 4000000 in
theorem tick_any (n d l : Int) (ao : Option Addr) (la ca : Nat) (xs : List Int) (W : World) (hs : Il W ao la xs) (hbed : Bedly xs) (hg : Grainy n d l) :
    Calls Try.prog 17 #[.agg #[.int .i64 n, .int .i64 d, .int .i64 l], .slice ao la ca] W (OutLI W (tickL n d l xs) (lostL d l xs)) := by
  have HL := Lib.hid hs.len
  have hla : 1 ≤ la ∧ la ≤ 64 := by have := hbed.1; have := hbed.2.1; have := hs.len; omega
  have HB := Lib.hid hbed.2.2
  have hbe : Below W.heap.size W (W.alloc (.cells #[.int .i64 n, .int .i64 d, .int .i64 l] 23)) := (Below.refl _ _).alloc (Nat.le_refl _) _
  have GB := Lib.hid hbe
  have GN := Lib.hid (Gr.new W n d l)
  have HS := Lib.hid hs
  unfold Grainy at hg
  clear hbe hs hbed
  obtain ⟨b, off, rfl, hc⟩ := HS.out.at (by omega)
  have HC := Lib.hid hc
  have hc0 := cell_later GB.out (hc 0 (by omega))
  rw [Nat.add_zero] at hc0
  have k0 := HB.out 0 (by rw [HL.out]; omega)
  obtain ⟨x0, hx0⟩ : ∃ z, z = xs[0]?.getD 0 := ⟨_, rfl⟩
  rw [← hx0] at hc0 k0
  obtain ⟨m0, hm0⟩ : ∃ m, m = x0 * l := ⟨_, rfl⟩
  obtain ⟨L, hL⟩ : ∃ f, f = m0.tdiv d := ⟨_, rfl⟩
  have bm := mul_bound (p := x0) (n := l) (by omega) (by omega) (by omega) (by omega)
  have bL := whole_part (p := x0) (n := l) (d := d) (by omega) (by omega) (by omega) (by omega)
  rw [← hm0] at bm
  rw [← hm0, ← hL] at bL
  have K0 := Lib.hid hx0
  have HLL := Lib.hid (show L = lostL d l xs by unfold lostL; rw [hL, hm0, hx0])
  have BL := Lib.hid (show 0 ≤ L ∧ L ≤ 1048576 by omega)
  have wm : IntKind.i64.wrap (x0 * l) = m0 := by rw [← hm0]; exact IntWalk.i64_in _ (by omega)
  have wL : IntKind.i64.wrap L = L := IntWalk.i64_in _ (by omega)
  have tL : m0.tdiv d = L := hL.symm
  have nd : ¬ d = 0 := by omega
  have g0 := GN.out.c0
  have g1 := GN.out.c1
  have g2 := GN.out.c2
  have u3 : (0 : Int) < (la : Int) := by omega
  clear hc hm0 hL hx0 bm bL
  go_enter Try.func17, Try.ntmps17
  go_wp2
  go_quiet (fail)
  go_wp2
  clear wm wL tL g0 g1 g2 u3
  go_loopw [6, 8] (fun ov t wr => TickRel la n d l xs W ov t wr) (fun ov t _ => la - (intOf t).toNat)
  case atStart => exact ⟨0, by omega, rfl, OwnI.nil _ _ _, GN.out, by first | exact GB.out | exact below_drewN1 GB.out _⟩
  case round =>
    obtain ⟨i, hi, rfl, hown, hgr, hbel⟩ := hrel
    have GO := Lib.hid hown
    have GG := Lib.hid hgr
    have GW := Lib.hid hbel
    have d0 := hgr.c0
    have d1 := hgr.c1
    clear hown hgr hbel
    by_cases h1 : i < la
    · have u1 : (i : Int) < (la : Int) := by omega
      have u0 : (0 : Int) ≤ (i : Int) := by omega
      have hci := cell_later GW.out (HC.out i h1)
      have kx := HB.out i (by rw [HL.out]; omega)
      obtain ⟨x, hx⟩ : ∃ x, x = xs[i]?.getD 0 := ⟨_, rfl⟩
      rw [← hx] at hci kx
      have HX := Lib.hid hx
      clear hx
      by_cases hf : i = 0
      · have t7 : ¬ (0 : Int) < (i : Int) := by omega
        have EX : Hid (x = x0) := Lib.hid (by rw [HX.out, K0.out, hf])
        have ex1 : x ≤ x0 ∧ x0 ≤ x := by have := EX.out; omega
        have hf1 : i ≤ 0 := by omega
        clear hf
        by_cases hla2 : i + 1 < la
        · have t10 : (i : Int) + 1 < (la : Int) := by omega
          have kL := BL.out
          obtain ⟨k, hk1, hk2⟩ : ∃ k, k ≤ i + 1 ∧ i + 1 ≤ k := ⟨i + 1, by omega, by omega⟩
          have hck := cell_later GW.out (HC.out k (by omega))
          have kz := HB.out k (by rw [HL.out]; omega)
          obtain ⟨z, hz⟩ : ∃ y, y = xs[k]?.getD 0 := ⟨_, rfl⟩
          rw [← hz] at hck kz
          have HZ := Lib.hid (show z = xs[i + 1]?.getD 0 by rw [hz, show k = i + 1 by omega])
          clear hz
          have bk : (k : Int) < (la : Int) := by omega
          have bk2 : (0 : Int) ≤ (k : Int) := by omega
          go_wp2
          obtain ⟨p2, hp2⟩ : ∃ p, p = x - z := ⟨_, rfl⟩
          obtain ⟨m2, hm2⟩ : ∃ m, m = p2 * n := ⟨_, rfl⟩
          obtain ⟨f2, hf2⟩ : ∃ f, f = m2.tdiv d := ⟨_, rfl⟩
          have bm2 := mul_bound (p := p2) (n := n) (by omega) (by omega) (by omega) (by omega)
          have bf2 := half_part (p := p2) (n := n) (d := d) (by omega) (by omega) (by omega)
          rw [← hm2] at bm2
          rw [← hm2, ← hf2] at bf2
          have HF2 := Lib.hid (show f2 = flow n d x z by unfold flow; rw [hf2, hm2, hp2])
          have rf2 : -1048576 ≤ f2 ∧ f2 ≤ 1048576 := by omega
          have wp2 : IntKind.i64.wrap (x - z) = p2 := (IntWalk.i64_in _ (by omega)).trans hp2.symm
          have wm2 : IntKind.i64.wrap (p2 * n) = m2 := by rw [← hm2]; exact IntWalk.i64_in _ (by omega)
          have wf2 : IntKind.i64.wrap f2 = f2 := IntWalk.i64_in _ (by omega)
          have tf2 : m2.tdiv d = f2 := hf2.symm
          clear hf2 hm2 hp2 bf2 bm2
          have ws2 : IntKind.i64.wrap (x - L - f2) = x - L - f2 := IntWalk.i64_in _ (by omega)
          have wk : IntKind.i64.wrap ((i : Int) + 1) = (k : Int) := (IntWalk.i64_in _ (by omega)).trans (by omega)
          go_quiet (fail)
          clear ws2 wk wp2 wm2 wf2 tf2
          go_wp2_with (at_builtin; refine wpList_appI rfl _ _ 24 rfl (W.heap.size + 1) 3 8 Try.underlying24 (by kernel_rfl) _ i ((tickL n d l xs).take i) rfl (by first | exact GO.out | exact GO.out.drewN _ | exact (GO.out.drewN _).drewN _) _ rfl (by omega) (by omega) (by exact GG.out.lt) ?_; intro v' w2 hown' hbel')
          go_roundw
          case rel => exact tick_next HL.out (by omega) GG.out GW.out hown' (by first | exact hbel' | exact below_of_drewN hbel' | exact below_of_drewN (below_of_drewN hbel')) (by unfold cellT; rw [if_pos (by omega), if_pos (by rw [HL.out]; omega)]; rw [← HLL.out, ← K0.out, ← HX.out, ← HZ.out, ← HF2.out]; try omega) _ (by omega)
          case measure => simp only [intOf]; omega
        · have t10 : ¬ (i : Int) + 1 < (la : Int) := by omega
          have kL := BL.out
          go_wp2_with (at_builtin; refine wpList_appI rfl _ _ 24 rfl (W.heap.size + 1) 3 8 Try.underlying24 (by kernel_rfl) _ i ((tickL n d l xs).take i) rfl (by first | exact GO.out | exact GO.out.drewN _ | exact (GO.out.drewN _).drewN _) _ rfl (by omega) (by omega) (by exact GG.out.lt) ?_; intro v' w2 hown' hbel')
          go_roundw
          case rel => exact tick_next HL.out (by omega) GG.out GW.out hown' (by first | exact hbel' | exact below_of_drewN hbel' | exact below_of_drewN (below_of_drewN hbel')) (by unfold cellT; rw [if_pos (by omega), if_neg (by rw [HL.out]; omega)]; rw [← HLL.out, ← K0.out]; try omega) _ (by omega)
          case measure => simp only [intOf]; omega
      · have t7 : (0 : Int) < (i : Int) := by omega
        by_cases hla2 : i + 1 < la
        · have t10 : (i : Int) + 1 < (la : Int) := by omega
          obtain ⟨j, hj1, hj2⟩ : ∃ j, i ≤ j + 1 ∧ j + 1 ≤ i := ⟨i - 1, by omega, by omega⟩
          have hcj := cell_later GW.out (HC.out j (by omega))
          have ky := HB.out j (by rw [HL.out]; omega)
          obtain ⟨y, hy⟩ : ∃ y, y = xs[j]?.getD 0 := ⟨_, rfl⟩
          rw [← hy] at hcj ky
          have HY := Lib.hid (show y = xs[i - 1]?.getD 0 by rw [hy, show i - 1 = j by omega])
          clear hy
          obtain ⟨k, hk1, hk2⟩ : ∃ k, k ≤ i + 1 ∧ i + 1 ≤ k := ⟨i + 1, by omega, by omega⟩
          have hck := cell_later GW.out (HC.out k (by omega))
          have kz := HB.out k (by rw [HL.out]; omega)
          obtain ⟨z, hz⟩ : ∃ y, y = xs[k]?.getD 0 := ⟨_, rfl⟩
          rw [← hz] at hck kz
          have HZ := Lib.hid (show z = xs[i + 1]?.getD 0 by rw [hz, show k = i + 1 by omega])
          clear hz
          go_wp2
          obtain ⟨p1, hp1⟩ : ∃ p, p = y - x := ⟨_, rfl⟩
          obtain ⟨m1, hm1⟩ : ∃ m, m = p1 * n := ⟨_, rfl⟩
          obtain ⟨f1, hf1⟩ : ∃ f, f = m1.tdiv d := ⟨_, rfl⟩
          have bm1 := mul_bound (p := p1) (n := n) (by omega) (by omega) (by omega) (by omega)
          have bf1 := half_part (p := p1) (n := n) (d := d) (by omega) (by omega) (by omega)
          rw [← hm1] at bm1
          rw [← hm1, ← hf1] at bf1
          have HF1 := Lib.hid (show f1 = flow n d y x by unfold flow; rw [hf1, hm1, hp1])
          have rf1 : -1048576 ≤ f1 ∧ f1 ≤ 1048576 := by omega
          have wp1 : IntKind.i64.wrap (y - x) = p1 := (IntWalk.i64_in _ (by omega)).trans hp1.symm
          have wm1 : IntKind.i64.wrap (p1 * n) = m1 := by rw [← hm1]; exact IntWalk.i64_in _ (by omega)
          have wf1 : IntKind.i64.wrap f1 = f1 := IntWalk.i64_in _ (by omega)
          have tf1 : m1.tdiv d = f1 := hf1.symm
          clear hf1 hm1 hp1 bf1 bm1
          have ws1 : IntKind.i64.wrap (x + f1) = x + f1 := IntWalk.i64_in _ (by omega)
          have wj : IntKind.i64.wrap ((i : Int) - 1) = (j : Int) := (IntWalk.i64_in _ (by omega)).trans (by omega)
          have bj : (0 : Int) ≤ (j : Int) := by omega
          have bj2 : (j : Int) < (la : Int) := by omega
          go_quiet (fail)
          clear ws1 wj wp1 wm1 wf1 tf1
          have bk : (k : Int) < (la : Int) := by omega
          have bk2 : (0 : Int) ≤ (k : Int) := by omega
          go_wp2
          obtain ⟨p2, hp2⟩ : ∃ p, p = x - z := ⟨_, rfl⟩
          obtain ⟨m2, hm2⟩ : ∃ m, m = p2 * n := ⟨_, rfl⟩
          obtain ⟨f2, hf2⟩ : ∃ f, f = m2.tdiv d := ⟨_, rfl⟩
          have bm2 := mul_bound (p := p2) (n := n) (by omega) (by omega) (by omega) (by omega)
          have bf2 := half_part (p := p2) (n := n) (d := d) (by omega) (by omega) (by omega)
          rw [← hm2] at bm2
          rw [← hm2, ← hf2] at bf2
          have HF2 := Lib.hid (show f2 = flow n d x z by unfold flow; rw [hf2, hm2, hp2])
          have rf2 : -1048576 ≤ f2 ∧ f2 ≤ 1048576 := by omega
          have wp2 : IntKind.i64.wrap (x - z) = p2 := (IntWalk.i64_in _ (by omega)).trans hp2.symm
          have wm2 : IntKind.i64.wrap (p2 * n) = m2 := by rw [← hm2]; exact IntWalk.i64_in _ (by omega)
          have wf2 : IntKind.i64.wrap f2 = f2 := IntWalk.i64_in _ (by omega)
          have tf2 : m2.tdiv d = f2 := hf2.symm
          clear hf2 hm2 hp2 bf2 bm2
          have ws2 : IntKind.i64.wrap (x + f1 - f2) = x + f1 - f2 := IntWalk.i64_in _ (by omega)
          have wk : IntKind.i64.wrap ((i : Int) + 1) = (k : Int) := (IntWalk.i64_in _ (by omega)).trans (by omega)
          go_quiet (fail)
          clear ws2 wk wp2 wm2 wf2 tf2
          go_wp2_with (at_builtin; refine wpList_appI rfl _ _ 24 rfl (W.heap.size + 1) 3 8 Try.underlying24 (by kernel_rfl) _ i ((tickL n d l xs).take i) rfl (by first | exact GO.out | exact GO.out.drewN _ | exact (GO.out.drewN _).drewN _) _ rfl (by omega) (by omega) (by exact GG.out.lt) ?_; intro v' w2 hown' hbel')
          go_roundw
          case rel => exact tick_next HL.out (by omega) GG.out GW.out hown' (by first | exact hbel' | exact below_of_drewN hbel' | exact below_of_drewN (below_of_drewN hbel')) (by unfold cellT; rw [if_neg (by omega), if_pos (by rw [HL.out]; omega)]; rw [← HX.out, ← HY.out, ← HF1.out, ← HZ.out, ← HF2.out]; try omega) _ (by omega)
          case measure => simp only [intOf]; omega
        · have t10 : ¬ (i : Int) + 1 < (la : Int) := by omega
          obtain ⟨j, hj1, hj2⟩ : ∃ j, i ≤ j + 1 ∧ j + 1 ≤ i := ⟨i - 1, by omega, by omega⟩
          have hcj := cell_later GW.out (HC.out j (by omega))
          have ky := HB.out j (by rw [HL.out]; omega)
          obtain ⟨y, hy⟩ : ∃ y, y = xs[j]?.getD 0 := ⟨_, rfl⟩
          rw [← hy] at hcj ky
          have HY := Lib.hid (show y = xs[i - 1]?.getD 0 by rw [hy, show i - 1 = j by omega])
          clear hy
          go_wp2
          obtain ⟨p1, hp1⟩ : ∃ p, p = y - x := ⟨_, rfl⟩
          obtain ⟨m1, hm1⟩ : ∃ m, m = p1 * n := ⟨_, rfl⟩
          obtain ⟨f1, hf1⟩ : ∃ f, f = m1.tdiv d := ⟨_, rfl⟩
          have bm1 := mul_bound (p := p1) (n := n) (by omega) (by omega) (by omega) (by omega)
          have bf1 := half_part (p := p1) (n := n) (d := d) (by omega) (by omega) (by omega)
          rw [← hm1] at bm1
          rw [← hm1, ← hf1] at bf1
          have HF1 := Lib.hid (show f1 = flow n d y x by unfold flow; rw [hf1, hm1, hp1])
          have rf1 : -1048576 ≤ f1 ∧ f1 ≤ 1048576 := by omega
          have wp1 : IntKind.i64.wrap (y - x) = p1 := (IntWalk.i64_in _ (by omega)).trans hp1.symm
          have wm1 : IntKind.i64.wrap (p1 * n) = m1 := by rw [← hm1]; exact IntWalk.i64_in _ (by omega)
          have wf1 : IntKind.i64.wrap f1 = f1 := IntWalk.i64_in _ (by omega)
          have tf1 : m1.tdiv d = f1 := hf1.symm
          clear hf1 hm1 hp1 bf1 bm1
          have ws1 : IntKind.i64.wrap (x + f1) = x + f1 := IntWalk.i64_in _ (by omega)
          have wj : IntKind.i64.wrap ((i : Int) - 1) = (j : Int) := (IntWalk.i64_in _ (by omega)).trans (by omega)
          have bj : (0 : Int) ≤ (j : Int) := by omega
          have bj2 : (j : Int) < (la : Int) := by omega
          go_quiet (fail)
          clear ws1 wj wp1 wm1 wf1 tf1
          go_wp2_with (at_builtin; refine wpList_appI rfl _ _ 24 rfl (W.heap.size + 1) 3 8 Try.underlying24 (by kernel_rfl) _ i ((tickL n d l xs).take i) rfl (by first | exact GO.out | exact GO.out.drewN _ | exact (GO.out.drewN _).drewN _) _ rfl (by omega) (by omega) (by exact GG.out.lt) ?_; intro v' w2 hown' hbel')
          go_roundw
          case rel => exact tick_next HL.out (by omega) GG.out GW.out hown' (by first | exact hbel' | exact below_of_drewN hbel' | exact below_of_drewN (below_of_drewN hbel')) (by unfold cellT; rw [if_neg (by omega), if_neg (by rw [HL.out]; omega)]; rw [← HX.out, ← HY.out, ← HF1.out]; try omega) _ (by omega)
          case measure => simp only [intOf]; omega
    · have u1 : ¬ (i : Int) < (la : Int) := by omega
      have GO' := Lib.hid (tick_end GO.out HL.out (show i = la by omega))
      obtain ⟨oo, cap, rfl, hlc, hcm, hsl⟩ := GO'.out.il
      have HSL := Lib.hid hsl
      clear hsl GO GO'
      go_wp2
      exact bodyPost_ret (v := .tuple #[.slice oo (tickL n d l xs).length cap, .int .i64 L]) (by simp [results, Try.results17, go_sem]) rfl ⟨_, _, by rw [HLL.out], hlc, hcm, HSL.out, GW.out⟩
end Go.Proofs.Ytcbbdbglbfnbpaa
