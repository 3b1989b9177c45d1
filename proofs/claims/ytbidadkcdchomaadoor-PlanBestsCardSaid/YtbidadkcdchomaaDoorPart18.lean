/- Part 18 of the contracts: LCopied, RSched, PlanLaterW. -/
import Derived.Deep.AppendLies
import Derived.Laws.OwnMore
import Derived.Deep.RegionHeld3
import Derived.OrdersHeld
import Derived.Test.YtbidadkcdchomaaDoorPart17

/- The laws' copied: batches of the call's own. (By gen_lcopied.py.) -/
set_option linter.unusedVariables false
set_option linter.unusedSimpArgs false
namespace Go.Proofs.YtbidadkcdchomaaDoor
open Go.RowKit

/-- a slice of times, and a batch with it -/
structure TS where
  ta : Option Addr
  tl : Nat
  tc : Nat
instance : Inhabited TS := ⟨⟨none, 0, 0⟩⟩
def flatC : List (Bt × TS) → List Value
  | [] => []
  | p :: l => .int .i64 p.1.rdy :: .slice p.2.ta p.2.tl p.2.tc :: flatC l
theorem flatC_len : ∀ l, (flatC l).length = l.length * 2
  | [] => rfl
  | p :: l => by
    have := flatC_len l
    show (flatC l).length + 1 + 1 = (l.length + 1) * 2
    omega
theorem flatC_app : ∀ l m, flatC (l ++ m) = flatC l ++ flatC m
  | [], _ => rfl
  | p :: l, m => by
    show _ :: _ :: flatC (l ++ m) = _
    rw [flatC_app l m]
    rfl
theorem flatC_get : ∀ (l : List (Bt × TS)) (i c : Nat), c < 2 → i < l.length → (flatC l)[i * 2 + c]? = some (if c = 0 then .int .i64 (l[i]!).1.rdy else .slice (l[i]!).2.ta (l[i]!).2.tl (l[i]!).2.tc)
  | [], i, c, _, h => absurd h (Nat.not_lt_zero _)
  | p :: l, 0, c, hc, _ => by
    have : c = 0 ∨ c = 1 := by omega
    rcases this with rfl | rfl <;> rfl
  | p :: l, i + 1, c, hc, h => by
    have := flatC_get l i c hc (by simpa using h)
    rw [show (i + 1) * 2 + c = i * 2 + c + 1 + 1 by omega]
    show (flatC l)[i * 2 + c]? = _
    rw [this]
    simp
theorem flatC_set : ∀ (l : List (Bt × TS)) (i : Nat) (x : Int), i < l.length → (flatC l).set (i * 2) (.int .i64 x) = flatC (l.set i (⟨x, (l[i]!).1.tm⟩, (l[i]!).2))
  | [], i, x, h => absurd h (Nat.not_lt_zero _)
  | p :: l, 0, x, _ => rfl
  | p :: l, i + 1, x, h => by
    have := flatC_set l i x (by simpa using h)
    rw [show (i + 1) * 2 = i * 2 + 1 + 1 by omega, List.set_cons_succ, show (p :: l)[i + 1]! = l[i]! by simp]
    show _ :: _ :: (flatC l).set (i * 2) _ = _ :: _ :: flatC _
    rw [this]
theorem flatC_one (p : Bt × TS) : ∀ u ∈ flatC [p], u.oneCell' = true := by
  intro u hu
  simp [flatC] at hu
  rcases hu with rfl | rfl <;> rfl
/-- batches of the call's own (from block base on), the times of each elsewhere -/
structure OwnC (w : World) (base : Nat) (v : Value) (n : Nat) (l : List (Bt × TS)) : Prop where
  len : l.length = n
  own : w.ownsRow base 43 2 v n (flatC l)
  il : ∀ p ∈ l, Il w p.2.ta p.2.tl p.1.tm ∧ p.2.tl ≤ 9223372036854775807 ∧ ∀ a, p.2.ta = some a → v.ownBlock ≠ some a.block ∧ a.block < w.heap.size
theorem OwnC.nil (w : World) (base : Nat) : OwnC w base (.slice none 0 0) 0 [] := ⟨rfl, World.ownsRow_nil _ _ _ _, fun p hp => by cases hp⟩
theorem own_later {w w' : World} {base e size n : Nat} {v : Value} {xs : List Value} (h : w.ownsRow base e size v n xs) (hb : Below w.heap.size w w') : w'.ownsRow base e size v n xs := by
  refine ⟨h.1, ?_⟩
  rcases h.2 with h2 | ⟨g', cap', cur, h3, h4, h5, h6⟩
  · exact .inl h2
  · exact .inr ⟨g', cap', cur, h3, h4, (hb.block g' (Array.getElem?_eq_some_iff.1 h5).1).trans h5, h6⟩
theorem OwnC.keep {w w' : World} {base n : Nat} {v : Value} {l : List (Bt × TS)} (h : OwnC w base v n l) (hb : Below w.heap.size w w') : OwnC w' base v n l :=
  ⟨h.len, own_later h.own hb, fun p hp => ⟨(h.il p hp).1.keep hb, (h.il p hp).2.1, fun a e => ⟨((h.il p hp).2.2 a e).1, Nat.lt_of_lt_of_le ((h.il p hp).2.2 a e).2 hb.size⟩⟩⟩
/-- a slice is not touched where its block stays -/
theorem Il.far {w w' : World} {ao : Option Addr} {len : Nat} {xs : List Int} (h : Il w ao len xs) (hk : ∀ a, ao = some a → w'.heap[a.block]? = w.heap[a.block]?) : Il w' ao len xs := by
  obtain ⟨h1, b, off, h2, h3⟩ := h
  refine ⟨h1, b, off, h2, fun i hi => ?_⟩
  have := hk _ (h2 (by omega))
  exact (World.cell?_of_block (a := ⟨b, off + i, none⟩) this).trans (h3 i hi)
theorem OwnC.bats {w : World} {base n : Nat} {v : Value} {l : List (Bt × TS)} (h : OwnC w base v n l) : ∃ ao cap, v = .slice ao n cap ∧ Bats w ao n (l.map (·.1)) ∧ n ≤ cap := by
  rcases h.own.2 with ⟨rfl, rfl⟩ | ⟨g, cap, cur, rfl, hb, hg, hnc, hcm, hcs, htake⟩
  · have := List.eq_nil_of_length_eq_zero h.len
    subst this
    exact ⟨none, 0, rfl, ⟨rfl, 0, 0, fun h => by omega, fun i hi => by omega⟩, Nat.le_refl _⟩
  · refine ⟨_, cap, rfl, ⟨by rw [List.length_map, h.len], g, 0, fun _ => rfl, fun i hi => ?_⟩, hnc⟩
    have hil : i < l.length := by rw [h.len]; exact hi
    have e : (l.map (·.1))[i]! = (l[i]!).1 := by rw [getElem!_pos _ i (by simpa using hil), getElem!_pos l i hil, List.getElem_map]
    have hm : l[i]! ∈ l := by rw [getElem!_pos l i hil]; exact List.getElem_mem hil
    have c0 := World.ownsRow.cellAt h.own (i * 2) (by omega)
    have c1 := World.ownsRow.cellAt h.own (i * 2 + 1) (by omega)
    have f0 := flatC_get l i 0 (by omega) hil
    rw [Nat.add_zero] at f0
    rw [f0] at c0
    rw [flatC_get l i 1 (by omega) hil] at c1
    obtain ⟨h1, h2, _⟩ := h.il _ hm
    exact ⟨(l[i]!).2.ta, (l[i]!).2.tl, (l[i]!).2.tc, by rw [e]; exact ⟨by rw [Nat.zero_add]; exact c0, by rw [Nat.zero_add]; exact c1, h1, h2⟩⟩
/-- one batch gets another time to be ready -/
theorem OwnC.store {w : World} {base n g cap : Nat} {l : List (Bt × TS)} (h : OwnC w base (.slice (some ⟨g, 0, none⟩) n cap) n l) {i : Nat} (hi : i < n) (x : Int) : OwnC (w.setCell ⟨g, i * 2, none⟩ (.int .i64 x)) base (.slice (some ⟨g, 0, none⟩) n cap) n (l.set i (⟨x, (l[i]!).1.tm⟩, (l[i]!).2)) := by
  have hil : i < l.length := by rw [h.len]; exact hi
  have hm : l[i]! ∈ l := by rw [getElem!_pos l i hil]; exact List.getElem_mem hil
  have key : ∀ p ∈ l, Il (w.setCell ⟨g, i * 2, none⟩ (.int .i64 x)) p.2.ta p.2.tl p.1.tm ∧ p.2.tl ≤ 9223372036854775807 ∧ ∀ a, p.2.ta = some a → (Value.slice (some ⟨g, 0, none⟩) n cap).ownBlock ≠ some a.block ∧ a.block < (w.setCell ⟨g, i * 2, none⟩ (.int .i64 x)).heap.size := fun p hp => by
    obtain ⟨h1, h2, h3⟩ := h.il p hp
    refine ⟨h1.far fun a e => ?_, h2, fun a e => ⟨(h3 a e).1, by simpa [World.setCell] using (h3 a e).2⟩⟩
    exact Below.heap_setCell _ _ _ _ (fun c => (h3 a e).1 (by simp [Value.ownBlock, c]))
  refine ⟨by rw [List.length_set]; exact h.len, by rw [← flatC_set l i x hil]; exact (World.ownsRow.stored h.own (i * 2) (.int .i64 x)).1, fun p hp => ?_⟩
  rcases List.mem_or_eq_of_mem_set hp with hp | rfl
  · exact key p hp
  · have k2 := key _ hm
    exact k2
theorem infoC : (Tryd.prog.info? 43).map (fun i => (i.zero, i.size, i.bytes)) = some (some (.agg #[.int .i64 0, .slice none 0 0]), 2, 32) := by kernel_rfl
theorem infoI8 : (Tryd.prog.info? 3).map (fun i => (i.zero, i.size, i.bytes)) = some (some (.int .i64 0), 1, 8) := by kernel_rfl
/-- a batch is appended, at a step of a region that draws its order -/
theorem step_appC {w : World} {ops : Array Oper} {o : Oper} {a : Act} {K : Act → World → Prop} {Q : Exit → Act → World → Prop} {E : Prop} (hgd : o.guard = none) (s x : Operand)
    (ho : o.op = .call { callee := .builtin .append, args := #[s, x], argTypes := #[23, 23] }) (base n : Nat) (v : Value) (l : List (Bt × TS)) (z : Bt × TS) (H : Nat) (t : TypeId) (hH : w.heap[H]? = some (.cells #[.int .i64 z.1.rdy, .slice z.2.ta z.2.tl z.2.tc] t (0, 0))) (hs : a.eval s = v) (hown : OwnC w base v n l)
    (hz : Il w z.2.ta z.2.tl z.1.tm ∧ z.2.tl ≤ 9223372036854775807 ∧ ∀ a, z.2.ta = some a → v.ownBlock ≠ some a.block ∧ a.block < w.heap.size)
    (hx : a.eval x = .slice (some ⟨H, 0, none⟩) 1 1) (hn : n ≤ 1000000) (hbase : base ≤ w.heap.size)
    (h : ∀ v' w', OwnC w' base v' (n + 1) (l ++ [z]) → Below base w w' → w.heap.size ≤ w'.heap.size → K (a.put o.dst v') w') :
    if Region.wanted o (yielded ops a.tmps) = true then Oper.wp Tryd.prog o a w K Q else E := by
  obtain ⟨i0, hi, hz0, hz1, hz2⟩ := info_parts infoC
  refine step_append_lies _ hgd s x 23 ho base 43 i0 _ 2 32 Tryd.underlying23 hi hz0 hz1 hz2 rfl (by decide) v n (flatC l) hs hown.own ⟨H, 0, none⟩ 1 1 (flatC [z]) hx (by rw [flatC_len]; rfl) ?_ (flatC_one z) (by omega) (by unfold maxLen; omega) (by omega) hbase _ rfl ?_
  · intro j u hj
    rw [add_off, Nat.zero_add]
    simp only [World.cell?]
    rw [hH]
    simpa [flatC] using hj
  · intro g' cap' w' hr hg hl hlt
    have hblk : ∀ b, b < w.heap.size → v.ownBlock ≠ some b → w'.heap[b]? = w.heap[b]? := fun b hb hne => hg.block b hb (fun e => hne e.symm)
    refine h _ w' ⟨by rw [List.length_append, hown.len]; rfl, by rw [flatC_app]; exact hr, fun p hp => ?_⟩ ((Below.refl base w).grown hg hbase (fun j hj => (World.ownsRow.lt hown.own j hj).1)) hg.size
    have key : Il w p.2.ta p.2.tl p.1.tm ∧ p.2.tl ≤ 9223372036854775807 ∧ ∀ a, p.2.ta = some a → v.ownBlock ≠ some a.block ∧ a.block < w.heap.size := by
      rcases List.mem_append.1 hp with hp | hp
      · exact hown.il p hp
      · rw [List.mem_singleton] at hp
        subst hp
        exact hz
    obtain ⟨h1, h2, h3⟩ := key
    refine ⟨h1.far fun a e => hblk _ (h3 a e).2 (h3 a e).1, h2, fun a e => ⟨?_, Nat.lt_of_lt_of_le (h3 a e).2 hg.size⟩⟩
    intro c
    have c : g' = a.block := by simpa [Value.ownBlock] using c
    rcases hl with hl | hl
    · exact (h3 a e).1 (by rw [hl, c])
    · have := (h3 a e).2
      omega
theorem run_append_none {P : Program} {w : World} (base : Nat) (t ty e : TypeId) (i : TypeInfo) (size : Nat) (ht : P.underlying t = some (.slice e)) (hi : P.info? e = some i) (v : Value) (n : Nat) (xs : List Value) (hown : w.ownsRow base e size v n xs) (c : Nat) :
    (Builtin.append_ #[t, t] ty #[v, .slice none 0 c]).run P w = .ok v w := by
  rcases hown.2 with ⟨rfl, rfl⟩ | ⟨g, cap, cur, rfl, _, _, hnc, _⟩
  · simp [Builtin.append_, run_underlying ht, sizeOf, typeInfo, hi, Builtin.lenOf, Builtin.firstCells]
  · simp [Builtin.append_, run_underlying ht, sizeOf, typeInfo, hi, Builtin.lenOf, Builtin.firstCells, hnc, storeCells]
/-- integers are appended, at a step of a region that draws its order -/
theorem step_appI {w : World} {ops : Array Oper} {o : Oper} {a : Act} {K : Act → World → Prop} {Q : Exit → Act → World → Prop} {E : Prop} (hgd : o.guard = none) (s x : Operand)
    (ho : o.op = .call { callee := .builtin .append, args := #[s, x], argTypes := #[22, 22] }) (base : Nat) (v : Value) (n : Nat) (xs : List Int) (hs : a.eval s = v) (hown : OwnI w base 3 v n xs)
    (ad : Option Addr) (m c : Nat) (ys : List Int) (hx : a.eval x = .slice ad m c) (hil : Il w ad m ys) (hn : n + m ≤ 1000000) (hbase : base ≤ w.heap.size)
    (h : ∀ v' w', OwnI w' base 3 v' (n + m) (xs ++ ys) → Below base w w' → w.heap.size ≤ w'.heap.size → K (a.put o.dst v') w') :
    if Region.wanted o (yielded ops a.tmps) = true then Oper.wp Tryd.prog o a w K Q else E := by
  obtain ⟨i0, hi, hz0, hz1, hz2⟩ := info_parts infoI8
  have hw : Region.wanted o (yielded ops a.tmps) = true := by simp [Region.wanted, hgd]
  rw [if_pos hw]
  have hnone : ad = none → m = 0 := fun e => by
    obtain ⟨_, b, off, h2, _⟩ := hil
    rcases Nat.eq_zero_or_pos m with h0 | h0
    · exact h0
    · rw [e] at h2; cases h2 h0
  cases ad with
  | none =>
    obtain rfl := hnone rfl
    have e0 : ys = [] := List.eq_nil_of_length_eq_zero hil.len
    subst e0
    have hrun := run_append_none (P := Tryd.prog) (w := w) base 22 o.type 3 i0 1 Tryd.underlying22 hi v n _ hown c
    unfold Oper.wp
    simp [execOp, ho, resolve, invoke, builtin, hs, hx, hrun, Result.andThen]
    exact h v w (by simpa using hown) (Below.refl _ _) (Nat.le_refl _)
  | some ad =>
    have hcell : ∀ j u, (ys.map fun z => Value.int .i64 z)[j]? = some u → w.cell? (ad.add j) = some u := fun j u hj => by
      have hj2 : j < ys.length := by
        have := (List.getElem?_eq_some_iff.1 hj).1
        simpa using this
      obtain ⟨h1, b, off, h2, h3⟩ := hil
      have := h2 (by omega)
      cases this
      rw [add_off, h3 j (by omega)]
      rw [List.getElem?_map, List.getElem?_eq_getElem hj2] at hj
      rw [List.getElem?_eq_getElem hj2]
      exact hj
    obtain ⟨v', w', hrun, hrow, hg, _, _⟩ := run_append_own_at (P := Tryd.prog) w base 22 o.type 3 i0 _ 1 8 Tryd.underlying22 hi hz0 hz1 hz2 rfl (by decide) v n _ hown ad m c (ys.map fun z => Value.int .i64 z) (by rw [List.length_map, hil.len, Nat.mul_one]) hcell (fun u hu => by obtain ⟨z, _, rfl⟩ := List.mem_map.1 hu; rfl) (by unfold maxLen; omega) (by omega) hbase
    unfold Oper.wp
    simp [execOp, ho, resolve, invoke, builtin, hs, hx, hrun, Result.andThen]
    exact h v' w' (by unfold OwnI; rw [List.map_append]; exact hrow) ((Below.refl base w).grown hg hbase hown.ge) hg.size
/-- a copy of the batches is returned -/
def OutC (bs : List Bt) (n : Nat) (W : World) (e : Ending) (w' : World) : Prop := ∃ v l, e = .returned v ∧ OwnC w' W.heap.size v n l ∧ l.map (·.1) = bs ∧ Below W.heap.size W w'
theorem out_c {bs : List Bt} {k : Nat} {W wr : World} {v : Value} {l : List (Bt × TS)} (h : OwnC wr W.heap.size v k l) (hm : l.map (·.1) = bs.take k) (hl : bs.length = k) (hb : Below W.heap.size W wr) : OutC bs k W (.returned v) wr := ⟨v, l, rfl, h, by rw [hm, List.take_of_length_le (by rw [hl]; exact Nat.le_refl _)], hb⟩
theorem own_il' {w : World} {base e n cap : Nat} {ao : Option Addr} {xs : List Int} (h : OwnI w base e (.slice ao n cap) n xs) : Il w ao n xs := by
  obtain ⟨ao', c, e, _, _, hi⟩ := h.il
  cases e
  exact hi
theorem far_new {wr w2 w3 : World} {base e k tl cap : Nat} {v : Value} {l : List (Bt × TS)} {oa : Option Addr} {x : Bt} (h : OwnC wr base v k l) (h2 : OwnI w2 wr.heap.size e (.slice oa tl cap) tl x.tm) (hb2 : Below wr.heap.size wr w2) (hb3 : Below w2.heap.size w2 w3) (htl : tl ≤ 1000) :
    Il w3 oa tl x.tm ∧ tl ≤ 9223372036854775807 ∧ ∀ a, oa = some a → v.ownBlock ≠ some a.block ∧ a.block < w3.heap.size := by
  refine ⟨(own_il' h2).keep hb3, by omega, fun a e => ?_⟩
  subst e
  have := World.ownsRow.lt h2 a.block rfl
  refine ⟨fun c => ?_, Nat.lt_of_lt_of_le this.2 hb3.size⟩
  have := (World.ownsRow.lt h.own a.block c).2
  omega
theorem map_snoc {l : List (Bt × TS)} {bs bs' : List Bt} {x : Bt} (h : l.map (·.1) = bs) (h2 : bs' = bs ++ [x]) (t : TS) : (l ++ [(x, t)]).map (·.1) = bs' := by
  rw [List.map_append, h, h2]
  rfl
theorem take_snoc (bs : List Bt) (k : Nat) (h : k < bs.length) : bs.take (k + 1) = bs.take k ++ [bs[k]!] := by
  rw [List.take_add_one, List.getElem?_eq_getElem h, getElem!_pos bs k h]
  rfl
set_option maxRecDepth 100000 in
set_option maxHeartbeats 4000000 in
theorem copied_any (ba : Option Addr) (bl bc : Nat) (bs : List Bt) (W : World) (hb : Bats W ba bl bs) (hl : bl ≤ 1000) (ht : ∀ i, i < bl → (bs[i]!).tm.length ≤ 1000) :
    Calls Tryd.prog 12 #[.slice ba bl bc] W (OutC bs bl W) := by
  have HL := Lib.hid hb.1
  have HB := Lib.hid hb
  have HT := Lib.hid ht
  clear hb ht
  go_enter Tryd.func12, Tryd.ntmps12
  go_wp2
  go_loopg [3, 4] bl (fun gg s3 s4 wr => ∃ (k : Nat) (v : Value) (l : List (Bt × TS)), s4 = .int .i64 (k : Int) ∧ k ≤ bl ∧ bl - k ≤ gg ∧ s3 = v ∧ Hid (OwnC wr W.heap.size v k l) ∧ Hid (l.map (·.1) = bs.take k) ∧ Hid (Below W.heap.size W wr))
  case atStart => exact ⟨0, _, [], rfl, Nat.zero_le _, by omega, rfl, Lib.hid (OwnC.nil _ _), Lib.hid (by simp), Lib.hid (Below.refl _ _)⟩
  case round =>
    obtain ⟨k, v, l, rfl, hk, hgg, rfl, HO, HM, HW⟩ := hrel
    by_cases h1 : k < bl
    · have u0 : (0 : Int) ≤ (k : Int) := by omega
      have u1 : (k : Int) < (bl : Int) := by omega
      obtain ⟨g, o, ta, tl, tc, rfl, hx⟩ := HB.out.at h1
      have htl : tl ≤ 1000 := by have := HT.out k h1; have := hx.il.len; omega
      have HE := Lib.hid (take_snoc bs k (by rw [HL.out]; exact h1))
      generalize bs[k]! = x at hx HE
      have HX0 := Lib.hid hx
      have HX := Lib.hid (hx.keep HW.out)
      have c0 := HX.out.c0
      have c1 := HX.out.c1
      clear hx
      have B0 : Hid (wr.drew.heap.size < (wr.drew.alloc (.cells #[] 3)).heap.size) := Lib.hid (by rw [size_alloc]; exact Nat.lt_succ_self _)
      go_upto_region 5 with fail
      refine wp_region_held_drew (S := fun w' => w'.cell? ⟨g, o + k * 2, none⟩ = some (.int .i64 x.rdy) ∧ w'.cell? ⟨g, o + k * 2 + 1, none⟩ = some (.slice ta tl tc)) (by kernel_rfl) ⟨c0, c1⟩ (fun hS => ?_)
      refine wpAnyH_take (i := 0) (v := ?vw0) rfl (by kernel_rfl) (by kernel_rfl) (by kernel_rfl) (fun _ _ _ h => h) (Or.inl ⟨by rfl, ?hyw0⟩) hS ?restw0
      case hyw0 => (intro w hSw; (try dsimp only at hSw); (first | (go_simp; done) | (go_simp; with_reducible rfl)))
      try simp only [Act.put, List.getElem_toArray, List.getElem_cons_succ, List.getElem_cons_zero, List.setIfInBounds_toArray, List.set_cons_zero, List.set_cons_succ]
      refine wpAnyH_take (i := 1) (v := ?vw1) rfl (by kernel_rfl) (by kernel_rfl) (by kernel_rfl) (fun _ _ _ h => h) (Or.inl ⟨by rfl, ?hyw1⟩) hS ?restw1
      case hyw1 => (intro w hSw; (try dsimp only at hSw); (first | (go_simp; done) | (go_simp; with_reducible rfl)))
      try simp only [Act.put, List.getElem_toArray, List.getElem_cons_succ, List.getElem_cons_zero, List.setIfInBounds_toArray, List.set_cons_zero, List.set_cons_succ]
      refine wpAnyH_take (i := 2) (v := ?vw2) rfl (by kernel_rfl) (by kernel_rfl) (by kernel_rfl) (fun _ _ _ h => h) (Or.inl ⟨by rfl, ?hyw2⟩) hS ?restw2
      case hyw2 => (intro w hSw; (try dsimp only at hSw); (first | (go_simp; done) | (go_simp; with_reducible rfl)))
      try simp only [Act.put, List.getElem_toArray, List.getElem_cons_succ, List.getElem_cons_zero, List.setIfInBounds_toArray, List.set_cons_zero, List.set_cons_succ]
      refine wpAnyH_take (i := 3) (v := ?vw3) rfl (by kernel_rfl) (by kernel_rfl) (by kernel_rfl) (fun _ _ _ h => h) (Or.inl ⟨by rfl, ?hyw3⟩) hS ?restw3
      case hyw3 => (intro w hSw; (try dsimp only at hSw); (first | (go_simp; done) | (go_simp; with_reducible rfl)))
      try simp only [Act.put, List.getElem_toArray, List.getElem_cons_succ, List.getElem_cons_zero, List.setIfInBounds_toArray, List.set_cons_zero, List.set_cons_succ]
      refine wpAnyH_take (i := 4) (v := ?vw4) rfl (by kernel_rfl) (by kernel_rfl) (by kernel_rfl) (fun _ _ _ h => h) (Or.inl ⟨by rfl, ?hyw4⟩) hS ?restw4
      case hyw4 => (intro w hSw; (try dsimp only at hSw); (first | (go_simp; done) | (go_simp; with_reducible rfl)))
      try simp only [Act.put, List.getElem_toArray, List.getElem_cons_succ, List.getElem_cons_zero, List.setIfInBounds_toArray, List.set_cons_zero, List.set_cons_succ]
      refine wpAnyH_take (i := 5) (v := ?vw5) rfl (by kernel_rfl) (by kernel_rfl) (by kernel_rfl) (fun _ _ _ h => h) (Or.inl ⟨by rfl, ?hyw5⟩) hS ?restw5
      case hyw5 => (intro w hSw; (try dsimp only at hSw); (first | (go_simp; done) | (go_simp; with_reducible rfl)))
      try simp only [Act.put, List.getElem_toArray, List.getElem_cons_succ, List.getElem_cons_zero, List.setIfInBounds_toArray, List.set_cons_zero, List.set_cons_succ]
      refine wpAnyH_take (i := 7) (v := ?vw7) rfl (by kernel_rfl) (by kernel_rfl) (by kernel_rfl) (fun _ _ _ h => h) (Or.inl ⟨by rfl, ?hyw7⟩) hS ?restw7
      case hyw7 => (intro w hSw; (try dsimp only at hSw); (first | (go_simp; done) | (go_simp; with_reducible rfl)))
      try simp only [Act.put, List.getElem_toArray, List.getElem_cons_succ, List.getElem_cons_zero, List.setIfInBounds_toArray, List.set_cons_zero, List.set_cons_succ]
      refine wpAnyH_take (i := 8) (v := ?vw8) rfl (by kernel_rfl) (by kernel_rfl) (by kernel_rfl) (fun _ _ _ h => h) (Or.inl ⟨by rfl, ?hyw8⟩) hS ?restw8
      case hyw8 => (intro w hSw; (try dsimp only at hSw); (first | (go_simp; done) | (go_simp; with_reducible rfl)))
      try simp only [Act.put, List.getElem_toArray, List.getElem_cons_succ, List.getElem_cons_zero, List.setIfInBounds_toArray, List.set_cons_zero, List.set_cons_succ]
      refine wpAnyH_take (i := 9) (v := ?vw9) rfl (by kernel_rfl) (by kernel_rfl) (by kernel_rfl) (fun _ _ _ h => h) (Or.inl ⟨by rfl, ?hyw9⟩) hS ?restw9
      case hyw9 => (intro w hSw; (try dsimp only at hSw); (first | (go_simp; done) | (go_simp; with_reducible rfl)))
      try simp only [Act.put, List.getElem_toArray, List.getElem_cons_succ, List.getElem_cons_zero, List.setIfInBounds_toArray, List.set_cons_zero, List.set_cons_succ]
      refine wpAnyH_take (i := 10) (v := ?vw10) rfl (by kernel_rfl) (by kernel_rfl) (by kernel_rfl) (fun _ _ _ h => h) (Or.inl ⟨by rfl, ?hyw10⟩) hS ?restw10
      case hyw10 => (intro w hSw; (try dsimp only at hSw); (first | (go_simp; done) | (go_simp; with_reducible rfl)))
      try simp only [Act.put, List.getElem_toArray, List.getElem_cons_succ, List.getElem_cons_zero, List.setIfInBounds_toArray, List.set_cons_zero, List.set_cons_succ]
      refine wpAnyH_take (i := 11) (v := ?vw11) rfl (by kernel_rfl) (by kernel_rfl) (by kernel_rfl) (fun _ _ _ h => h) (Or.inl ⟨by rfl, ?hyw11⟩) hS ?restw11
      case hyw11 => (intro w hSw; (try dsimp only at hSw); (first | (go_simp; done) | (go_simp; with_reducible rfl)))
      try simp only [Act.put, List.getElem_toArray, List.getElem_cons_succ, List.getElem_cons_zero, List.setIfInBounds_toArray, List.set_cons_zero, List.set_cons_succ]
      refine wpAnyH_ready (rs := [6]) (by kernel_rfl) (by simp) ?_
      refine AllReadyH.cons rfl (fun K hK => ?_) AllReadyH.nil
      go_simp
      have B1 := Lib.hid (below_then (drew_below wr) ((Below.refl wr.drew.heap.size wr.drew).alloc (Nat.le_refl _) (.cells #[] 3)))
      refine hK.out _ _ ⟨cell_later B1.out c0, cell_later B1.out c1⟩ (fun hS => ?_)
      clear hK K
      try simp only [Act.put, List.getElem_toArray, List.getElem_cons_succ, List.getElem_cons_zero, List.setIfInBounds_toArray, List.set_cons_zero, List.set_cons_succ]
      refine wpAnyH_ready (rs := [12]) (by kernel_rfl) (by simp) ?_
      refine AllReadyH.cons rfl (fun K hK => ?_) AllReadyH.nil
      refine step_appI rfl _ _ rfl wr.drew.heap.size _ 0 [] rfl (own_empty wr.drew) ta tl tc x.tm rfl (HX.out.il.keep B1.out) (by omega) (Nat.le_of_lt B0.out) (fun v2 w2 hown hb2 hz2 => ?_)
      rw [List.nil_append, Nat.zero_add] at hown
      have HO2 := Lib.hid hown
      have B2 := Lib.hid (below_then (drew_below wr) (((Below.refl wr.drew.heap.size wr.drew).alloc (Nat.le_refl _) (.cells #[] 3)).trans hb2))
      obtain ⟨oa2, cap2, rfl, _, _, _⟩ := hown.il
      clear hown hb2 hz2
      refine hK.out _ _ ⟨cell_later B2.out c0, cell_later B2.out c1⟩ (fun hS => ?_)
      clear hK K
      try simp only [Act.put, List.getElem_toArray, List.getElem_cons_succ, List.getElem_cons_zero, List.setIfInBounds_toArray, List.set_cons_zero, List.set_cons_succ]
      refine wpAnyH_take (i := 13) (v := ?vw13) rfl (by kernel_rfl) (by kernel_rfl) (by kernel_rfl) (fun _ _ _ h => h) (Or.inl ⟨by rfl, ?hyw13⟩) hS ?restw13
      case hyw13 => (intro w hSw; (try dsimp only at hSw); (first | (go_simp; done) | (go_simp; with_reducible rfl)))
      try simp only [Act.put, List.getElem_toArray, List.getElem_cons_succ, List.getElem_cons_zero, List.setIfInBounds_toArray, List.set_cons_zero, List.set_cons_succ]
      refine wpAnyH_ready (rs := [14]) (by kernel_rfl) (by simp) ?_
      refine AllReadyH.cons rfl (fun K hK => ?_) AllReadyH.nil
      go_simp
      have B3 := Lib.hid (below_then B2.out ((Below.refl w2.heap.size w2).alloc (Nat.le_refl _) (.cells #[.int .i64 x.rdy, .slice oa2 tl cap2] 43)))
      refine hK.out _ _ ⟨cell_later B3.out c0, cell_later B3.out c1⟩ (fun hS => ?_)
      clear hK K
      try simp only [Act.put, List.getElem_toArray, List.getElem_cons_succ, List.getElem_cons_zero, List.setIfInBounds_toArray, List.set_cons_zero, List.set_cons_succ]
      refine wpAnyH_ready (rs := [15]) (by kernel_rfl) (by simp) ?_
      refine AllReadyH.cons rfl (fun K hK => ?_) AllReadyH.nil
      refine step_appC rfl _ _ rfl W.heap.size k _ l (x, ⟨oa2, tl, cap2⟩) w2.heap.size 43 (new_row w2 _) rfl (HO.out.keep B3.out) (far_new HO.out HO2.out B2.out (box_below w2 _) htl) rfl (by omega) (Nat.le_trans HW.out.size B3.out.size) (fun v4 w4 hown hb4 hz4 => ?_)
      have HO4 := Lib.hid hown
      have B4 := Lib.hid (HW.out.trans ((B3.out.mono HW.out.size).trans hb4))
      have B4r := Lib.hid (B3.out.size)
      clear hown hb4 hz4
      refine hK.out _ _ ?hs15 (fun hS => ?_)
      case hs15 => exact ⟨cell_later B4.out HX0.out.c0, cell_later B4.out HX0.out.c1⟩
      clear hK K
      try simp only [Act.put, List.getElem_toArray, List.getElem_cons_succ, List.getElem_cons_zero, List.setIfInBounds_toArray, List.set_cons_zero, List.set_cons_succ]
      refine wpAnyH_take (i := 16) (v := ?vw16) rfl (by kernel_rfl) (by kernel_rfl) (by kernel_rfl) (fun _ _ _ h => h) (Or.inl ⟨by rfl, ?hyw16⟩) hS ?restw16
      case hyw16 => (intro w hSw; (try dsimp only at hSw); (first | (go_simp; done) | (go_simp; with_reducible rfl)))
      try simp only [Act.put, List.getElem_toArray, List.getElem_cons_succ, List.getElem_cons_zero, List.setIfInBounds_toArray, List.set_cons_zero, List.set_cons_succ]
      refine wpAnyH_done (by kernel_rfl) ?_ _
      clear hS
      have HM4 := Lib.hid (map_snoc HM.out HE.out ⟨oa2, tl, cap2⟩)
      go_wp2
      go_roundg (bl - (k + 1))
      case measure => omega
      case rel => exact ⟨k + 1, _, _, by go_num, by omega, Nat.le_refl _, rfl, HO4, HM4, B4⟩
    · obtain rfl : k = bl := by omega
      have u1 : ¬ (k : Int) < (k : Int) := by omega
      have HR := Lib.hid (out_c HO.out HM.out HL.out HW.out)
      go_wp2
      go_ret
      exact HR.out
end Go.Proofs.YtbidadkcdchomaaDoor

/- The specification's Same, of two schedules that read the same. (By gen_rsched.py.) -/
set_option linter.unusedVariables false
set_option linter.unusedSimpArgs false
namespace Go.Proofs.YtbidadkcdchomaaDoor
open Go.RowKit

theorem Rows2.at {w : World} {ao : Option Addr} {len : Nat} {xs : List (List Int)} (h : Rows2 w ao len xs) {i : Nat} (hi : i < len) : ∃ g o ra rl rc, ao = some ⟨g, o, none⟩ ∧ w.cell? ⟨g, o + i, none⟩ = some (.slice ra rl rc) ∧ Il w ra rl xs[i]! := by
  obtain ⟨h1, g, o, h2, h3⟩ := h
  obtain ⟨ra, rl, rc, h4, h5, _⟩ := h3 i hi
  exact ⟨g, o, ra, rl, rc, h2 (by omega), h4, h5⟩
theorem sameZ_refl (l : List Int) : sameZ l l = true := decide_eq_true rfl
set_option maxRecDepth 100000 in
set_option maxHeartbeats 4000000 in
theorem sched_same (en : Int) (sa sb ya yb : Option Addr) (sl sc sc' yl yc yc' : Nat) (xs : List Int) (rs : List (List Int)) (W : World) (hs1 : Il W sa sl xs) (hs2 : Il W sb sl xs) (hy1 : Rows2 W ya yl rs) (hy2 : Rows2 W yb yl rs) (hsl : sl ≤ 1000) (hyl : yl ≤ 1000) (hr : ∀ i, i < yl → (rs[i]!).length ≤ 1000) :
    Calls Tryd.prog 15 #[.agg #[.int .i64 en, .slice sa sl sc, .slice ya yl yc], .agg #[.int .i64 en, .slice sb sl sc', .slice yb yl yc']] W fun e w' => e = .returned (.bool true) ∧ Below W.heap.size W w' := by
  obtain ⟨V, hV⟩ : ∃ V, V = (W.alloc (.cells #[.int .i64 en, .slice sa sl sc, .slice ya yl yc] 28)).alloc (.cells #[.int .i64 en, .slice sb sl sc', .slice yb yl yc'] 28) := ⟨_, rfl⟩
  have hb1 := box_below W (.cells #[.int .i64 en, .slice sa sl sc, .slice ya yl yc] 28)
  have hb2 := box_below (W.alloc (.cells #[.int .i64 en, .slice sa sl sc, .slice ya yl yc] 28)) (.cells #[.int .i64 en, .slice sb sl sc', .slice yb yl yc'] 28)
  have s1 : (W.alloc (.cells #[.int .i64 en, .slice sa sl sc, .slice ya yl yc] 28)).heap.size = W.heap.size + 1 := size_alloc _ _
  have HB : Hid (Below W.heap.size W V) := Lib.hid (by rw [hV]; exact below_then hb1 hb2)
  have R1 : Hid (V.heap[W.heap.size]? = some (.cells #[.int .i64 en, .slice sa sl sc, .slice ya yl yc] 28 (0, 0))) := Lib.hid (by rw [hV]; exact row_keep hb2 (new_row W _))
  have R2 : Hid (V.heap[W.heap.size + 1]? = some (.cells #[.int .i64 en, .slice sb sl sc', .slice yb yl yc'] 28 (0, 0))) := Lib.hid (by rw [hV, ← s1]; exact new_row _ _)
  obtain ⟨p0, p1, p2⟩ := cells3 R1.out
  obtain ⟨q0, q1, q2⟩ := cells3 R2.out
  have I1 := Lib.hid (hs1.keep HB.out)
  have I2 := Lib.hid (hs2.keep HB.out)
  have Y1 := Lib.hid (hy1.keep HB.out)
  have Y2 := Lib.hid (hy2.keep HB.out)
  have HR := Lib.hid hr
  have HV := Lib.hid hV
  clear hs1 hs2 hy1 hy2 hr hV hb1 hb2 s1
  go_enter Tryd.func15, Tryd.ntmps15
  go_upto_region 1 with fail
  rw [← HV.out]
  go_wp2_with fail
  refine (sameInts_any sa sl sc sb sl sc' xs xs V I1.out I2.out (by omega) (by omega)).mono ?_
  rintro e w1 ⟨rfl, hd1⟩
  rw [sameZ_refl]
  have B1 := Lib.hid (hd1.below (B := V.heap.size))
  obtain ⟨p0, p1, p2⟩ := cells3 (row_keep B1.out R1.out)
  obtain ⟨q0, q1, q2⟩ := cells3 (row_keep B1.out R2.out)
  clear hd1
  go_wp2
  go_loopg [5] yl (fun gg s5 wr => ∃ k : Nat, s5 = .int .i64 (k : Int) ∧ k ≤ yl ∧ yl - k ≤ gg ∧ Hid (Below V.heap.size V wr))
  case atStart => exact ⟨0, rfl, Nat.zero_le _, by omega, B1⟩
  case round =>
    obtain ⟨k, rfl, hk, hgg, HW⟩ := hrel
    obtain ⟨p0, p1, p2⟩ := cells3 (row_keep HW.out R1.out)
    obtain ⟨q0, q1, q2⟩ := cells3 (row_keep HW.out R2.out)
    by_cases h1 : k < yl
    · have u0 : (0 : Int) ≤ (k : Int) := by omega
      have u1 : (k : Int) < (yl : Int) := by omega
      obtain ⟨g1, o1, ra1, rl1, rc1, rfl, d1, i1⟩ := (Y1.out.keep HW.out).at h1
      obtain ⟨g2, o2, ra2, rl2, rc2, rfl, d2, i2⟩ := (Y2.out.keep HW.out).at h1
      have hr := HR.out k h1
      have P := Lib.hid (sameInts_any ra1 rl1 rc1 ra2 rl2 rc2 _ _ wr.drew i1.drew i2.drew (by have := i1.len; omega) (by have := i2.len; omega))
      clear i1 i2 hr
      go_upto_region 6 with fail
      refine wp_region_held_drew (S := fun w' => w'.cell? ⟨W.heap.size, 2, none⟩ = some (.slice (some ⟨g1, o1, none⟩) yl yc) ∧ w'.cell? ⟨W.heap.size + 1, 2, none⟩ = some (.slice (some ⟨g2, o2, none⟩) yl yc') ∧ w'.cell? ⟨g1, o1 + k, none⟩ = some (.slice ra1 rl1 rc1) ∧ w'.cell? ⟨g2, o2 + k, none⟩ = some (.slice ra2 rl2 rc2)) (by kernel_rfl) ⟨p2, q2, d1, d2⟩ (fun hS => ?_)
      refine wpAnyH_take (i := 0) (v := ?vs0) rfl (by kernel_rfl) (by kernel_rfl) (by kernel_rfl) (fun _ _ _ h => h) (Or.inl ⟨by rfl, ?hys0⟩) hS ?rests0
      case hys0 => (intro w hSw; (try dsimp only at hSw); (first | (go_simp; done) | (go_simp; with_reducible rfl)))
      try simp only [Act.put, List.getElem_toArray, List.getElem_cons_succ, List.getElem_cons_zero, List.setIfInBounds_toArray, List.set_cons_zero, List.set_cons_succ]
      refine wpAnyH_take (i := 1) (v := ?vs1) rfl (by kernel_rfl) (by kernel_rfl) (by kernel_rfl) (fun _ _ _ h => h) (Or.inl ⟨by rfl, ?hys1⟩) hS ?rests1
      case hys1 => (intro w hSw; (try dsimp only at hSw); (first | (go_simp; done) | (go_simp; with_reducible rfl)))
      try simp only [Act.put, List.getElem_toArray, List.getElem_cons_succ, List.getElem_cons_zero, List.setIfInBounds_toArray, List.set_cons_zero, List.set_cons_succ]
      refine wpAnyH_take (i := 2) (v := ?vs2) rfl (by kernel_rfl) (by kernel_rfl) (by kernel_rfl) (fun _ _ _ h => h) (Or.inl ⟨by rfl, ?hys2⟩) hS ?rests2
      case hys2 => (intro w hSw; (try dsimp only at hSw); (first | (go_simp; done) | (go_simp; with_reducible rfl)))
      try simp only [Act.put, List.getElem_toArray, List.getElem_cons_succ, List.getElem_cons_zero, List.setIfInBounds_toArray, List.set_cons_zero, List.set_cons_succ]
      refine wpAnyH_take (i := 3) (v := ?vs3) rfl (by kernel_rfl) (by kernel_rfl) (by kernel_rfl) (fun _ _ _ h => h) (Or.inl ⟨by rfl, ?hys3⟩) hS ?rests3
      case hys3 => (intro w hSw; (try dsimp only at hSw); (first | (go_simp; done) | (go_simp; with_reducible rfl)))
      try simp only [Act.put, List.getElem_toArray, List.getElem_cons_succ, List.getElem_cons_zero, List.setIfInBounds_toArray, List.set_cons_zero, List.set_cons_succ]
      refine wpAnyH_take (i := 4) (v := ?vs4) rfl (by kernel_rfl) (by kernel_rfl) (by kernel_rfl) (fun _ _ _ h => h) (Or.inl ⟨by rfl, ?hys4⟩) hS ?rests4
      case hys4 => (intro w hSw; (try dsimp only at hSw); (first | (go_simp; done) | (go_simp; with_reducible rfl)))
      try simp only [Act.put, List.getElem_toArray, List.getElem_cons_succ, List.getElem_cons_zero, List.setIfInBounds_toArray, List.set_cons_zero, List.set_cons_succ]
      refine wpAnyH_take (i := 5) (v := ?vs5) rfl (by kernel_rfl) (by kernel_rfl) (by kernel_rfl) (fun _ _ _ h => h) (Or.inl ⟨by rfl, ?hys5⟩) hS ?rests5
      case hys5 => (intro w hSw; (try dsimp only at hSw); (first | (go_simp; done) | (go_simp; with_reducible rfl)))
      try simp only [Act.put, List.getElem_toArray, List.getElem_cons_succ, List.getElem_cons_zero, List.setIfInBounds_toArray, List.set_cons_zero, List.set_cons_succ]
      refine wpAnyH_take (i := 6) (v := ?vs6) rfl (by kernel_rfl) (by kernel_rfl) (by kernel_rfl) (fun _ _ _ h => h) (Or.inl ⟨by rfl, ?hys6⟩) hS ?rests6
      case hys6 => (intro w hSw; (try dsimp only at hSw); (first | (go_simp; done) | (go_simp; with_reducible rfl)))
      try simp only [Act.put, List.getElem_toArray, List.getElem_cons_succ, List.getElem_cons_zero, List.setIfInBounds_toArray, List.set_cons_zero, List.set_cons_succ]
      refine wpAnyH_take (i := 7) (v := ?vs7) rfl (by kernel_rfl) (by kernel_rfl) (by kernel_rfl) (fun _ _ _ h => h) (Or.inl ⟨by rfl, ?hys7⟩) hS ?rests7
      case hys7 => (intro w hSw; (try dsimp only at hSw); (first | (go_simp; done) | (go_simp; with_reducible rfl)))
      try simp only [Act.put, List.getElem_toArray, List.getElem_cons_succ, List.getElem_cons_zero, List.setIfInBounds_toArray, List.set_cons_zero, List.set_cons_succ]
      refine wpAnyH_take (i := 8) (v := ?vs8) rfl (by kernel_rfl) (by kernel_rfl) (by kernel_rfl) (fun _ _ _ h => h) (Or.inl ⟨by rfl, ?hys8⟩) hS ?rests8
      case hys8 => (intro w hSw; (try dsimp only at hSw); (first | (go_simp; done) | (go_simp; with_reducible rfl)))
      try simp only [Act.put, List.getElem_toArray, List.getElem_cons_succ, List.getElem_cons_zero, List.setIfInBounds_toArray, List.set_cons_zero, List.set_cons_succ]
      refine wpAnyH_take (i := 9) (v := ?vs9) rfl (by kernel_rfl) (by kernel_rfl) (by kernel_rfl) (fun _ _ _ h => h) (Or.inl ⟨by rfl, ?hys9⟩) hS ?rests9
      case hys9 => (intro w hSw; (try dsimp only at hSw); (first | (go_simp; done) | (go_simp; with_reducible rfl)))
      try simp only [Act.put, List.getElem_toArray, List.getElem_cons_succ, List.getElem_cons_zero, List.setIfInBounds_toArray, List.set_cons_zero, List.set_cons_succ]
      refine wpAnyH_ready (rs := [10]) (by kernel_rfl) (by simp) ?_
      refine AllReadyH.cons rfl (fun K hK => ?_) AllReadyH.nil
      try go_simp
      refine P.out.mono ?_
      rintro e w1 ⟨rfl, hd1⟩
      rw [sameZ_refl]
      have B1 := Lib.hid ((drew_below wr).trans hd1.below)
      clear hd1
      refine hK.out _ _ ⟨cell_later B1.out p2, cell_later B1.out q2, cell_later B1.out d1, cell_later B1.out d2⟩ (fun hS => ?_)
      clear hK K
      try simp only [Act.put, List.getElem_toArray, List.getElem_cons_succ, List.getElem_cons_zero, List.setIfInBounds_toArray, List.set_cons_zero, List.set_cons_succ]
      refine wpAnyH_take (i := 11) (v := ?vs11) rfl (by kernel_rfl) (by kernel_rfl) (by kernel_rfl) (fun _ _ _ h => h) (Or.inl ⟨by rfl, ?hys11⟩) hS ?rests11
      case hys11 => (intro w hSw; (try dsimp only at hSw); (first | (go_simp; done) | (go_simp; with_reducible rfl)))
      try simp only [Act.put, List.getElem_toArray, List.getElem_cons_succ, List.getElem_cons_zero, List.setIfInBounds_toArray, List.set_cons_zero, List.set_cons_succ]
      refine wpAnyH_done (by kernel_rfl) ?_ _
      have HB1 := Lib.hid (HW.out.trans (B1.out.mono HW.out.size))
      clear hS
      go_wp2
      go_roundg (yl - (k + 1))
      case measure => omega
      case rel => exact ⟨k + 1, by go_num, by omega, Nat.le_refl _, HB1⟩
    · obtain rfl : k = yl := by omega
      have u1 : ¬ (k : Int) < (k : Int) := by omega
      have HBE := Lib.hid (HB.out.trans (HW.out.mono HB.out.size))
      go_wp2
      go_ret
      exact ⟨rfl, HBE.out⟩
end Go.Proofs.YtbidadkcdchomaaDoor

/- PlanLater, at any house and batches in memory. (By gen_plater.py.) -/
set_option linter.unusedVariables false
set_option linter.unusedSimpArgs false
namespace Go.Proofs.YtbidadkcdchomaaDoor
open Go.RowKit

/-- the first k batches are later -/
def laterK (bn : List BN) (d k : Nat) : List BN := (laterN bn d).take k ++ bn.drop k
theorem laterK_zero (bn : List BN) (d : Nat) : laterK bn d 0 = bn := by simp [laterK]
theorem laterK_all (bn : List BN) (d n : Nat) (h : bn.length = n) : laterK bn d n = laterN bn d := by
  unfold laterK
  rw [List.take_of_length_le (by rw [laterN_len, h]; exact Nat.le_refl _), List.drop_of_length_le (by rw [h]; exact Nat.le_refl _), List.append_nil]
theorem laterK_step (bn : List BN) (d k : Nat) (h : k < bn.length) : laterK bn d (k + 1) = (laterK bn d k).set k ⟨bn[k]!.rdy + d, bn[k]!.tm⟩ := by
  unfold laterK
  have hl : ((laterN bn d).take k).length = k := by rw [List.length_take, laterN_len]; omega
  rw [List.set_append_right _ _ (by omega), hl, Nat.sub_self, List.drop_eq_getElem_cons h, List.set_cons_zero, List.take_add_one, List.append_assoc]
  congr 1
  rw [List.getElem?_eq_getElem (by rw [laterN_len]; exact h), ← getElem!_pos (laterN bn d) k (by rw [laterN_len]; exact h), laterN_at d h]
  rfl
theorem laterK_at (bn : List BN) (d k : Nat) (h : k < bn.length) : (laterK bn d k)[k]! = bn[k]! := by
  unfold laterK
  have hl : ((laterN bn d).take k).length = k := by rw [List.length_take, laterN_len]; omega
  rw [getElem!_pos _ k (by rw [List.length_append, hl, List.length_drop]; omega), List.getElem_append_right (by omega), getElem!_pos bn k h]
  simp [hl]
theorem laterK_len (bn : List BN) (d k : Nat) (h : k ≤ bn.length) : (laterK bn d k).length = bn.length := by
  unfold laterK
  rw [List.length_append, List.length_take, laterN_len, List.length_drop]
  omega
theorem map_fst_set (l : List (Bt × TS)) (bn : List BN) (d k : Nat) (hm : l.map (·.1) = (laterK bn d k).map bI) (h : k < bn.length) : (l.set k (⟨(bn[k]!.rdy : Int) + (d : Int), (l[k]!).1.tm⟩, (l[k]!).2)).map (·.1) = (laterK bn d (k + 1)).map bI ∧ (l[k]!).1.rdy = (bn[k]!.rdy : Int) := by
  have hl : l.length = bn.length := by
    have := congrArg List.length hm
    simpa [laterK_len bn d k (by omega)] using this
  have hk : (l[k]!).1 = bI bn[k]! := by
    have e1 : (l.map (·.1))[k]! = (l[k]!).1 := by rw [getElem!_pos _ k (by simpa using (by omega : k < l.length)), getElem!_pos l k (by omega), List.getElem_map]
    rw [← e1, hm, bI_at (by rw [laterK_len bn d k (by omega)]; exact h), laterK_at bn d k h]
  refine ⟨?_, by rw [hk]; rfl⟩
  rw [List.map_set, hm, laterK_step bn d k h, List.map_set, hk]
  congr 1
theorem set_out {W w : World} {n g cap : Nat} {l : List (Bt × TS)} (h : OwnC w W.heap.size (.slice (some ⟨g, 0, none⟩) n cap) n l) (hn : 0 < n) (hb : Below W.heap.size W w) (o : Nat) (x : Value) : Below W.heap.size W (w.setCell ⟨g, o, none⟩ x) :=
  hb.setCell (p := ⟨g, o, none⟩) (World.ownsRow.lt h.own g rfl).1 _
theorem set_two {w : World} {T : Nat} {a0 a1 a2 x0 x1 : Value} {ty : TypeId} (h : w.heap[T]? = some (.cells #[a0, a1, a2] ty (0, 0))) :
    ((w.setCell ⟨T, 0, none⟩ x0).setCell ⟨T, 1, none⟩ x1).heap[T]? = some (.cells #[x0, x1, a2] ty (0, 0)) := by
  simp only [World.setCell, Array.getElem?_modify]
  rw [h]
  simp
set_option maxRecDepth 100000 in
set_option maxHeartbeats 8000000 in
theorem later_walk (vs : List Int) (bs : List Bt) (st : Nat) (va : Option Addr) (vl vc : Nat) (ba : Option Addr) (bl bc : Nat) (W : World)
    (hv : Il W va vl vs) (hb : Bats W ba bl bs) (hN : NowM W) (hvl : vl ≤ 9223372036854775807) (hbl : bl ≤ 9223372036854775807) (hst : st ≤ 255) :
    Calls Tryd.prog 7 #[.slice va vl vc, .slice ba bl bc, .int .u8 (st : Int)] W (YesL W) := by
  have HVI := Lib.hid hv
  have HBB := Lib.hid hb
  have HNN := Lib.hid hN
  clear hv hb hN
  go_enter Tryd.func7, Tryd.ntmps7
  go_upto_region 1 with fail
  go_wp2_with fail
  refine (few_any va vl vc ba bl bc bs W HBB.out).mono ?_
  rintro e w1 ⟨b, rfl, hb1⟩
  have HB1 := Lib.hid hb1
  clear hb1
  cases b with
  | false =>
    have PA := Lib.hid (awake_any w1 (HNN.out.keep HB1.out))
    go_wp2_with (go_at_call 9; refine PA.out.mono ?_; rintro e wz ⟨rfl, hbz⟩; have HBZ := Lib.hid (below_then HB1.out hbz); clear hbz)
    go_ret
    exact ⟨rfl, HBZ.out⟩
  | true =>
    go_wp2_with fail
    refine (task_any va vl vc ba bl bc vs bs w1 (HVI.out.keep HB1.out) (HBB.out.keep HB1.out) hvl hbl).mono ?_
    rintro e w3 ⟨⟨ht, rfl⟩ | ⟨ht, rfl⟩, hb3⟩
    · have HB3 := Lib.hid (below_then HB1.out hb3)
      obtain ⟨vn, bn, rfl, rfl, hT⟩ := task_nat ht
      have HTP := Lib.hid ht
      have HT := Lib.hid hT
      have HL := Lib.hid (few_bats HBB.out)
      clear hb3 ht hT
      go_wp2_with fail
      refine (work_any ba bl bc w3 (HBB.out.keep HB3.out) HT.out).mono ?_
      rintro e w4 ⟨wk, rfl, hb4⟩
      have HB4 := Lib.hid (below_then HB3.out hb4)
      clear hb4
      by_cases hwk : (100000 : Int) < wk
      · skip
        have PA := Lib.hid (awake_any w4 (HNN.out.keep HB4.out))
        go_wp2_with (go_at_call 9; refine PA.out.mono ?_; rintro e wz ⟨rfl, hbz⟩; have HBZ := Lib.hid (below_then HB4.out hbz); clear hbz)
        go_ret
        exact ⟨rfl, HBZ.out⟩
      · have h5 : bl ≤ 5 := by have := HT.out.few; have := HL.out; omega
        have hv3 : vl ≤ 3 := by have := HT.out.house.few; have h := HVI.out.len; rw [vI_len] at h; omega
        by_cases h0 : bl = 0
        · have u0 : (bl : Int) = 0 := by omega
          have PA := Lib.hid (awake_any w4 (HNN.out.keep HB4.out))
          go_wp2_with (go_at_call 9; refine PA.out.mono ?_; rintro e wz ⟨rfl, hbz⟩; have HBZ := Lib.hid (below_then HB4.out hbz); clear hbz)
          go_ret
          exact ⟨rfl, HBZ.out⟩
        · have u0 : ¬ (bl : Int) = 0 := by omega
          have hpos : 0 < bl := by omega
          have PC := Lib.hid (copied_any ba bl bc (bn.map bI) w4 (HBB.out.keep HB4.out) (by omega) (fun i hi => by rw [bI_at (by rw [HL.out]; exact hi)]; show (vI bn[i]!.tm).length ≤ 1000; rw [vI_len, HT.out.len i (by rw [HL.out]; exact hi)]; have := HT.out.house.few; omega))
          go_upto_region 3 with fail
          · exfalso
            have hh : (100000 : Int) < wk ∨ ((bl : Int) == 0) = true := by assumption
            rcases hh with hh | hh
            · omega
            · have hh := eq_of_beq hh
              omega
          go_wp2_with fail
          refine PC.out.mono ?_
          rintro e w5 ⟨v5, l5, rfl, ho5, hm5, hb5⟩
          obtain ⟨g, cap, rfl, _, _⟩ := World.ownsRow.form ho5.own hpos
          have HO5 := Lib.hid (show OwnC w5 w4.heap.size (.slice (some ⟨g, 0, none⟩) bl cap) bl l5 from ho5)
          have HB5 := Lib.hid hb5
          have HM5 : Hid (l5.map (·.1) = (laterK bn (st % 31) 0).map bI) := Lib.hid (by rw [laterK_zero]; exact hm5)
          clear ho5 hm5 hb5
          obtain ⟨d, hd⟩ : ∃ d, d = st % 31 := ⟨_, rfl⟩
          have hdm : (st : Int) % 31 = (d : Int) := by omega
          have hd30 : d ≤ 30 := by omega
          rw [← hd] at HM5
          clear hd
          go_wp2
          have HL' := Lib.hid (laterN_len bn d)
          go_loopg [39] bl (fun gg s39 wr => ∃ (k : Nat) (l : List (Bt × TS)), s39 = .int .i64 (k : Int) ∧ k ≤ bl ∧ bl - k ≤ gg ∧ Hid (OwnC wr w4.heap.size (.slice (some ⟨g, 0, none⟩) bl cap) bl l) ∧ Hid (l.map (·.1) = (laterK bn d k).map bI) ∧ Hid (Below w4.heap.size w4 wr))
          case atStart => exact ⟨0, l5, rfl, Nat.zero_le _, by omega, HO5, HM5, HB5⟩
          case round =>
            obtain ⟨k, l, rfl, hk, hgg, HO, HM, HW⟩ := hrel
            by_cases h1 : k < bl
            · have t0 : (0 : Int) ≤ (k : Int) := by omega
              have t1 : (k : Int) < (bl : Int) := by omega
              obtain ⟨e1, e2⟩ := map_fst_set l bn d k HM.out (by rw [HL.out]; exact h1)
              have E1 := Lib.hid e1
              have hr := HT.out.rdy k (by rw [HL.out]; exact h1)
              have c0 := World.ownsRow.cellAt HO.out.own (k * 2) (by omega)
              have c1 := flatC_get l k 0 (by omega) (by rw [HO.out.len]; exact h1)
              rw [Nat.add_zero] at c1
              rw [c1, if_pos rfl, e2] at c0
              have f0 := World.ownsRow.frozenAt HO.out.own (k * 2)
              have HO' := Lib.hid (HO.out.store h1 ((bn[k]!.rdy : Int) + (d : Int)))
              have HB' := Lib.hid (set_out HO.out hpos HW.out (k * 2) (.int .i64 ((bn[k]!.rdy : Int) + (d : Int))))
              generalize bn[k]!.rdy = r at c0 hr HO' HB' E1
              clear e1 e2 c1
              go_wp2
              go_roundg (bl - (k + 1))
              case measure => omega
              case rel => exact ⟨k + 1, _, by go_num, by omega, Nat.le_refl _, HO', E1, HB'⟩
            · obtain rfl : k = bl := by omega
              have t1 : ¬ (k : Int) < (k : Int) := by omega
              have hm := HM.out
              rw [laterK_all bn d k HL.out] at hm
              obtain ⟨ao, cap', he, hbt, hcp⟩ := HO.out.bats
              cases he
              rw [hm] at hbt
              have HBL := Lib.hid hbt
              have HWW := Lib.hid (below_then HB4.out HW.out)
              clear hm hbt
              go_upto_region 9 with fail
              go_wp2_with fail
              refine (task_any va vl vc (some ⟨g, 0, none⟩) k cap (vI vn) ((laterN bn d).map bI) wr (HVI.out.keep HWW.out) HBL.out hvl hbl).mono ?_
              rintro e w6 ⟨⟨ht, rfl⟩ | ⟨ht, rfl⟩, hb6⟩
              · have HB6 := Lib.hid (below_then HWW.out hb6)
                obtain ⟨vn2, bn2, k1, k2, hT2⟩ := task_nat ht
                obtain rfl := vI_inj k1
                have k3 := bI_inj k2
                subst k3
                have HT2 := Lib.hid hT2
                have HWk := Lib.hid hb6
                clear ht hb6 k1 k2 hT2
                have HLL : Hid ((laterN bn d).length = k) := Lib.hid (by rw [laterN_len]; exact HL.out)
                have PA1 := Lib.hid (best_any (vI vn) (bn.map bI) va vl vc ba k bc w6 (HVI.out.keep HB6.out) (HBB.out.keep HB6.out) (HNN.out.keep HB6.out) hvl hbl (fun vn' bn' h1 h2 h3 => has_best h3 (by rw [← bI_inj h2]; exact HL.out)))
                go_upto_region 11 with fail
                go_wp2_with fail
                refine PA1.out.mono ?_
                rintro e w7 ⟨hb7, ⟨hn, _⟩ | ⟨_, vn', bn', h1, h2, _, ho⟩⟩
                · exact absurd HTP.out hn
                obtain rfl := vI_inj h1
                have hbn := bI_inj h2
                subst hbn
                rcases ho with ⟨hno, rfl⟩ | ⟨en, ss, col, sa, sc, ya, hbest, rfl, hss, hrows⟩
                · obtain ⟨w8, hw8⟩ : ∃ w8, w8 = w7.alloc (.cells #[.int .i64 0, .slice none 0 0, .slice none 0 0] 28) := ⟨_, rfl⟩
                  have HB68 : Hid (Below w6.heap.size w6 w8) := Lib.hid (by rw [hw8]; exact below_then hb7 (box_below w7 _))
                  have HB8 := Lib.hid (below_then HB6.out HB68.out)
                  have HBk := Lib.hid (below_then HWk.out HB68.out)
                  have HNO := Lib.hid hno
                  clear hb7 hno h1 h2
                  have PB := Lib.hid (best_any (vI vn) ((laterN bn d).map bI) va vl vc (some ⟨g, 0, none⟩) k cap w8 (HVI.out.keep HB8.out) (HBL.out.keep HBk.out) (HNN.out.keep HB8.out) hvl hbl (fun vn' bn' h1 h2 h3 => has_best h3 (by rw [← bI_inj h2]; exact HLL.out)))
                  go_upto_region 12 with fail
                  rw [← hw8]
                  clear hw8
                  go_wp2_with fail
                  refine PB.out.mono ?_
                  rintro e w9 ⟨hb9, ⟨hn, _⟩ | ⟨_, vn', bn', h1, h2, _, ho⟩⟩
                  · exact absurd HT2.out.taskP hn
                  obtain rfl := vI_inj h1
                  have hbn := bI_inj h2
                  subst hbn
                  rcases ho with ⟨hno2, rfl⟩ | ⟨en2, ss2, col2, sa2, sc2, ya2, hbest2, rfl, hss2, hrows2⟩
                  · obtain ⟨w10, hw10⟩ : ∃ w10, w10 = w9.alloc (.cells #[.int .i64 0, .slice none 0 0, .slice none 0 0] 28) := ⟨_, rfl⟩
                    have HB810 : Hid (Below w8.heap.size w8 w10) := Lib.hid (by rw [hw10]; exact below_then hb9 (box_below w9 _))
                    have HB10 := Lib.hid (below_then HB8.out HB810.out)
                    clear hb9 hno2 h1 h2
                    go_upto_region 13 with fail
                    rw [← hw10]
                    clear hw10
                    have PA := Lib.hid (awake_any w10 (HNN.out.keep HB10.out))
                    go_wp2_with (go_at_call 9; refine PA.out.mono ?_; rintro e wz ⟨rfl, hbz⟩; have HBZ := Lib.hid (below_then HB10.out hbz); clear hbz)
                    go_ret
                    exact ⟨rfl, HBZ.out⟩
                  · exact (none_later HT.out HT2.out HL.out hpos HNO.out hbest2).elim
                · have HBE := Lib.hid hbest
                  have hen : en ≤ 30 := hbest.le
                  obtain ⟨w8, hw8⟩ : ∃ w8, w8 = w7.alloc (.cells #[.int .i64 (en : Int), .slice sa k sc, .slice ya k k] 28) := ⟨_, rfl⟩
                  have HB68 : Hid (Below w6.heap.size w6 w8) := Lib.hid (by rw [hw8]; exact below_then hb7 (box_below w7 _))
                  have HB8 := Lib.hid (below_then HB6.out HB68.out)
                  have HBk := Lib.hid (below_then HWk.out HB68.out)
                  have RA8 : Hid (w8.heap[w7.heap.size]? = some (.cells #[.int .i64 (en : Int), .slice sa k sc, .slice ya k k] 28 (0, 0))) := Lib.hid (by rw [hw8]; exact new_row w7 _)
                  have HS8 : Hid (Il w8 sa k (vI ss)) := Lib.hid (by rw [hw8]; exact hss.keep (box_below w7 _))
                  have HY8 : Hid (Rows2 w8 ya k (rowsB col k vn.length)) := Lib.hid (by rw [hw8]; exact hrows.keep (box_below w7 _))
                  clear hb7 hbest hss hrows h1 h2
                  have PB := Lib.hid (best_any (vI vn) ((laterN bn d).map bI) va vl vc (some ⟨g, 0, none⟩) k cap w8 (HVI.out.keep HB8.out) (HBL.out.keep HBk.out) (HNN.out.keep HB8.out) hvl hbl (fun vn' bn' h1 h2 h3 => has_best h3 (by rw [← bI_inj h2]; exact HLL.out)))
                  go_upto_region 12 with fail
                  rw [← hw8]
                  clear hw8
                  go_wp2_with fail
                  refine PB.out.mono ?_
                  rintro e w9 ⟨hb9, ⟨hn, _⟩ | ⟨_, vn', bn', h1, h2, _, ho⟩⟩
                  · exact absurd HT2.out.taskP hn
                  obtain rfl := vI_inj h1
                  have hbn := bI_inj h2
                  subst hbn
                  rcases ho with ⟨hno2, rfl⟩ | ⟨en2, ss2, col2, sa2, sc2, ya2, hbest2, rfl, hss2, hrows2⟩
                  · obtain ⟨w10, hw10⟩ : ∃ w10, w10 = w9.alloc (.cells #[.int .i64 0, .slice none 0 0, .slice none 0 0] 28) := ⟨_, rfl⟩
                    have HB810 : Hid (Below w8.heap.size w8 w10) := Lib.hid (by rw [hw10]; exact below_then hb9 (box_below w9 _))
                    have HB10 := Lib.hid (below_then HB8.out HB810.out)
                    have hgt := later_none HT.out HT2.out HL.out HBE.out hno2
                    have v1 : (30 : Int) < (en : Int) + (d : Int) := by omega
                    obtain ⟨a0, a1, a2⟩ := cells3 (row_keep HB810.out RA8.out)
                    clear hb9 hno2 h1 h2 hgt
                    go_upto_region 13 with fail
                    rw [← hw10]
                    clear hw10
                    have PA := Lib.hid (awake_any w10 (HNN.out.keep HB10.out))
                    go_wp2_with (go_at_call 9; refine PA.out.mono ?_; rintro e wz ⟨rfl, hbz⟩; have HBZ := Lib.hid (below_then HB10.out hbz); clear hbz)
                    go_ret
                    exact ⟨rfl, HBZ.out⟩
                  · obtain ⟨he1, he2, he3⟩ := HBE.out.later HT.out HT2.out HL.out hpos hbest2
                    have hz : (en2 : Int) = (en : Int) + (d : Int) := by omega
                    rw [hz]
                    have HSS2 : Hid (ss2 = ss.map (· + d)) := Lib.hid he2
                    obtain ⟨w10, hw10⟩ : ∃ w10, w10 = w9.alloc (.cells #[.int .i64 ((en : Int) + (d : Int)), .slice sa2 k sc2, .slice ya2 k k] 28) := ⟨_, rfl⟩
                    have HB810 : Hid (Below w8.heap.size w8 w10) := Lib.hid (by rw [hw10]; exact below_then hb9 (box_below w9 _))
                    have HB10 := Lib.hid (below_then HB8.out HB810.out)
                    have RB10 : Hid (w10.heap[w9.heap.size]? = some (.cells #[.int .i64 ((en : Int) + (d : Int)), .slice sa2 k sc2, .slice ya2 k k] 28 (0, 0))) := Lib.hid (by rw [hw10]; exact new_row w9 _)
                    have RA10 := Lib.hid (row_keep HB810.out RA8.out)
                    have HS2 : Hid (Il w10 sa2 k (vI ss2)) := Lib.hid (by rw [hw10]; exact hss2.keep (box_below w9 _))
                    have HY2 : Hid (Rows2 w9 ya2 k (rowsB col k vn.length)) := Lib.hid (by rw [← he3]; exact hrows2)
                    have HB9 : Hid (Below w9.heap.size w9 w10) := Lib.hid (by rw [hw10]; exact box_below w9 _)
                    have HZ9 : Hid (w8.heap.size ≤ w9.heap.size) := Lib.hid hb9.size
                    have HNE : Hid (w7.heap.size < w9.heap.size) := Lib.hid (Nat.lt_of_lt_of_le (Array.getElem?_eq_some_iff.1 RA8.out).1 hb9.size)
                    obtain ⟨a0, a1, a2⟩ := cells3 RA10.out
                    obtain ⟨b0, b1, b2⟩ := cells3 RB10.out
                    clear hb9 h1 h2 hbest2 hss2 hrows2 he1 he2 he3 hz
                    go_upto_region 15 with fail
                    rw [← hw10]
                    clear hw10
                    go_wp2
                    have HLS : Hid (ss.length = k) := Lib.hid (HBE.out.truth HT.out HL.out).len
                    go_loopg [116] k (fun gg s116 wz => ∃ i : Nat, s116 = .int .i64 (i : Int) ∧ i ≤ k ∧ k - i ≤ gg ∧ Hid (Drew w10 wz))
                    case atStart => exact ⟨0, rfl, Nat.zero_le _, by omega, Lib.hid (Drew.refl _)⟩
                    case round =>
                      obtain ⟨i, rfl, hi, hgi, HD⟩ := hrel
                      have HBd := Lib.hid (HD.out.below (B := w10.heap.size))
                      obtain ⟨a0, a1, a2⟩ := cells3 (row_keep HBd.out RA10.out)
                      obtain ⟨b0, b1, b2⟩ := cells3 (row_keep HBd.out RB10.out)
                      by_cases h2 : i < k
                      · have i0 : (0 : Int) ≤ (i : Int) := by omega
                        have i1 : (i : Int) < (k : Int) := by omega
                        obtain ⟨g1, o1, rfl, hc1⟩ := (HS8.out.keep (HB810.out.trans (HBd.out.mono HB810.out.size))).at (by omega)
                        obtain ⟨g2, o2, rfl, hc2⟩ := (HS2.out.keep HBd.out).at (by omega)
                        have c1 := hc1 i h2
                        have c2 := hc2 i h2
                        rw [vI_get] at c1 c2
                        rw [HSS2.out, map_add_get _ _ _ (by rw [HLS.out]; exact h2), Int.natCast_add] at c2
                        have hs := HBE.out.s30 i h2
                        generalize ss[i]! = x at c1 c2 hs
                        clear hc1 hc2
                        go_wp2
                        go_quiet (fail)
                        go_wp2
                        go_roundg (k - (i + 1))
                        case measure => omega
                        case rel => exact ⟨i + 1, by go_num, by omega, Nat.le_refl _, Lib.hid (HD.out.more _)⟩
                      · obtain rfl : i = k := by omega
                        have i1 : ¬ (i : Int) < (i : Int) := by omega
                        have fb0 := free_row (row_keep HBd.out RB10.out) 0
                        have fb1 := free_row (row_keep HBd.out RB10.out) 1
                        go_upto_region 23 with fail
                        go_region
                        obtain ⟨wE, hwE⟩ : ∃ wE, wE = ((wr.setCell ⟨w9.heap.size, 0, none⟩ (.int .i64 (en : Int))).setCell ⟨w9.heap.size, 1, none⟩ (.slice sa i sc)).drew := ⟨_, rfl⟩
                        have HBE9 : Hid (Below w9.heap.size w9 wE) := Lib.hid (by rw [hwE]; exact (((HB9.out.trans (HBd.out.mono HB9.out.size)).setCell (p := ⟨w9.heap.size, 0, none⟩) (Nat.le_refl _) _).setCell (p := ⟨w9.heap.size, 1, none⟩) (Nat.le_refl _) _).drew)
                        have HBE8 : Hid (Below w8.heap.size w8 wE) := Lib.hid (by rw [hwE]; exact (((HB810.out.trans (HBd.out.mono HB810.out.size)).setCell (p := ⟨w9.heap.size, 0, none⟩) HZ9.out _).setCell (p := ⟨w9.heap.size, 1, none⟩) HZ9.out _).drew)
                        have HBEW := Lib.hid (below_then HB8.out HBE8.out)
                        obtain ⟨a0, a1, a2⟩ := cells3 (row_keep HBE8.out RA8.out)
                        have RBE : wE.heap[w9.heap.size]? = some (.cells #[.int .i64 (en : Int), .slice sa i sc, .slice ya2 i i] 28 (0, 0)) := by rw [hwE]; exact set_two (row_keep HBd.out RB10.out)
                        obtain ⟨b0, b1, b2⟩ := cells3 RBE
                        rw [← hwE]
                        clear hwE RBE fb0 fb1
                        go_upto_region 24 with fail
                        go_wp2_with fail
                        refine (sched_same (en : Int) sa sa ya ya2 i sc sc i i i (vI ss) (rowsB col i vn.length) wE (HS8.out.keep HBE8.out) (HS8.out.keep HBE8.out) (HY8.out.keep HBE8.out) (HY2.out.keep HBE9.out) (by omega) (by omega) (fun q hq => by rw [rowsB_at _ _ _ _ hq, vI_len, rowG_len]; have := HT.out.house.few; omega)).mono ?_
                        rintro e wF ⟨rfl, hbF⟩
                        have HBF := Lib.hid (below_then HBEW.out hbF)
                        clear hbF
                        have PA := Lib.hid (awake_any wF (HNN.out.keep HBF.out))
                        go_wp2_with (go_at_call 9; refine PA.out.mono ?_; rintro e wz ⟨rfl, hbz⟩; have HBZ := Lib.hid (below_then HBF.out hbz); clear hbz)
                        go_ret
                        exact ⟨rfl, HBZ.out⟩
              · have HB6 := Lib.hid (below_then HWW.out hb6)
                clear hb6 ht
                have PA := Lib.hid (awake_any w6 (HNN.out.keep HB6.out))
                go_wp2_with (go_at_call 9; refine PA.out.mono ?_; rintro e wz ⟨rfl, hbz⟩; have HBZ := Lib.hid (below_then HB6.out hbz); clear hbz)
                go_ret
                exact ⟨rfl, HBZ.out⟩
    · have HB3 := Lib.hid (below_then HB1.out hb3)
      clear hb3 ht
      have PA := Lib.hid (awake_any w3 (HNN.out.keep HB3.out))
      go_wp2_with (go_at_call 9; refine PA.out.mono ?_; rintro e wz ⟨rfl, hbz⟩; have HBZ := Lib.hid (below_then HB3.out hbz); clear hbz)
      go_ret
      exact ⟨rfl, HBZ.out⟩
end Go.Proofs.YtbidadkcdchomaaDoor
