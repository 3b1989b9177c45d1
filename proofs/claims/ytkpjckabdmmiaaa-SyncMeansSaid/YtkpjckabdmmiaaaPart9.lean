/- Part 9 of the contracts: NWr, NSettlesW. -/
import Derived.Laws.MakeOwn
import Derived.Deep.RegionLawGrows
import Derived.IntWalk
import Derived.Test.YtkpjckabdmmiaaaPart8

/- Rows of writes in memory. No function of the program is walked here. (By gen_nwr.py.) -/
set_option linter.unusedVariables false
set_option linter.unusedSimpArgs false
namespace Go.Proofs.Ytkpjckabdmmiaaa
open Go.RowKit Go.Shelf Go.Sort

def wrC (x : Wr) : List Value := [.string x.e.key, .string x.e.val, .int .i64 (x.e.site : Int), .int .i64 (x.e.count : Int), .bool (x.gone 0), .bool (x.gone 1), .bool (x.gone 2), .bool (x.gone 3), .bool (x.gone 4), .bool (x.gone 5), .bool (x.gone 6), .bool (x.gone 7), .bool x.any]
def flatW (l : List Wr) : List Value := l.flatMap wrC
theorem wrC_len (x : Wr) : (wrC x).length = 13 := rfl
theorem flatW_len : ∀ l : List Wr, (flatW l).length = l.length * 13
  | [] => rfl
  | x :: l => by
    have := flatW_len l
    unfold flatW at *
    rw [List.flatMap_cons, List.length_append, this, wrC_len, List.length_cons]; omega
theorem flatW_get : ∀ (l : List Wr) (i c : Nat), c < 13 → (flatW l)[i * 13 + c]? = (l[i]?).bind fun x => (wrC x)[c]?
  | [], i, c, _ => by simp [flatW]
  | x :: l, 0, c, hc => by
    unfold flatW
    rw [List.flatMap_cons, Nat.zero_mul, Nat.zero_add, List.getElem?_append_left (by rw [wrC_len]; exact hc)]
    rfl
  | x :: l, i + 1, c, hc => by
    have := flatW_get l i c hc
    unfold flatW at *
    rw [List.flatMap_cons, List.getElem?_append_right (by rw [wrC_len]; omega), List.getElem?_cons_succ, ← this]
    congr 1
    rw [wrC_len]; omega
theorem flatW_app (l k : List Wr) : flatW (l ++ k) = flatW l ++ flatW k := by unfold flatW; simp
theorem wrC_one (x : Wr) : ∀ u ∈ wrC x, u.oneCell' = true := by
  intro u hu
  simp only [wrC, List.mem_cons, List.not_mem_nil, or_false] at hu
  rcases hu with rfl | rfl | rfl | rfl | rfl | rfl | rfl | rfl | rfl | rfl | rfl | rfl | rfl <;> rfl
def WrAt (w : World) (g o : Nat) (x : Wr) : Prop := w.cell? ⟨g, o, none⟩ = some (.string x.e.key) ∧ w.cell? ⟨g, o + 1, none⟩ = some (.string x.e.val) ∧ w.cell? ⟨g, o + 2, none⟩ = some (.int .i64 (x.e.site : Int)) ∧ w.cell? ⟨g, o + 3, none⟩ = some (.int .i64 (x.e.count : Int)) ∧ w.cell? ⟨g, o + 4, none⟩ = some (.bool (x.gone 0)) ∧ w.cell? ⟨g, o + 5, none⟩ = some (.bool (x.gone 1)) ∧ w.cell? ⟨g, o + 6, none⟩ = some (.bool (x.gone 2)) ∧ w.cell? ⟨g, o + 7, none⟩ = some (.bool (x.gone 3)) ∧ w.cell? ⟨g, o + 8, none⟩ = some (.bool (x.gone 4)) ∧ w.cell? ⟨g, o + 9, none⟩ = some (.bool (x.gone 5)) ∧ w.cell? ⟨g, o + 10, none⟩ = some (.bool (x.gone 6)) ∧ w.cell? ⟨g, o + 11, none⟩ = some (.bool (x.gone 7)) ∧ w.cell? ⟨g, o + 12, none⟩ = some (.bool x.any)
theorem infoW : (Try.prog.info? 88).map (fun i => (i.zero, i.size, i.bytes)) = some (some (.agg #[.string ⟨#[]⟩, .string ⟨#[]⟩, .int .i64 0, .int .i64 0, .bool false, .bool false, .bool false, .bool false, .bool false, .bool false, .bool false, .bool false, .bool false]), 13, 64) := by kernel_rfl
/-- one cell of a row is changed -/
theorem flatW_one {l : List Wr} {j c : Nat} {y : Wr} {v : Value} (hj : j < l.length) (hc : c < 13) (h1 : (wrC y)[c]? = some v) (h2 : ∀ d, d < 13 → d ≠ c → (wrC y)[d]? = (wrC l[j]!)[d]?) : flatW (l.set j y) = (flatW l).set (j * 13 + c) v := by
  apply List.ext_getElem?
  intro q
  have hq : q = q / 13 * 13 + q % 13 := by omega
  have hd : q % 13 < 13 := by omega
  rw [hq]
  generalize q / 13 = i
  generalize q % 13 = d at hd
  have hl := flatW_len l
  rw [flatW_get _ _ _ hd]
  by_cases hi : i = j
  · subst hi
    rw [List.getElem?_set_self hj]
    by_cases e : d = c
    · subst e
      rw [List.getElem?_set_self (by omega)]
      exact h1
    · rw [List.getElem?_set_ne (by omega), flatW_get _ _ _ hd, List.getElem?_eq_getElem hj, ← getElem!_pos l i hj]
      exact h2 d hd e
  · rw [List.getElem?_set_ne (Ne.symm hi), List.getElem?_set_ne (by omega), flatW_get _ _ _ hd]
theorem gone_cell {x : Wr} {r : Nat} (hr : r < 8) : (wrC x)[4 + r]? = some (.bool (x.gone r)) := by
  have : r = 0 ∨ r = 1 ∨ r = 2 ∨ r = 3 ∨ r = 4 ∨ r = 5 ∨ r = 6 ∨ r = 7 := by omega
  rcases this with rfl | rfl | rfl | rfl | rfl | rfl | rfl | rfl <;> rfl
theorem flatW_gone {l : List Wr} {j r : Nat} (hj : j < l.length) (hr : r < 8) : flatW (l.set j ⟨l[j]!.e, fun i => if i = r then true else l[j]!.gone i, l[j]!.any⟩) = (flatW l).set (j * 13 + (4 + r)) (.bool true) := by
  refine flatW_one hj (by omega) (by rw [gone_cell hr]; simp) fun d hd hne => ?_
  have h13 : d = 0 ∨ d = 1 ∨ d = 2 ∨ d = 3 ∨ d = 12 ∨ ∃ q, q < 8 ∧ d = 4 + q := by
    by_cases h : 4 ≤ d ∧ d < 12
    · exact .inr (.inr (.inr (.inr (.inr ⟨d - 4, by omega, by omega⟩))))
    · omega
  rcases h13 with rfl | rfl | rfl | rfl | rfl | ⟨q, hq, rfl⟩
  · rfl
  · rfl
  · rfl
  · rfl
  · rfl
  · rw [gone_cell hq, gone_cell hq]
    simp only
    rw [if_neg (by omega)]
theorem flatW_any {l : List Wr} {j : Nat} (hj : j < l.length) : flatW (l.set j ⟨l[j]!.e, l[j]!.gone, true⟩) = (flatW l).set (j * 13 + 12) (.bool true) := by
  refine flatW_one hj (by omega) rfl fun d hd hne => ?_
  have h13 : d = 0 ∨ d = 1 ∨ d = 2 ∨ d = 3 ∨ ∃ q, q < 8 ∧ d = 4 + q := by
    by_cases h : 4 ≤ d ∧ d < 12
    · exact .inr (.inr (.inr (.inr ⟨d - 4, by omega, by omega⟩)))
    · omega
  rcases h13 with rfl | rfl | rfl | rfl | ⟨q, hq, rfl⟩
  · rfl
  · rfl
  · rfl
  · rfl
  · rw [gone_cell hq, gone_cell hq]

/-- entries keep, where a block changes whose first four cells stay and whose fifth is a truth value -/
theorem RowE.frmW {w w' : World} {g gw : Nat} {xs : List Ent} (h : RowE w g xs) (hf : Frm (fun j => j = gw) w w') (h4 : ∃ b, w.cell? ⟨gw, 4, none⟩ = some (.bool b)) (h03 : ∀ o, o < 4 → w'.cell? ⟨gw, o, none⟩ = w.cell? ⟨gw, o, none⟩) : RowE w' g xs := by
  refine ⟨Nat.lt_of_lt_of_le h.1 hf.size, fun i hi => ?_⟩
  by_cases hg : g = gw
  · subst hg
    have hi0 : i = 0 := by
      rcases Nat.eq_zero_or_pos i with e | e
      · exact e
      · obtain ⟨b, hb⟩ := h4
        have := (h.2 1 (by omega)).1
        rw [Nat.one_mul, hb] at this
        cases this
    subst hi0
    obtain ⟨a, b, c, d⟩ := h.2 0 hi
    rw [Nat.zero_mul] at a b c d ⊢
    exact ⟨(h03 0 (by omega)).trans a, (h03 1 (by omega)).trans b, (h03 2 (by omega)).trans c, (h03 3 (by omega)).trans d⟩
  · obtain ⟨a, b, c, d⟩ := h.2 i hi
    exact ⟨hf.cell a hg, hf.cell b hg, hf.cell c hg, hf.cell d hg⟩
theorem held_frmW {w w' : World} {m : Nat} {T : Tab} {ao : Option Addr} {n gw : Nat} (h : Held w m T ao n) (hf : Frm (fun j => j = gw) w w') (h4 : ∃ b, w.cell? ⟨gw, 4, none⟩ = some (.bool b)) (h03 : ∀ o, o < 4 → w'.cell? ⟨gw, o, none⟩ = w.cell? ⟨gw, o, none⟩) : Held w' m T ao n := by
  refine ⟨?_, h.ok⟩
  obtain ⟨h1, h2⟩ := h.el
  refine ⟨h1, ?_⟩
  rcases h2 with h2 | ⟨g, h2, h3⟩
  · exact .inl h2
  · exact .inr ⟨g, h2, h3.frmW hf h4 h03⟩
theorem NetR.farK {G : Nat → Prop} {w w' : World} {m b g : Nat} {lo : Option Addr} {lc : Nat} {ts : List Slot} {ms : List LSlot} (h : NetR w m b g lo lc ts ms) (hf : Frm G w w') (hk : ∀ T ao n, Held w m T ao n → Held w' m T ao n) (hd : ∀ j, Foot b g lo j → ¬ G j) : NetR w' m b g lo lc ts ms := by
  refine ⟨hf.row h.hd (hd _ (.inl rfl)), hf.row h.tb (hd _ (.inr (.inl rfl))), ownsRow_frm h.lt hf (fun j e => ?_), h.bg, h.lb, h.lg, fun j o s e => ?_, fun i hi => hk _ _ _ (h.held i hi), fun i hi => hk _ _ _ (h.mail i hi), h.idx, h.pos, h.few, h.most⟩
  · obtain ⟨o, s, e⟩ := own_block e
    exact hd j (.inr (.inr ⟨o, s, e⟩))
  · obtain ⟨z, hz⟩ := h.li j o s e
    exact ⟨z, hf.cell hz (hd _ (.inr (.inr ⟨o, s, e⟩)))⟩

/-- a row of writes -/
structure WR (w : World) (wo : Option Addr) (n cap : Nat) (ws : List Wr) : Prop where
  len : ws.length = n
  own : w.ownsRow 0 88 13 (.slice wo n cap) n (flatW ws)
  nil : n = 0 → wo = none
theorem WR.start (w : World) : WR w none 0 0 [] := ⟨rfl, World.ownsRow_nil _ _ _ _, fun _ => rfl⟩
theorem WR.far {G : Nat → Prop} {w w' : World} {wo : Option Addr} {n cap : Nat} {ws : List Wr} (h : WR w wo n cap ws) (hf : Frm G w w') (hd : ∀ j o s, wo = some ⟨j, o, s⟩ → ¬ G j) : WR w' wo n cap ws :=
  ⟨h.len, ownsRow_frm h.own hf (fun j e => by obtain ⟨o, s, e⟩ := own_block e; exact hd j o s e), h.nil⟩
theorem WR.form {w : World} {wo : Option Addr} {n cap : Nat} {ws : List Wr} (h : WR w wo n cap ws) (hn : 0 < n) : ∃ j, wo = some ⟨j, 0, none⟩ ∧ j < w.heap.size := by
  obtain ⟨j, c, hv, _, hj⟩ := h.own.form hn
  cases hv
  exact ⟨j, rfl, hj⟩
theorem WR.at {w : World} {g n cap : Nat} {ws : List Wr} (h : WR w (some ⟨g, 0, none⟩) n cap ws) {i : Nat} (hi : i < n) : WrAt w g (i * 13) ws[i]! := by
  have hil : i < ws.length := by rw [h.len]; exact hi
  have hc : ∀ c v, c < 13 → (wrC ws[i]!)[c]? = some v → w.cell? ⟨g, i * 13 + c, none⟩ = some v := fun c v hc hv => by
    have := h.own.cells (g := g) rfl (i * 13 + c) v (by rw [flatW_get _ _ _ hc, List.getElem?_eq_getElem hil, ← getElem!_pos ws i hil]; exact hv)
    rwa [add_off, Nat.zero_add] at this
  exact ⟨hc 0 _ (by omega) rfl, hc 1 _ (by omega) rfl, hc 2 _ (by omega) rfl, hc 3 _ (by omega) rfl, hc 4 _ (by omega) rfl, hc 5 _ (by omega) rfl, hc 6 _ (by omega) rfl, hc 7 _ (by omega) rfl, hc 8 _ (by omega) rfl, hc 9 _ (by omega) rfl, hc 10 _ (by omega) rfl, hc 11 _ (by omega) rfl, hc 12 _ (by omega) rfl⟩
theorem WR.gone {w : World} {g n cap : Nat} {ws : List Wr} (h : WR w (some ⟨g, 0, none⟩) n cap ws) {i r : Nat} (hi : i < n) (hr : r < 8) : w.cell? ⟨g, i * 13 + 4 + r, none⟩ = some (.bool (ws[i]!.gone r)) := by
  have hil : i < ws.length := by rw [h.len]; exact hi
  have := h.own.cells (g := g) rfl (i * 13 + (4 + r)) _ (by rw [flatW_get _ _ _ (by omega), List.getElem?_eq_getElem hil, ← getElem!_pos ws i hil]; exact gone_cell hr)
  rwa [add_off, Nat.zero_add, ← Nat.add_assoc] at this
theorem WR.free {w : World} {g n cap : Nat} {ws : List Wr} (h : WR w (some ⟨g, 0, none⟩) n cap ws) (o : Nat) : w.frozen? ⟨g, o, none⟩ = false := by
  rcases h.own.2 with ⟨h2, _⟩ | ⟨g', cap', cur, h2, hb, hg, _⟩
  · cases h2
  · cases h2
    simp only [World.frozen?]; rw [hg]; simp
theorem WR.four {w : World} {g n cap : Nat} {ws : List Wr} (h : WR w (some ⟨g, 0, none⟩) n cap ws) : ∃ b, w.cell? ⟨g, 4, none⟩ = some (.bool b) := by
  have hn : 0 < n := by
    rcases Nat.eq_zero_or_pos n with e | e
    · have := h.nil e; cases this
    · exact e
  have := (h.at hn).2.2.2.2.1
  rw [Nat.zero_mul, Nat.zero_add] at this
  exact ⟨_, this⟩
theorem WR.set {w : World} {g n cap : Nat} {ws vs : List Wr} (h : WR w (some ⟨g, 0, none⟩) n cap ws) {o : Nat} {v : Value} (ho : o < n * 13) (hl : vs.length = ws.length) (he : flatW vs = (flatW ws).set o v) : WR (w.setCell ⟨g, o, none⟩ v) (some ⟨g, 0, none⟩) n cap vs := by
  refine ⟨hl.trans h.len, ⟨by rw [he, List.length_set]; exact h.own.1, ?_⟩, h.nil⟩
  rcases h.own.2 with ⟨h2, _⟩ | ⟨g', cap', cur, h2, hb, hg, hnc, hcm, hcs, ht⟩
  · cases h2
  · cases h2
    obtain ⟨l, rfl⟩ : ∃ l : List Value, cur = l.toArray := ⟨cur.toList, by simp⟩
    refine .inr ⟨g, cap, _, rfl, hb, setCell_row hg v, hnc, hcm, by simpa using hcs, ?_⟩
    have e2 : l.take (n * 13) = flatW ws := by simpa using ht
    rw [he, ← e2]
    simp [List.take_set]
/-- the row of writes, and a net -/
structure SM (W wr : World) (m b g k : Nat) (lo : Option Addr) (lc : Nat) (ts : List Slot) (ms : List LSlot) (wo : Option Addr) (n cap : Nat) (ws : List Wr) : Prop where
  net : NetR wr m b g lo lc ts ms
  row : WR wr wo n cap ws
  apart : ∀ j, Foot b g lo j → ∀ o s, wo ≠ some ⟨j, o, s⟩
  hi : ∀ j, Foot b g lo j → W.heap.size ≤ j
  hib : ∀ j o s, wo = some ⟨j, o, s⟩ → W.heap.size ≤ j
  below : Below W.heap.size W wr
  len : ts.length = k
section
variable {W wr : World} {m b g k : Nat} {lo : Option Addr} {lc : Nat} {ts : List Slot} {ms : List LSlot} {wo : Option Addr} {n cap : Nat} {ws : List Wr}
theorem SM.keep {w' : World} (h : SM W wr m b g k lo lc ts ms wo n cap ws) (hb : Below wr.heap.size wr w') : SM W w' m b g k lo lc ts ms wo n cap ws :=
  ⟨h.net.keep hb, h.row.far (G := fun _ => False) (Frm.of_below hb) (fun _ _ _ _ e => e.elim), h.apart, h.hi, h.hib, h.below.trans (hb.mono h.below.size), h.len⟩
theorem SM.lt_row (h : SM W wr m b g k lo lc ts ms wo n cap ws) : ∀ j o s, wo = some ⟨j, o, s⟩ → j < wr.heap.size := fun j o s e => (World.ownsRow.lt h.row.own j (by rw [e]; rfl)).2
theorem SM.step {w' : World} {q : Nat} {r : NetS × Int} {e : Ending} (h : SM W wr m b g k lo lc ts ms wo n cap ws) (ho : OutN wr q b g lo r e w') (hl : r.1.T.length = k) :
    ∃ lo' lc' ts' ms', SM W w' q b g k lo' lc' ts' ms' wo n cap ws ∧ Hid (netOf ts' ms' = r.1) ∧ Frm (Foot b g lo) wr w' := by
  obtain ⟨_, lo', lc', ts', ms', hn, hr, hf, hll⟩ := ho
  have hfoot : ∀ j, Foot b g lo' j → Foot b g lo j ∨ wr.heap.size ≤ j := fun j hj => by
    rcases hj with e | e | ⟨o, s, e⟩
    · exact .inl (.inl e)
    · exact .inl (.inr (.inl e))
    · rcases hll j o s e with k | k
      · exact .inl (.inr (.inr k))
      · exact .inr k
  refine ⟨lo', lc', ts', ms', ⟨hn, h.row.far hf (fun j o s e hj => h.apart j hj o s e), fun j hj o s e => ?_, fun j hj => ?_, h.hib, ?_, ?_⟩, hr, hf⟩
  · rcases hfoot j hj with k | k
    · exact h.apart j k o s e
    · have := h.lt_row j o s e; omega
  · rcases hfoot j hj with k | k
    · exact h.hi j k
    · exact Nat.le_trans h.below.size k
  · exact h.below.trans (hf.below h.below.size (fun j hj hF => by have := h.hi j hF; omega))
  · rw [← hl, ← hr.out, netOf_len]
/-- a truth value of the row is set -/
theorem SM.set {gw : Nat} {vs : List Wr} (h : SM W wr m b g k lo lc ts ms (some ⟨gw, 0, none⟩) n cap ws) {o : Nat} {v : Value} (ho : o < n * 13) (h4 : 4 ≤ o) (hl : vs.length = ws.length) (he : flatW vs = (flatW ws).set o v) : SM W (wr.setCell ⟨gw, o, none⟩ v) m b g k lo lc ts ms (some ⟨gw, 0, none⟩) n cap vs := by
  have hf := frm_set wr gw o v
  have h03 : ∀ p, p < 4 → (wr.setCell ⟨gw, o, none⟩ v).cell? ⟨gw, p, none⟩ = wr.cell? ⟨gw, p, none⟩ := fun p hp => cset (by omega)
  refine ⟨h.net.farK hf (fun T ao n hh => held_frmW hh hf h.row.four h03) (fun j hj e => h.apart j hj 0 none (by rw [e])), h.row.set ho hl he, h.apart, h.hi, h.hib, ?_, h.len⟩
  exact h.below.trans (hf.below h.below.size (fun j hj e => by have := h.hib gw 0 none rfl; omega))
end
/-- a write is appended -/
theorem step_appW {w : World} {ops : Array Oper} {o : Oper} {a : Act} {K : Act → World → Prop} {Q : Exit → Act → World → Prop} {E : Prop} (hgd : o.guard = none) (s x : Operand)
    (ho : o.op = .call { callee := .builtin .append, args := #[s, x], argTypes := #[78, 78] }) (W : World) (m b g k : Nat) (lo : Option Addr) (lc : Nat) (ts : List Slot) (ms : List LSlot) (wo : Option Addr) (n cap : Nat) (ws : List Wr) (z : Wr) (H : Nat) (t : TypeId) (hH : w.heap[H]? = some (.cells (wrC z).toArray t (0, 0))) (hs : a.eval s = .slice wo n cap)
    (hx : a.eval x = .slice (some ⟨H, 0, none⟩) 1 1) (hn : n ≤ 1000) (h : SM W w m b g k lo lc ts ms wo n cap ws)
    (hK : ∀ g' cap' w', SM W w' m b g k lo lc ts ms (some ⟨g', 0, none⟩) (n + 1) cap' (ws ++ [z]) → (∀ q, q < w.heap.size → (∀ o s, wo ≠ some ⟨q, o, s⟩) → w'.heap[q]? = w.heap[q]?) → w.heap.size ≤ w'.heap.size → K (a.put o.dst (.slice (some ⟨g', 0, none⟩) (n + 1) cap')) w') :
    if Region.wanted o (yielded ops a.tmps) = true then Oper.wp Try.prog o a w K Q else E := by
  obtain ⟨i0, hi, hz0, hz1, hz2⟩ := info_parts infoW
  have hnews : ∀ j u, (wrC z)[j]? = some u → w.cell? ((⟨H, 0, none⟩ : Addr).add j) = some u := fun j u hj => by
    rw [add_off, Nat.zero_add]
    simp only [World.cell?]
    rw [hH]
    simpa using hj
  have hnone : wo = none → n = 0 ∧ cap = 0 := fun e => by
    rcases h.row.own.2 with ⟨h2, _⟩ | ⟨g', cap', cur, h2, _⟩
    · rw [e] at h2; cases h2; exact ⟨rfl, rfl⟩
    · rw [e] at h2; cases h2
  by_cases hfull : cap < n + 1
  · refine step_append_grows hgd s x 78 ho 88 i0 _ 13 64 Try.underlying78 hi hz0 hz1 hz2 rfl (by decide) wo n cap (flatW ws) hs hnone h.row.own.1 (fun q hq j u hj => ?_) ⟨H, 0, none⟩ 1 1 (wrC z) hx (by rw [wrC_len]) hnews (wrC_one z) hfull (by unfold maxLen; omega) (by omega) ?_
    · subst hq
      rcases h.row.own.2 with ⟨h2, _⟩ | ⟨g', cap', cur, h2, _⟩
      · cases h2
      · cases h2
        exact h.row.own.cells (g := g') rfl j u hj
    · intro v' w' hr hg
      obtain ⟨g', cap', rfl, hb, hlt⟩ := hr.form (by omega)
      have hb0 : Below w.heap.size w w' := ⟨hg.os, hg.tape, hg.output, hg.size, fun q hq => hg.block q hq (by simp)⟩
      have hS := h.keep hb0
      have hr' : w'.ownsRow 0 88 13 (.slice (some ⟨g', 0, none⟩) (n + 1) cap') (n + 1) (flatW (ws ++ [z])) := by
        rw [flatW_app]
        refine ⟨by simpa [flatW] using hr.1, ?_⟩
        rcases hr.2 with h2 | ⟨a1, a2, a3, a4, a5, a6⟩
        · exact .inl h2
        · exact .inr ⟨a1, a2, a3, a4, Nat.zero_le _, by simpa [flatW] using a6⟩
      refine hK g' cap' w' ⟨hS.net, ⟨by rw [List.length_append, h.row.len]; rfl, hr', fun e => by omega⟩, fun j hj o s e => ?_, hS.hi, fun j o s e => ?_, hS.below, hS.len⟩ (fun q hq _ => hb0.block q hq) hg.size
      · cases e
        rcases hj with e | e | ⟨o, s, e⟩
        · have := h.net.lt_b; omega
        · have := h.net.lt_g; omega
        · have h1 : g' < w.heap.size := (World.ownsRow.lt h.net.lt g' (by rw [e]; rfl)).2
          omega
      · cases e; exact Nat.le_trans h.below.size hb
  · obtain ⟨gw, hgw⟩ : ∃ gw, wo = some ⟨gw, 0, none⟩ := by
      rcases h.row.own.2 with ⟨h2, _⟩ | ⟨g', cap', cur, h2, _⟩
      · cases h2; omega
      · cases h2; exact ⟨g', rfl⟩
    subst hgw
    have hn1 : 0 < n := by
      rcases Nat.eq_zero_or_pos n with e | e
      · have := h.row.nil e; cases this
      · exact e
    rcases h.row.own.2 with ⟨h2, _⟩ | ⟨g', cap', cur, h2, hb, hg, hnc, hcm, hcs, ht⟩
    · cases h2
    cases h2
    obtain ⟨l, rfl⟩ : ∃ l : List Value, cur = l.toArray := ⟨cur.toList, by simp⟩
    have hll : l.length = cap * 13 := by simpa using hcs
    have e2 : l.take (n * 13) = flatW ws := by simpa using ht
    refine step_append_room hgd s x 78 ho 88 i0 13 Try.underlying78 hi hz1 gw 0 n cap hs ⟨H, 0, none⟩ 1 1 (wrC z) hx (by rw [wrC_len]) hnews (wrC_one z) (by omega) (fun j hj => ?_) ?_
    · rw [wrC_len] at hj
      refine ⟨?_, h.row.free _⟩
      simp only [World.cell?]
      rw [hg]
      simp
      omega
    · rw [Nat.zero_add]
      have hf := setCells_frm gw (wrC z) (n * 13) w
      have h03 : ∀ p, p < 4 → (w.setCells gw (n * 13) (wrC z)).cell? ⟨gw, p, none⟩ = w.cell? ⟨gw, p, none⟩ := fun p hp => World.cell?_setCells_out gw _ _ _ _ (fun _ _ => .inl (by show p < n * 13; omega))
      have hrow := setCells_row (wrC z) (n * 13) w l hg (by rw [wrC_len]; omega)
      have hl1 : (l.take (n * 13) ++ wrC z ++ l.drop (n * 13 + (wrC z).length)).length = cap * 13 := by
        simp only [List.length_append, List.length_take, List.length_drop, wrC_len]; omega
      refine hK gw cap _ ⟨h.net.farK hf (fun T ao n hh => held_frmW hh hf h.row.four h03) (fun j hj e => h.apart j hj 0 none (by rw [e])), ⟨by rw [List.length_append, h.row.len]; rfl, ⟨by rw [flatW_len, List.length_append, h.row.len]; rfl, .inr ⟨gw, cap, _, rfl, hb, hrow, by omega, hcm, by simpa using hl1, ?_⟩⟩, fun e => by omega⟩, h.apart, h.hi, h.hib, ?_, h.len⟩ (fun q hq hne => hf.block q hq (fun e => hne 0 none (by rw [e]))) hf.size
      · have hz13 : (l.take (n * 13) ++ wrC z).length = (n + 1) * 13 := by simp only [List.length_append, List.length_take, wrC_len]; omega
        simp only []
        rw [List.take_append_of_le_length (by omega), List.take_of_length_le (by omega), e2, flatW_app]
        simp [flatW]
      · exact h.below.trans (hf.below h.below.size (fun j hj e => by have := h.hib gw 0 none rfl; omega))

/-- a row of truth values -/
def Bools (w : World) (g : Nat) (hs : List Bool) : Prop := w.heap[g]? = some (.cells (hs.map Value.bool).toArray 4 (0, 0))
theorem Bools.keep {w w' : World} {g : Nat} {hs : List Bool} (h : Bools w g hs) (hb : Below w.heap.size w w') : Bools w' g hs := row_keep hb h
theorem Bools.at {w : World} {g i : Nat} {hs : List Bool} (h : Bools w g hs) (hi : i < hs.length) : w.cell? ⟨g, i, none⟩ = some (.bool hs[i]!) := by
  simp only [World.cell?]
  rw [h, getElem!_pos hs i hi]
  simp [hi]
theorem Bools.free {w : World} {g : Nat} {hs : List Bool} (h : Bools w g hs) (o : Nat) : w.frozen? ⟨g, o, none⟩ = false := by
  simp only [World.frozen?]; rw [h]; simp
theorem Bools.set {w : World} {g i : Nat} {hs : List Bool} (h : Bools w g hs) (v : Bool) : Bools (w.setCell ⟨g, i, none⟩ (.bool v)) g (hs.set i v) := by
  unfold Bools
  rw [List.map_set]
  exact setCell_row h _
theorem Bools.noStr {w : World} {g : Nat} {hs : List Bool} (h : Bools w g hs) (hp : 0 < hs.length) : NoStr w (fun j => j = g) := fun j _ e => by
  subst e
  exact ⟨_, h.at hp, fun s e => by cases e⟩
set_option maxRecDepth 100000 in
theorem make_bools (n : Nat) (hn : n ≤ 1000) (w : World) : (Instr.makeSlice 79 (.int .i64 (n : Int)) (.int .i64 (n : Int))).run Try.prog w = .ok (.slice (some ⟨w.heap.size, 0, none⟩) n n) (w.alloc (.cells ((List.replicate n false).map Value.bool).toArray 4)) := by
  obtain ⟨i0, hi, hz0, hz1, hz2⟩ := info_parts (show (Try.prog.info? 4).map (fun i => (i.zero, i.size, i.bytes)) = some (some (.bool false), 1, 1) by kernel_rfl)
  have hb' : (i0.bytes : Int) * (n : Int) ≤ 281474976710656 := by
    have h : ((i0.bytes * n : Nat) : Int) ≤ 281474976710656 := by rw [hz2]; omega
    rwa [Int.natCast_mul] at h
  have hr := run_make (P := Try.prog) w 79 4 i0 _ Try.underlying79 hi hz0 .i64 .i64 n n (by omega) (Int.le_refl _) hb' (by omega)
  simp only [Int.toNat_natCast] at hr
  rw [hr, hz1]
  congr 3
  apply Array.toList_inj.1
  simp only [Value.cells, toList_madeCells_one, Nat.mul_one, List.map_replicate]
/-- the truth values found so far -/
noncomputable def hadL (ws : List Wr) (L : List Ent) (j : Nat) : List Bool := ((ws.take j).map fun w => hasE L w.e) ++ List.replicate (ws.length - j) false
theorem hadL_len (ws : List Wr) (L : List Ent) {j : Nat} (hj : j ≤ ws.length) : (hadL ws L j).length = ws.length := by unfold hadL; simp; omega
theorem hadL_zero (ws : List Wr) (L : List Ent) : hadL ws L 0 = List.replicate ws.length false := by unfold hadL; simp
theorem hadL_step {ws : List Wr} {L : List Ent} {j : Nat} (hj : j < ws.length) : (hadL ws L j).set j (hasE L ws[j]!.e) = hadL ws L (j + 1) := by
  unfold hadL
  have hl : ((ws.take j).map fun w => hasE L w.e).length = j := by simp; omega
  rw [List.set_append_right _ _ (by omega), hl, Nat.sub_self]
  obtain ⟨q, hq⟩ : ∃ q, ws.length - j = q + 1 := ⟨ws.length - j - 1, by omega⟩
  rw [hq, List.replicate_succ, List.set_cons_zero, show ws.length - (j + 1) = q by omega, List.take_succ_eq_append_getElem hj, List.map_append, getElem!_pos ws j hj]
  simp
theorem hadL_at {ws : List Wr} {L : List Ent} {j : Nat} (hj : j < ws.length) : (hadL ws L ws.length)[j]! = hasE L ws[j]!.e := by
  rw [getElem!_pos _ j (by rw [hadL_len _ _ (Nat.le_refl _)]; exact hj), getElem!_pos ws j hj]
  unfold hadL
  simp
/-- the writes noted so far -/
noncomputable def markL (ws : List Wr) (T : Tab) (r : Nat) (key : ByteArray) (j : Nat) : List Wr := ((ws.take j).map (mark T r key)) ++ ws.drop j
theorem markL_len (ws : List Wr) (T : Tab) (r : Nat) (key : ByteArray) (j : Nat) : (markL ws T r key j).length = ws.length := by unfold markL; simp; omega
theorem markL_zero (ws : List Wr) (T : Tab) (r : Nat) (key : ByteArray) : markL ws T r key 0 = ws := by unfold markL; simp
theorem markL_all (ws : List Wr) (T : Tab) (r : Nat) (key : ByteArray) : markL ws T r key ws.length = ws.map (mark T r key) := by unfold markL; simp
theorem markL_at {ws : List Wr} {T : Tab} {r : Nat} {key : ByteArray} {j : Nat} (hj : j < ws.length) : (markL ws T r key j)[j]! = ws[j]! := by
  rw [getElem!_pos _ j (by rw [markL_len]; exact hj), getElem!_pos ws j hj]
  unfold markL
  rw [List.getElem_append_right (by simp; omega)]
  simp
  congr 1
  omega
theorem markL_step {ws : List Wr} {T : Tab} {r : Nat} {key : ByteArray} {j : Nat} (hj : j < ws.length) : (markL ws T r key j).set j (mark T r key ws[j]!) = markL ws T r key (j + 1) := by
  unfold markL
  have hl : ((ws.take j).map (mark T r key)).length = j := by simp; omega
  rw [List.set_append_right _ _ (by omega), hl, Nat.sub_self, List.drop_eq_getElem_cons hj, List.set_cons_zero, List.take_succ_eq_append_getElem hj, List.map_append, getElem!_pos ws j hj]
  simp
theorem markL_skip {ws : List Wr} {T : Tab} {r : Nat} {key : ByteArray} {j : Nat} (hj : j < ws.length) (hm : mark T r key ws[j]! = ws[j]!) : markL ws T r key j = markL ws T r key (j + 1) := by
  rw [← markL_step hj, hm]
  have e := markL_at (T := T) (r := r) (key := key) hj
  rw [← e, getElem!_pos _ j (by rw [markL_len]; exact hj), List.set_getElem_self]
end Go.Proofs.Ytkpjckabdmmiaaa

/- SyncSettles, walked. (By gen_nsettles.py.) -/
set_option linter.unusedVariables false
set_option linter.unusedSimpArgs false
namespace Go.Proofs.Ytkpjckabdmmiaaa
open Go.RowKit Go.Shelf Go.Sort

def Phase (n0 : NetS) (h r i : Nat) (n : NetS) : Prop := (r = 0 ∧ First n0 n h i) ∨ (r = 1 ∧ Second n (n.T[h]!) h i) ∨ (r = 2 ∧ ∀ j, j < n.T.length → n.T[j]! = n.T[h]!)
theorem exch_len (n : NetS) (a c : Nat) : (n.exch a c).T.length = n.T.length := NetS.setT_len _ _ _
theorem Phase.step0 {m : Nat} {n0 n : NetS} {h i : Nat} (ho : n.Ok m) (h0 : n0.Ok m) (hh : h < n0.T.length) (hi : i < n0.T.length) (hp : Phase n0 h 0 i n) : Phase n0 h 0 (i + 1) (n.exch i h) := by
  rcases hp with ⟨_, hf⟩ | ⟨e, _⟩ | ⟨e, _⟩
  · exact .inl ⟨rfl, hf.step ho h0 hh hi⟩
  · omega
  · omega
theorem Phase.step1 {m : Nat} {n0 n : NetS} {h i : Nat} (ho : n.Ok m) (hh : h < n.T.length) (hi : i < n.T.length) (hp : Phase n0 h 1 i n) : Phase n0 h 1 (i + 1) (n.exch h i) := by
  rcases hp with ⟨e, _⟩ | ⟨_, hs⟩ | ⟨e, _⟩
  · omega
  · have := hs.step ho hh hi
    refine .inr (.inl ⟨rfl, ?_⟩)
    rw [this.hub]
    exact this
  · omega
theorem Phase.end0 {m : Nat} {n0 n : NetS} {h i : Nat} (ho : n.Ok m) (hh : h < n0.T.length) (hi : i = n0.T.length) (hp : Phase n0 h 0 i n) : Phase n0 h 1 0 n := by
  rcases hp with ⟨_, hf⟩ | ⟨e, _⟩ | ⟨e, _⟩
  · subst hi; exact .inr (.inl ⟨rfl, hf.second ho hh⟩)
  · omega
  · omega
theorem Phase.end1 {n0 n : NetS} {h i : Nat} (hi : i = n.T.length) (hp : Phase n0 h 1 i n) : Phase n0 h 2 0 n := by
  rcases hp with ⟨e, _⟩ | ⟨_, hs⟩ | ⟨e, _⟩
  · omega
  · subst hi; exact .inr (.inr ⟨rfl, hs.all⟩)
  · omega
theorem lose_first {n : NetS} (h : 0 < n.M.length) : n.lose 0 = (n.drop 0, 0) := by
  unfold NetS.lose
  rw [if_pos (show n.hasL 0 from ⟨by omega, by omega⟩)]
  rfl
theorem len_mailed {ts ts5 : List Slot} {ms ms5 : List LSlot} {x : Ltr} (h : netOf ts5 ms5 = (netOf ts ms).mailTo x) : ms5.length = ms.length + 1 := by
  rw [← netOf_lenM (ts := ts5) (ms := ms5), h]
  show ((netOf ts ms).M ++ [x]).length = _
  rw [List.length_append, netOf_lenM]; rfl
theorem len_exch {ts ts5 : List Slot} {ms ms5 : List LSlot} {a c : Nat} (h : netOf ts5 ms5 = (netOf ts ms).exch a c) : ms5.length = ms.length := by
  rw [← netOf_lenM (ts := ts5) (ms := ms5), h]
  show ((netOf ts ms).M).length = _
  rw [netOf_lenM]
theorem all_same {l : List Slot} {t : Tab} {m : Nat} (ht : t.Ok m) (h : ∀ j, j < l.length → l[j]!.T = t) (h0 : 0 < l.length) : (l.all fun x => sameT x.T l[0]!.T) = true := by
  rw [List.all_eq_true]
  intro x hx
  obtain ⟨i, hi, rfl⟩ := at_mem hx
  rw [h i hi, h 0 h0]
  exact (sameT_iff ht ht).2 rfl

set_option maxRecDepth 100000 in
set_option maxHeartbeats 4000000 in
theorem settles_bad (s hu : Nat) (ao : Option Addr) (la ca : Nat) (xs : List DeedD) (W : World) (h : Deeds W ao la xs) (hla : la ≤ 9223372036854775807) (hs : s ≤ 255) (hh : hu ≤ 255) (hb : isBrief xs la 100 = false) : Calls Try.prog 7 #[.int .u8 (s : Int), .slice ao la ca, .int .u8 (hu : Int)] W fun e w' => e = .returned (.bool true) ∧ Below W.heap.size W w' := by
  have BR := brief_any ao la ca 100 xs W h hla (by omega)
  rw [hb] at BR
  have BR := Lib.hid BR
  clear h
  go_enter Try.func7, Try.ntmps7
  go_wp2_with (first | (go_at_call 20; refine BR.out.mono ?_; rintro e w1 ⟨rfl, rfl⟩) | (go_at_call 10; refine (awake_any _).mono ?_; rintro e w1 ⟨rfl, hb1⟩; have B1 := Lib.hid hb1; clear hb1))
  go_ret
  exact ⟨rfl, B1.out⟩

set_option maxRecDepth 100000 in
set_option maxHeartbeats 16000000 in
theorem settles_good (s hu : Nat) (ao : Option Addr) (la ca : Nat) (xs : List DeedD) (W : World) (h : Deeds W ao la xs) (hla : la ≤ 9223372036854775807) (hs : s ≤ 255) (hh : hu ≤ 255) (hb : isBrief xs la 100 = true) (hl : la ≤ 100) : Calls Try.prog 7 #[.int .u8 (s : Int), .slice ao la ca, .int .u8 (hu : Int)] W fun e w' => e = .returned (.bool true) ∧ Below W.heap.size W w' := by
  have BR := brief_any ao la ca 100 xs W h hla (by omega)
  rw [hb] at BR
  have BR := Lib.hid BR
  have HD := Lib.hid h
  obtain ⟨k, hk⟩ : ∃ k, k = 1 + s % 8 := ⟨_, rfl⟩
  have k1 : 1 ≤ k := by omega
  have k8 : k ≤ 8 := by omega
  have hkz : 1 + (s : Int) % 8 = (k : Int) := by omega
  have NN := Lib.hid (newNet_ok k W k1 k8)
  have s0 : (0 : Int) ≤ (s : Int) := by omega
  have s1 : (s : Int) ≤ 255 := by omega
  have HK := Lib.hid hk
  clear h hb hla hk
  go_enter Try.func7, Try.ntmps7
  go_upto_region 5 with (first | (go_at_call 20; refine BR.out.mono ?_; rintro e w1 ⟨rfl, rfl⟩) | (go_at_call 21; refine NN.out.mono ?_; rintro e w2 ⟨rfl, hn2, hb2⟩; have N2 := Lib.hid hn2; have B2 := Lib.hid hb2; clear hn2 hb2))
  clear hkz BR NN
  obtain ⟨b, hbe⟩ : ∃ b, b = W.heap.size + 1 := ⟨_, rfl⟩
  obtain ⟨g, hge⟩ : ∃ g, g = W.heap.size := ⟨_, rfl⟩
  have S0 : Hid (SI W w2 0 b g k none 0 (List.replicate k slot0) [] none 0 0 []) := Lib.hid ⟨by rw [hbe, hge]; exact N2.out, Bef.start _, (fun j hj o s e => by cases e), (fun j hj => by
    rcases hj with e | e | ⟨o, s, e⟩
    · omega
    · omega
    · cases e), (fun j o s e => by cases e), B2.out, (fun x hx => by cases hx), by simp⟩
  rw [← hbe]
  clear hbe hge N2 B2 s0 s1 hs
  have hkp : (0 : Int) < (k : Int) := by omega
  have hlz : (la : Int) ≤ 100 := by omega
  go_wp2
  go_loopg [10, 11, 12, 13] la (fun gg s10 s11 _ _ wr => ∃ (i : Nat) (lo : Option Addr) (lc : Nat) (ts : List Slot) (ms : List LSlot) (bo : Option Addr) (cap : Nat) (bl : List Slot), s11 = .int .i64 (i : Int) ∧ i ≤ la ∧ la - i ≤ gg ∧ s10 = .slice bo i cap ∧ Hid (SI W wr i b g k lo lc ts ms bo i cap bl))
  case atStart => exact ⟨0, none, 0, _, [], none, 0, [], rfl, Nat.zero_le _, by omega, rfl, S0⟩
  case round =>
    clear S0
    obtain ⟨i, lo, lc, ts, ms, bo, cap, bl, rfl, hi, hgg, rfl, HS⟩ := hrel
    have i0 : (0 : Int) ≤ (i : Int) := by omega
    by_cases hlt : i < la
    · have t1 : (i : Int) < (la : Int) := by omega
      obtain ⟨ga, oa, hga, hd, hfine, hgl⟩ := (HD.out.keep HS.out.below).at hlt
      obtain ⟨x, hx⟩ : ∃ x, x = xs[i]! := ⟨_, rfl⟩
      rw [← hx] at hd hfine
      clear hx
      subst hga
      obtain ⟨d0, d1, d2, d3, d4⟩ := hd
      have CP := Lib.hid (perform_any HS.out.net (by omega) x hfine)
      have UP := Lib.hid (deed_up HS.out.net.ok x)
      have hq1 : (i : Int).tmod (k : Int) = ((i % k : Nat) : Int) := by rw [Int.tmod_eq_emod_of_nonneg (by omega)]; rfl
      have hqk : i % k < k := Nat.mod_lt _ (by omega)
      have hkne : ¬ (k : Int) = 0 := by omega
      have hkne2 : ¬ k = 0 := by omega
      clear hgl hfine
      go_wp2_with (first | (go_at_call 31; refine CP.out.mono ?_; intro e w3 ho; obtain rfl := ho.1; obtain ⟨lo', lc', ts', ms', hs3, hr3⟩ := HS.out.step ho (Nat.le_succ i) UP.out; have HS3 := Lib.hid hs3; have TB := netTable_in hs3.net (i % k) (by rw [hs3.len]; exact hqk); obtain ⟨y, hy⟩ : ∃ y, y = ts'[i % k]! := ⟨_, rfl⟩; rw [← hy] at TB; have TB := Lib.hid TB; have HY := Lib.hid hy; clear ho hs3 hr3 hy) | (go_at_call 32; refine TB.out.mono ?_; rintro e w4 ⟨rfl, hb4⟩; have HS4 := Lib.hid (HS3.out.keep hb4); clear hb4) | (at_builtin; refine wpList_appB rfl (.tmp 59) (.tmp 61) rfl W (i + 1) b g k lo' lc' ts' ms' bo i cap bl y (w4.heap.size + 1) 34 (block2 w4 _ _) rfl rfl (by omega) (HS4.out.keep (below2 w4 _ _)) (by have := HS4.out.net.held (i % k) (by rw [HS4.out.len]; exact hqk); rw [← HY.out] at this; exact this.keep (below2 w4 _ _)) ⟨i % k, hqk, by have := HS4.out.net.held (i % k) (by rw [HS4.out.len]; exact hqk); rw [← HY.out] at this ⊢; exact cov_refl this.ok⟩ ?_; intro g5 cap5 w5 hs5; have HS5 := Lib.hid hs5; clear hs5))
      go_roundg (la - (i + 1))
      case measure => omega
      case rel => exact ⟨i + 1, lo', lc', ts', ms', some ⟨g5, 0, none⟩, cap5, _, by go_num, by omega, Nat.le_refl _, rfl, HS5⟩
    · obtain rfl : i = la := by omega
      have t1 : ¬ (i : Int) < (i : Int) := by omega
      clear HD hlt HK
      go_wp2
      go_loopg [6] 257 (fun gg _ wr => ∃ (lo : Option Addr) (lc : Nat) (ts : List Slot) (ms : List LSlot), ms.length ≤ gg ∧ Hid (SI W wr i b g k lo lc ts ms bo i cap bl))
      case atStart => exact ⟨lo, lc, ts, ms, by have := HS.out.net.most; omega, HS⟩
      case round =>
        clear HS
        obtain ⟨lo, lc, ts, ms, hgm, HS⟩ := hrel
        have LT := Lib.hid (letters_any HS.out.net)
        have hmost := HS.out.net.most
        by_cases h2 : 248 < ms.length
        · have t2 : decide ((248 : Int) < (ms.length : Int)) = true := by simp; omega
          have t3 : (248 : Int) < (ms.length : Int) := by omega
          have e1 : (netOf ts ms).lose 0 = ((netOf ts ms).drop 0, 0) := lose_first (by rw [netOf_lenM]; omega)
          have E1 := Lib.hid e1
          clear e1
          go_wp2_with (first | (go_at_call 30; refine LT.out.mono ?_; rintro e w4 ⟨ao4, c4, rfl, hr4, hb4⟩; have HS4 := Lib.hid (HS.out.keep hb4); clear hr4 hb4) | (go_at_call 33; have LO := netLoseU HS4.out.net 0; rw [E1.out] at LO; refine LO.mono ?_; intro e w5 ho; obtain rfl := ho.1; obtain ⟨lo', lc', ts', ms', hs5, hr5⟩ := HS4.out.step ho (Nat.le_refl i) (NetS.Up.same HS4.out.net.ok rfl); have HS5 := Lib.hid hs5; have HL5 : Hid (ms'.length = ms.length - 1) := Lib.hid (by rw [← netOf_lenM (ts := ts') (ms := ms'), hr5.out]; show ((netOf ts ms).M.eraseIdx 0).length = _; rw [List.length_eraseIdx_of_lt (by rw [netOf_lenM]; omega), netOf_lenM]); clear LO ho hs5 hr5))
          go_roundg (gk - 1)
          case measure => omega
          case rel => exact ⟨lo', lc', ts', ms', by rw [HL5.out]; omega, HS5⟩
        · have t2 : decide ((248 : Int) < (ms.length : Int)) = false := by simp; omega
          have t3 : ¬ (248 : Int) < (ms.length : Int) := by omega
          obtain ⟨hN, hhN⟩ : ∃ hN, hN = hu % k := ⟨_, rfl⟩
          have hNk : hN < k := by rw [hhN]; exact Nat.mod_lt _ (by omega)
          have hkne : ¬ (k : Int) = 0 := by omega
          have hkne2 : ¬ k = 0 := by omega
          have hu0 : (0 : Int) ≤ (hu : Int) := by omega
          have hu1 : (hu : Int) ≤ 255 := by omega
          have hq2 : (hu : Int).tmod (k : Int) = (hN : Int) := by rw [Int.tmod_eq_emod_of_nonneg (by omega), hhN]; rfl
          have hq3 : (hu : Int) % (k : Int) = (hN : Int) := by rw [hhN]; rfl
          have hN0 : (0 : Int) ≤ (hN : Int) := by omega
          clear hhN
          go_wp2_with (go_at_call 30; refine LT.out.mono ?_; rintro e w4 ⟨ao4, c4, rfl, hr4, hb4⟩; have HS4 := Lib.hid (HS.out.keep hb4); clear hr4 hb4)
          go_loopg [15, 16, 17, 18] 2 (fun gg s15 _ _ _ wr => ∃ (r : Nat) (lo2 : Option Addr) (lc2 : Nat) (ts2 : List Slot) (ms2 : List LSlot), s15 = .int .i64 (r : Int) ∧ r ≤ 2 ∧ 2 - r ≤ gg ∧ ms2.length ≤ 248 ∧ Hid (SI W wr i b g k lo2 lc2 ts2 ms2 bo i cap bl) ∧ Hid (Phase (netOf ts ms) hN r 0 (netOf ts2 ms2)))
          case atStart => exact ⟨0, lo, lc, ts, ms, rfl, by omega, by omega, by omega, HS4, Lib.hid (.inl ⟨rfl, First.start HS4.out.net.ok (by rw [netOf_len, HS4.out.len]; exact hNk)⟩)⟩
          case round =>
            have OK0 := Lib.hid HS4.out.net.ok
            have LEN0 : Hid ((netOf ts ms).T.length = k) := Lib.hid (by rw [netOf_len]; exact HS4.out.len)
            clear HS HS4 LT h2 t2 t3 hgm hmost hq2 hq3
            generalize netOf ts ms = n0 at *
            obtain ⟨r, lo, lc, ts, ms, rfl, hr, hgr, hml, HS, HP⟩ := hrel
            by_cases hr2 : r < 2
            · have u1 : (r : Int) < 2 := by omega
              obtain ⟨W1, rfl⟩ : ∃ w, w = wr := ⟨wr, rfl⟩
              go_wp2
              go_loopg [16, 17, 18] k (fun gg s16 _ _ wq => ∃ (j : Nat) (lo2 : Option Addr) (lc2 : Nat) (ts2 : List Slot) (ms2 : List LSlot), s16 = .int .i64 (j : Int) ∧ j ≤ k ∧ k - j ≤ gg ∧ ms2.length ≤ 248 ∧ Hid (SI W wq i b g k lo2 lc2 ts2 ms2 bo i cap bl) ∧ Hid (Phase n0 hN r j (netOf ts2 ms2)))
              case atStart => exact ⟨0, lo, lc, ts, ms, rfl, Nat.zero_le _, by omega, hml, HS, HP⟩
              case round =>
                clear HS HP hml
                obtain ⟨j, lo, lc, ts, ms, rfl, hj, hgj, hml, HS, HP⟩ := hrel
                by_cases hjk : j < k
                · have u2 : (j : Int) < (k : Int) := by omega
                  have u3 : (0 : Int) ≤ (j : Int) := by omega
                  have u4 : IntKind.i64.wrap ((ms.length : Int) + 1 - 1) = (ms.length : Int) := by rw [IntWalk.i64_in _ (by omega)]; omega
                  have u5 : (ms.length : Int) + 1 - 1 = (ms.length : Int) := by omega
                  have hlt2 := HS.out.len
                  have SL := HS.out.net.ok
                  by_cases hr0 : r = 0
                  · subst hr0
                    have SE := netSendU HS.out.net (j : Int) (hN : Int)
                    rw [send_in (by rw [netOf_len, hlt2]; exact hjk) (by rw [netOf_len, hlt2]; exact hNk) (by rw [netOf_lenM]; omega)] at SE
                    have SE := Lib.hid SE
                    have PN := Lib.hid (HP.out.step0 SL OK0.out (by rw [LEN0.out]; exact hNk) (by rw [LEN0.out]; exact hjk))
                    clear hlt2 SL HP
                    go_wp2_with (first | (go_at_call 29; refine SE.out.mono ?_; intro e w5 ho; obtain rfl := ho.1; obtain ⟨lo5, lc5, ts5, ms5, hs5, hr5⟩ := HS.out.step ho (Nat.le_refl i) (NetS.Up.same HS.out.net.ok rfl); have HS5 := Lib.hid hs5; have HR5 := Lib.hid hr5.out; have LT5 := letters_any hs5.net; have hl5 := len_mailed hr5.out; rw [hl5] at LT5; have LT5 := Lib.hid LT5; clear ho hs5 hr5 hl5) | (go_at_call 30; refine LT5.out.mono ?_; rintro e w6 ⟨ao6, c6, rfl, hr6, hb6⟩; have HS6 := Lib.hid (HS5.out.keep hb6); clear hr6 hb6) | (go_at_call 34; have DE := netDelU HS6.out.net (by omega) ((ms.length : Nat) : Int) false; rw [HR5.out] at DE; rw [← netOf_lenM (ts := ts) (ms := ms), del_last] at DE; rw [netOf_lenM] at DE; refine DE.mono ?_; intro e w7 ho; obtain rfl := ho.1; obtain ⟨lo7, lc7, ts7, ms7, hs7, hr7⟩ := HS6.out.step ho (Nat.le_refl i) (by rw [HR5.out, ← del_last]; exact del_up (by rw [← HR5.out]; exact HS6.out.net.ok) _ _); have HS7 := Lib.hid hs7; have HR7 := Lib.hid hr7.out; clear DE ho hs7 hr7))
                    go_roundg (k - (j + 1))
                    case measure => omega
                    case rel => exact ⟨j + 1, lo7, lc7, ts7, ms7, by go_num, by omega, Nat.le_refl _, by rw [len_exch HR7.out]; exact hml, HS7, Lib.hid (by rw [HR7.out]; exact PN.out)⟩
                  · obtain rfl : r = 1 := by omega
                    have SE := netSendU HS.out.net (hN : Int) (j : Int)
                    rw [send_in (by rw [netOf_len, hlt2]; exact hNk) (by rw [netOf_len, hlt2]; exact hjk) (by rw [netOf_lenM]; omega)] at SE
                    have SE := Lib.hid SE
                    have PN := Lib.hid (HP.out.step1 SL (by rw [netOf_len, hlt2]; exact hNk) (by rw [netOf_len, hlt2]; exact hjk))
                    clear hlt2 SL HP
                    go_wp2_with (first | (go_at_call 29; refine SE.out.mono ?_; intro e w5 ho; obtain rfl := ho.1; obtain ⟨lo5, lc5, ts5, ms5, hs5, hr5⟩ := HS.out.step ho (Nat.le_refl i) (NetS.Up.same HS.out.net.ok rfl); have HS5 := Lib.hid hs5; have HR5 := Lib.hid hr5.out; have LT5 := letters_any hs5.net; have hl5 := len_mailed hr5.out; rw [hl5] at LT5; have LT5 := Lib.hid LT5; clear ho hs5 hr5 hl5) | (go_at_call 30; refine LT5.out.mono ?_; rintro e w6 ⟨ao6, c6, rfl, hr6, hb6⟩; have HS6 := Lib.hid (HS5.out.keep hb6); clear hr6 hb6) | (go_at_call 34; have DE := netDelU HS6.out.net (by omega) ((ms.length : Nat) : Int) false; rw [HR5.out] at DE; rw [← netOf_lenM (ts := ts) (ms := ms), del_last] at DE; rw [netOf_lenM] at DE; refine DE.mono ?_; intro e w7 ho; obtain rfl := ho.1; obtain ⟨lo7, lc7, ts7, ms7, hs7, hr7⟩ := HS6.out.step ho (Nat.le_refl i) (by rw [HR5.out, ← del_last]; exact del_up (by rw [← HR5.out]; exact HS6.out.net.ok) _ _); have HS7 := Lib.hid hs7; have HR7 := Lib.hid hr7.out; clear DE ho hs7 hr7))
                    go_roundg (k - (j + 1))
                    case measure => omega
                    case rel => exact ⟨j + 1, lo7, lc7, ts7, ms7, by go_num, by omega, Nat.le_refl _, by rw [len_exch HR7.out]; exact hml, HS7, Lib.hid (by rw [HR7.out]; exact PN.out)⟩
                · obtain rfl : j = k := by omega
                  have u2 : ¬ (j : Int) < (j : Int) := by omega
                  have HPE : Hid (Phase n0 hN (r + 1) 0 (netOf ts ms)) := by
                    by_cases hr0 : r = 0
                    · subst hr0
                      exact HP.out.end0 HS.out.net.ok (by rw [LEN0.out]; exact hNk) LEN0.out.symm
                    · obtain rfl : r = 1 := by omega
                      exact HP.out.end1 (by rw [netOf_len]; exact HS.out.len.symm)
                  clear HP
                  go_wp2
                  go_roundg (2 - (r + 1))
                  case measure => omega
                  case rel => exact ⟨r + 1, lo, lc, ts, ms, by go_num, by omega, Nat.le_refl _, hml, HS, HPE⟩
            · obtain rfl : r = 2 := by omega
              have u1 : ¬ ((2 : Nat) : Int) < 2 := by omega
              have HALL : Hid (∀ j, j < k → ts[j]!.T = ts[hN]!.T) := by
                rcases HP.out with ⟨e, _⟩ | ⟨e, _⟩ | ⟨_, ha⟩
                · omega
                · omega
                · intro j hj
                  have := ha j (by rw [netOf_len, HS.out.len]; exact hj)
                  rwa [netOf_at (by rw [HS.out.len]; exact hj), netOf_at (by rw [HS.out.len]; exact hNk)] at this
              have TB := netTable_in HS.out.net hN (by rw [HS.out.len]; exact hNk)
              obtain ⟨y, hy⟩ : ∃ y, y = ts[hN]! := ⟨_, rfl⟩
              rw [← hy] at TB HALL
              have TB := Lib.hid TB
              have HHY := HS.out.net.held hN (by rw [HS.out.len]; exact hNk)
              rw [← hy] at HHY
              have HHY := Lib.hid HHY
              clear hy HP OK0 LEN0
              go_wp2_with (go_at_call 32; refine TB.out.mono ?_; rintro e w4 ⟨rfl, hb4⟩; have B4 := Lib.hid hb4; clear hb4)
              obtain ⟨V5, hV5⟩ : ∃ V5, V5 = w4.alloc (.cells #[.int .i64 (y.T.seen 0 : Int), .int .i64 (y.T.seen 1 : Int), .int .i64 (y.T.seen 2 : Int), .int .i64 (y.T.seen 3 : Int), .int .i64 (y.T.seen 4 : Int), .int .i64 (y.T.seen 5 : Int), .int .i64 (y.T.seen 6 : Int), .int .i64 (y.T.seen 7 : Int), .slice y.ao y.n y.c] 34) := ⟨_, rfl⟩
              have B5 : Hid (Below w4.heap.size w4 V5) := Lib.hid (by rw [hV5]; exact box_below _ _)
              have BY : Hid (BoxAt V5 w4.heap.size y) := Lib.hid (by rw [hV5]; exact heap_alloc_new _ _)
              have HS5 := Lib.hid ((HS.out.keep B4.out).keep B5.out)
              have HY5 := Lib.hid ((HHY.out.keep B4.out).keep B5.out)
              rw [← hV5]
              clear hV5 HS B4 B5 HHY TB
              generalize w4.heap.size = D at BY ⊢
              go_loopg [21] i (fun gg s21 wr => ∃ (j : Nat), s21 = .int .i64 (j : Int) ∧ j ≤ i ∧ i - j ≤ gg ∧ Hid (SI W wr i b g k lo lc ts ms bo i cap bl) ∧ Hid (BoxAt wr D y) ∧ Hid (Held wr i y.T y.ao y.n))
              case atStart => exact ⟨0, rfl, Nat.zero_le _, by omega, HS5, BY, HY5⟩
              case round =>
                clear HS5 BY HY5
                obtain ⟨j, rfl, hj, hgj, HS, BY, HY⟩ := hrel
                by_cases hji : j < i
                · have u1 : (j : Int) < (i : Int) := by omega
                  have u2 : (0 : Int) ≤ (j : Int) := by omega
                  obtain ⟨gb, hgb, _⟩ := HS.out.bef.form (by omega)
                  subst hgb
                  obtain ⟨qa, qh, qm⟩ := HS.out.bef.at hji
                  obtain ⟨i0, hi0, hcv⟩ := HS.out.cov _ qm
                  rw [HALL.out i0 hi0] at hcv
                  obtain ⟨z, hz⟩ : ∃ z, z = bl[j]! := ⟨_, rfl⟩
                  rw [← hz] at qa qh hcv
                  clear hz qm hi0
                  have CO : Hid (∀ w, Below wr.heap.size wr w → Calls Try.prog 18 #[.agg #[.int .i64 (y.T.seen 0 : Int), .int .i64 (y.T.seen 1 : Int), .int .i64 (y.T.seen 2 : Int), .int .i64 (y.T.seen 3 : Int), .int .i64 (y.T.seen 4 : Int), .int .i64 (y.T.seen 5 : Int), .int .i64 (y.T.seen 6 : Int), .int .i64 (y.T.seen 7 : Int), .slice y.ao y.n y.c], .agg #[.int .i64 (z.T.seen 0 : Int), .int .i64 (z.T.seen 1 : Int), .int .i64 (z.T.seen 2 : Int), .int .i64 (z.T.seen 3 : Int), .int .i64 (z.T.seen 4 : Int), .int .i64 (z.T.seen 5 : Int), .int .i64 (z.T.seen 6 : Int), .int .i64 (z.T.seen 7 : Int), .slice z.ao z.n z.c]] w fun e w' => e = .returned (.bool true) ∧ Below w.heap.size w w') := Lib.hid fun w hb => by
                    have := coversA y.c z.c (HY.out.keep hb) (qh.keep hb) (by omega)
                    rwa [show sameT (merT y.T z.T) y.T = true from (sameT_iff (mer_ok HY.out.ok qh.ok (Nat.le_refl _) (Nat.le_refl _)) HY.out.ok).2 hcv] at this
                  obtain ⟨q0, q1, q2, q3, q4, q5, q6, q7, q8⟩ := qa
                  obtain ⟨r0, r1, r2, r3, r4, r5, r6, r7, r8⟩ := cell_nine BY.out
                  clear qh hcv
                  go_upto_region 35 with fail
                  go_region_law (((try go_simp); go_at_call 18; refine (CO.out wr.drew (drew_below wr)).mono ?_; rintro e w7 ⟨rfl, hb7⟩; have B7 := Lib.hid ((drew_below wr).trans hb7); clear hb7))
                  all_goals go_wp2
                  all_goals go_roundg (i - (j + 1))
                  all_goals first | exact ⟨j + 1, by go_num, by omega, Nat.le_refl _, Lib.hid (HS.out.keep B7.out), Lib.hid (BY.out.keep B7.out), Lib.hid (HY.out.keep B7.out)⟩ | omega
                · obtain rfl : j = i := by omega
                  have u1 : ¬ (j : Int) < (j : Int) := by omega
                  have ST := settled_any HS.out.net (by omega)
                  rw [all_same HY.out.ok (fun q hq => HALL.out q (by rw [← HS.out.len]; exact hq)) (by rw [HS.out.len]; omega)] at ST
                  have ST := Lib.hid ST
                  go_wp2_with (first | (go_at_call 35; refine ST.out.mono ?_; rintro e w8 ⟨rfl, hb8⟩; have B8 := Lib.hid (HS.out.below.trans (hb8.mono HS.out.below.size)); clear hb8) | (go_at_call 10; refine (awake_any _).mono ?_; rintro e w9 ⟨rfl, hb9⟩; have B9 := Lib.hid (B8.out.trans (hb9.mono B8.out.size)); clear hb9))
                  go_ret
                  exact ⟨rfl, B9.out⟩

theorem settles_walk (s hu : Nat) (ao : Option Addr) (la ca : Nat) (xs : List DeedD) (W : World) (h : Deeds W ao la xs) (hla : la ≤ 9223372036854775807) (hs : s ≤ 255) (hh : hu ≤ 255) : Calls Try.prog 7 #[.int .u8 (s : Int), .slice ao la ca, .int .u8 (hu : Int)] W fun e w' => e = .returned (.bool true) ∧ Below W.heap.size W w' := by
  cases hb : isBrief xs la 100
  · exact settles_bad s hu ao la ca xs W h hla hs hh hb
  · refine settles_good s hu ao la ca xs W h hla hs hh hb ?_
    unfold isBrief at hb
    rw [Bool.and_eq_true] at hb
    exact of_decide_eq_true hb.2
end Go.Proofs.Ytkpjckabdmmiaaa
