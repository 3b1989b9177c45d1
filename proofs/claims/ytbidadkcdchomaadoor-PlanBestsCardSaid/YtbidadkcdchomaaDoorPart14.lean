/- Part 14 of the contracts: PStable, PTurn, RAsgP. -/
import Derived.Test.YtbidadkcdchomaaDoorPart13

/- The sort is stable; the order in which the document's Assign takes its turns, and its choice of vessels, are the program's. No function of the program is walked here. -/
set_option linter.unusedVariables false
set_option linter.unusedSimpArgs false
namespace Go.Proofs.YtbidadkcdchomaaDoor
open Go.RowKit

/-! ### the sort is stable -/
theorem insN_congr2 (K K' : Nat → Int) : ∀ (j : Nat) (l : List Nat), j < l.length → (∀ q, q < j → (K l[j]! < K l[q]! ↔ K' l[j]! < K' l[q]!)) → insN K j l = insN K' j l
  | 0, l, _, _ => rfl
  | j + 1, l, hj, h => by
    have e := h j (Nat.lt_succ_self _)
    unfold insN
    by_cases hk : K l[j + 1]! < K l[j]!
    · rw [if_pos hk, if_pos (e.1 hk)]
      refine insN_congr2 K K' j _ (by simp; omega) fun q hq => ?_
      rw [get_set_eq _ _ _ (by simp; omega), get_set_ne _ _ _ _ (by omega), get_set_ne _ _ _ _ (by omega)]
      exact h q (by omega)
    · rw [if_neg hk, if_neg (fun c => hk (e.2 c))]
theorem insN_fix (K : Nat → Int) : ∀ (j : Nat) (l : List Nat) (q : Nat), j < q → (insN K j l)[q]! = l[q]!
  | 0, _, _, _ => rfl
  | j + 1, l, q, h => by
    unfold insN
    split
    · rw [insN_fix K j _ q (by omega), get_set_ne _ _ _ _ (by omega), get_set_ne _ _ _ _ (by omega)]
    · rfl
theorem sortTo_fix (K : Nat → Int) (l : List Nat) : ∀ (i q : Nat), i ≤ q → (sortTo K l i)[q]! = l[q]!
  | 0, _, _ => rfl
  | i + 1, q, h => by rw [sortTo, insN_fix K i _ q (by omega), sortTo_fix K l i q (by omega)]
theorem range_at' (n q : Nat) (h : q < n) : (List.range n)[q]! = q := by rw [getElem!_pos _ q (by simpa using h), List.getElem_range]
theorem sortTo_low (K : Nat → Int) (n i q : Nat) (hi : i ≤ n) (hq : q < i) : (sortTo K (List.range n) i)[q]! < i := by
  have hp := sortTo_perm K (List.range n) i (by simpa using hi)
  have hl : (sortTo K (List.range n) i).length = n := by rw [sortTo_len, List.length_range]
  have hql : q < (sortTo K (List.range n) i).length := by omega
  have hn : (sortTo K (List.range n) i).Nodup := hp.nodup_iff.2 List.nodup_range
  rcases Nat.lt_or_ge (sortTo K (List.range n) i)[q]! i with h | h
  · exact h
  · exfalso
    have hv : (sortTo K (List.range n) i)[q]! < n := by
      have : (sortTo K (List.range n) i)[q]! ∈ List.range n := hp.mem_iff.1 (by rw [getElem!_pos _ q hql]; exact List.getElem_mem hql)
      exact List.mem_range.1 this
    have e := sortTo_fix K (List.range n) i _ h
    rw [range_at' n _ hv] at e
    have key : ∀ q', q' < n → (sortTo K (List.range n) i)[q']? = some (sortTo K (List.range n) i)[q']! := fun q' hq' => by
      rw [List.getElem?_eq_getElem (by omega), getElem!_pos _ q' (by omega)]
    obtain ⟨v, hve⟩ : ∃ v, v = (sortTo K (List.range n) i)[q]! := ⟨_, rfl⟩
    have k1 := key q (by omega)
    rw [← hve] at k1 h hv e
    have k2 := key v hv
    rw [e] at k2
    refine List.pairwise_iff_getElem.1 hn q v (by omega) (by omega) (by omega) ?_
    rw [List.getElem?_eq_getElem (by omega)] at k1 k2
    exact (Option.some.inj k1).trans (Option.some.inj k2).symm
/-- the key with the index -/
def keyX (K : Nat → Int) (n : Nat) (i : Nat) : Int := K i * (n : Int) + (i : Int)
theorem keyX_lt (K : Nat → Int) (n a b : Nat) (ha : a < n) (hb : b < n) : keyX K n a < keyX K n b ↔ (K a < K b ∨ (K a = K b ∧ a < b)) := by
  unfold keyX
  have hn : (0 : Int) < n := by omega
  rcases Int.lt_trichotomy (K a) (K b) with h | h | h
  · have h1 : (K a + 1) * (n : Int) ≤ K b * (n : Int) := Int.mul_le_mul_of_nonneg_right (by omega) (by omega)
    rw [Int.add_mul, Int.one_mul] at h1
    constructor
    · intro _; exact .inl h
    · intro _; omega
  · rw [h]
    constructor
    · intro g; right; exact ⟨rfl, by omega⟩
    · rintro (g | ⟨_, g⟩)
      · omega
      · omega
  · have h1 : (K b + 1) * (n : Int) ≤ K a * (n : Int) := Int.mul_le_mul_of_nonneg_right (by omega) (by omega)
    rw [Int.add_mul, Int.one_mul] at h1
    constructor
    · intro g; omega
    · rintro (g | ⟨g, _⟩) <;> omega
theorem sortTo_X (K : Nat → Int) (n : Nat) : ∀ i, i ≤ n → sortTo K (List.range n) i = sortTo (keyX K n) (List.range n) i
  | 0, _ => rfl
  | i + 1, hi => by
    rw [sortTo, sortTo, ← sortTo_X K n i (by omega)]
    refine insN_congr2 K (keyX K n) i _ (by rw [sortTo_len, List.length_range]; omega) fun q hq => ?_
    have h1 := sortTo_low K n i q (by omega) hq
    have h2 : (sortTo K (List.range n) i)[i]! = i := by rw [sortTo_fix K _ i i (Nat.le_refl _), range_at' n i (by omega)]
    rw [h2, keyX_lt K n _ _ (by omega) (by omega)]
    constructor
    · intro h; exact .inl h
    · rintro (h | ⟨_, h⟩)
      · exact h
      · omega
theorem sortR_stable (K : Nat → Int) (n : Nat) : (sortR K n).Pairwise fun a b => K a < K b ∨ (K a = K b ∧ a < b) := by
  have h1 := sortR_sorted (keyX K n) n
  have e : sortR K n = sortR (keyX K n) n := sortTo_X K n n (Nat.le_refl _)
  rw [← e] at h1
  have h2 : (sortR K n).Pairwise (· ≠ ·) := sortR_nodup K n
  refine (h1.and h2).imp_of_mem fun {a b} ha hb ⟨hle, hne⟩ => ?_
  have ha := (sortR_mem K n a).1 ha
  have hb := (sortR_mem K n b).1 hb
  rcases Int.lt_or_le (keyX K n a) (keyX K n b) with h | h
  · exact (keyX_lt K n a b ha hb).1 h
  · rcases Nat.lt_or_gt_of_ne hne with g | g
    · have := (keyX_lt K n a b ha hb)
      rcases Int.lt_trichotomy (K a) (K b) with q | q | q
      · exact .inl q
      · exact .inr ⟨q, g⟩
      · have := (keyX_lt K n b a hb ha).2 (.inl q)
        omega
    · rcases Int.lt_trichotomy (K a) (K b) with q | q | q
      · exact .inl q
      · have := (keyX_lt K n b a hb ha).2 (.inr ⟨q.symm, g⟩)
        omega
      · have := (keyX_lt K n b a hb ha).2 (.inl q)
        omega
/-- what the document's turn picks is the next one in the order -/
theorem pick_next {K : Nat → Int} {n t i : Nat} (ht : t < n) (hi : i < n) (hu : i ∉ (sortR K n).take t) (hmin : ∀ q, q < n → q ∉ (sortR K n).take t → K i < K q ∨ (K i = K q ∧ i ≤ q)) : (sortR K n)[t]! = i := by
  have hl := sortR_len K n
  have htl : t < (sortR K n).length := by omega
  have e : (sortR K n).drop t = (sortR K n)[t]'htl :: (sortR K n).drop (t + 1) := List.drop_eq_getElem_cons htl
  have hnd := sortR_nodup K n
  have hmem : (sortR K n)[t]'htl ∉ (sortR K n).take t := by
    intro c
    rw [← List.take_append_drop t (sortR K n), e] at hnd
    exact (List.nodup_append.1 hnd).2.2 _ c _ List.mem_cons_self rfl
  rw [getElem!_pos _ t htl]
  have h1 := hmin _ ((sortR_mem K n _).1 (List.getElem_mem htl)) hmem
  have h2 : i ∈ (sortR K n).drop t := by
    have : i ∈ (sortR K n).take t ++ (sortR K n).drop t := by rw [List.take_append_drop]; exact (sortR_mem K n i).2 hi
    rcases List.mem_append.1 this with h | h
    · exact absurd h hu
    · exact h
  rw [e] at h2
  rcases List.mem_cons.1 h2 with h | h
  · exact h.symm
  · have hs := sortR_stable K n
    rw [← List.take_append_drop t (sortR K n), e] at hs
    have h3 := (List.pairwise_cons.1 (List.pairwise_append.1 hs).2.1).1 i h
    rcases h1 with h1 | ⟨h1, h4⟩ <;> rcases h3 with h3 | ⟨h3, h5⟩ <;> omega
end Go.Proofs.YtbidadkcdchomaaDoor

/- The document's Assign, turn by turn: it chooses the vessels that the program chooses. No function of the program is walked here. -/
set_option linter.unusedVariables false
set_option linter.unusedSimpArgs false
namespace Go.Proofs.YtbidadkcdchomaaDoor
open Go.RowKit

/-- what is known behind some turns: the vessels of those that are done, and when each vessel is free -/
structure Turn (vis : List (Nat × Nat)) (m : Nat) (dn fr ch : List Nat) : Prop where
  fl : fr.length = m
  lt : ∀ j ∈ dn, ch[j]! < m
  free : ∀ v, v < m → ∀ b, fr[v]! ≤ b ↔ ∀ j ∈ dn, ch[j]! = v → (vis[j]!).2 ≤ b
theorem Turn.zero (vis : List (Nat × Nat)) (m n : Nat) : Turn vis m [] (List.replicate m 0) (List.replicate n 0) := by
  refine ⟨by simp, fun j hj => (by cases hj), fun v hv b => ⟨fun _ j hj => (by cases hj), fun _ => ?_⟩⟩
  rw [getElem!_pos _ v (by simpa using hv), List.getElem_replicate]
  exact Nat.zero_le _
theorem Turn.next {vis : List (Nat × Nat)} {m i v : Nat} {dn fr ch : List Nat} (h : Turn vis m dn fr ch) (hi : i ∉ dn) (hil : i < ch.length) (hv : v < m) (hf : fr[v]! ≤ (vis[i]!).1) (hp : (vis[i]!).1 < (vis[i]!).2) : Turn vis m (dn ++ [i]) (fr.set v (vis[i]!).2) (ch.set i v) := by
  have hch : ∀ j ∈ dn, (ch.set i v)[j]! = ch[j]! := fun j hj => get_set_ne _ _ _ _ (by rintro rfl; exact hi hj)
  have hci : (ch.set i v)[i]! = v := get_set_eq _ _ _ hil
  have hvl : v < fr.length := by rw [h.fl]; exact hv
  refine ⟨by rw [List.length_set]; exact h.fl, fun j hj => ?_, fun u hu b => ?_⟩
  · rcases List.mem_append.1 hj with hj | hj
    · rw [hch j hj]; exact h.lt j hj
    · obtain rfl := List.mem_singleton.1 hj
      rw [hci]; exact hv
  · by_cases e : v = u
    · subst e
      rw [get_set_eq _ _ _ hvl]
      constructor
      · intro hb j hj hc
        rcases List.mem_append.1 hj with hj | hj
        · rw [hch j hj] at hc
          have := (h.free v hv (vis[i]!).1).1 hf j hj hc
          omega
        · obtain rfl := List.mem_singleton.1 hj
          exact hb
      · intro hb
        exact hb i (List.mem_append_right _ (List.mem_singleton.2 rfl)) hci
    · rw [get_set_ne _ _ _ _ e, h.free u hu b]
      constructor
      · intro hb j hj hc
        rcases List.mem_append.1 hj with hj | hj
        · rw [hch j hj] at hc
          exact hb j hj hc
        · obtain rfl := List.mem_singleton.1 hj
          rw [hci] at hc
          exact absurd hc e
      · intro hb j hj hc
        exact hb j (List.mem_append_left _ hj) (by rw [hch j hj]; exact hc)
/-- is the vessel used by one of the first k batches, as far as they are done, behind a time? -/
def usedB (vis : List (Nat × Nat)) (D : Nat → Bool) (ch : List Nat) (b k v : Nat) : Bool := (List.range k).any fun q => D q && (decide (ch[q]! = v) && decide (b < (vis[q]!).2))
theorem usedB_iff {vis : List (Nat × Nat)} {D : Nat → Bool} {ch : List Nat} {b k v : Nat} : usedB vis D ch b k v = true ↔ ∃ q, q < k ∧ D q = true ∧ ch[q]! = v ∧ b < (vis[q]!).2 := by
  unfold usedB
  rw [List.any_eq_true]
  constructor
  · rintro ⟨q, hq, h⟩
    rw [Bool.and_eq_true, Bool.and_eq_true, decide_eq_true_eq, decide_eq_true_eq] at h
    exact ⟨q, List.mem_range.1 hq, h⟩
  · rintro ⟨q, hq, h⟩
    refine ⟨q, List.mem_range.2 hq, ?_⟩
    rw [Bool.and_eq_true, Bool.and_eq_true, decide_eq_true_eq, decide_eq_true_eq]
    exact h
def dnB (dn : List Nat) (q : Nat) : Bool := decide (q ∈ dn)
section
variable {vis : List (Nat × Nat)} {m n i v : Nat} {dn fr ch : List Nat}
theorem Turn.used_lt (h : Turn vis m dn fr ch) {b k v : Nat} (hu : usedB vis (dnB dn) ch b k v = true) : v < m := by
  obtain ⟨q, _, hq, hc, _⟩ := usedB_iff.1 hu
  rw [← hc]
  exact h.lt q (of_decide_eq_true hq)
theorem Turn.used_free (h : Turn vis m dn fr ch) (hlt : ∀ q ∈ dn, q < n) {b v : Nat} (hv : v < m) : usedB vis (dnB dn) ch b n v = false ↔ fr[v]! ≤ b := by
  rw [h.free v hv b, ← Bool.not_eq_true, usedB_iff]
  constructor
  · intro g j hj hc
    rcases Nat.lt_or_ge b (vis[j]!).2 with q | q
    · exact absurd ⟨j, hlt j hj, decide_eq_true hj, hc, q⟩ g
    · exact q
  · rintro g ⟨q, _, hq, hc, hb⟩
    have := g q (of_decide_eq_true hq) hc
    omega
theorem Turn.choose (h : Turn vis m dn fr ch) (hlt : ∀ q ∈ dn, q < n) (hv : v < m) (h1 : ∀ u, u < v → usedB vis (dnB dn) ch (vis[i]!).1 n u = true) (h2 : usedB vis (dnB dn) ch (vis[i]!).1 n v = false) : fr.findIdx? (fun x => decide (x ≤ (vis[i]!).1)) = some v := by
  have hvl : v < fr.length := by rw [h.fl]; exact hv
  rw [List.findIdx?_eq_some_iff_getElem]
  refine ⟨hvl, ?_, fun u hu => ?_⟩
  · rw [decide_eq_true_eq, ← getElem!_pos fr v hvl]
    exact (h.used_free hlt hv).1 h2
  · have := h1 u hu
    rw [decide_eq_true_eq, ← getElem!_pos fr u (by omega)]
    intro c
    rw [(h.used_free hlt (by omega)).2 c] at this
    cases this
theorem Turn.choose_none (h : Turn vis m dn fr ch) (hlt : ∀ q ∈ dn, q < n) (hv : m ≤ v) (h1 : ∀ u, u < v → usedB vis (dnB dn) ch (vis[i]!).1 n u = true) : fr.findIdx? (fun x => decide (x ≤ (vis[i]!).1)) = none := by
  rw [List.findIdx?_eq_none_iff]
  intro x hx
  obtain ⟨u, hu, rfl⟩ := List.mem_iff_getElem.1 hx
  have hum : u < m := by rw [← h.fl]; exact hu
  rw [decide_eq_false_iff_not, ← getElem!_pos fr u hu]
  intro c
  have := h1 u (by omega)
  rw [(h.used_free hlt hum).2 c] at this
  cases this
theorem ffN_some (vis : List (Nat × Nat)) (i v : Nat) (os fr ch : List Nat) (h : fr.findIdx? (fun x => decide (x ≤ (vis[i]!).1)) = some v) : ffN vis (i :: os) fr ch = ffN vis os (fr.set v (vis[i]!).2) (ch.set i v) := by
  conv => lhs; unfold ffN
  rw [h]
theorem ffN_none (vis : List (Nat × Nat)) (i : Nat) (os fr ch : List Nat) (h : fr.findIdx? (fun x => decide (x ≤ (vis[i]!).1)) = none) : ffN vis (i :: os) fr ch = none := by
  unfold ffN
  rw [h]
end
/-- what is picked of the first j: none, as all are done, or the first one that begins first -/
def PickI (K : Nat → Nat) (dn : List Nat) (j : Nat) (z : Int) : Prop :=
  (z = -1 ∧ ∀ q, q < j → q ∈ dn) ∨ ∃ i : Nat, z = (i : Int) ∧ i < j ∧ i ∉ dn ∧ ∀ q, q < j → q ∉ dn → K i < K q ∨ (K i = K q ∧ i ≤ q)
theorem PickI.zero (K : Nat → Nat) (dn : List Nat) : PickI K dn 0 (-1) := .inl ⟨rfl, fun q hq => absurd hq (Nat.not_lt_zero _)⟩
section
variable {K : Nat → Nat} {dn : List Nat} {j : Nat} {z : Int}
theorem PickI.skip (h : PickI K dn j z) (hj : j ∈ dn) : PickI K dn (j + 1) z := by
  rcases h with ⟨rfl, h⟩ | ⟨i, rfl, h1, h2, h3⟩
  · refine .inl ⟨rfl, fun q hq => ?_⟩
    rcases Nat.lt_succ_iff_lt_or_eq.1 hq with hq | rfl
    · exact h q hq
    · exact hj
  · refine .inr ⟨i, rfl, by omega, h2, fun q hq hn => ?_⟩
    rcases Nat.lt_succ_iff_lt_or_eq.1 hq with hq | rfl
    · exact h3 q hq hn
    · exact absurd hj hn
theorem PickI.first (h : ∀ q, q < j → q ∈ dn) (hj : j ∉ dn) : PickI K dn (j + 1) (j : Int) := by
  refine .inr ⟨j, rfl, Nat.lt_succ_self _, hj, fun q hq hn => ?_⟩
  rcases Nat.lt_succ_iff_lt_or_eq.1 hq with hq | rfl
  · exact absurd (h q hq) hn
  · exact .inr ⟨rfl, Nat.le_refl _⟩
theorem PickI.less {i : Nat} (h1 : i < j) (h3 : ∀ q, q < j → q ∉ dn → K i < K q ∨ (K i = K q ∧ i ≤ q)) (hj : j ∉ dn) (hk : K j < K i) : PickI K dn (j + 1) (j : Int) := by
  refine .inr ⟨j, rfl, Nat.lt_succ_self _, hj, fun q hq hn => ?_⟩
  rcases Nat.lt_succ_iff_lt_or_eq.1 hq with hq | rfl
  · rcases h3 q hq hn with g | ⟨g, _⟩ <;> (left; omega)
  · exact .inr ⟨rfl, Nat.le_refl _⟩
theorem PickI.more {i : Nat} (h1 : i < j) (h2 : i ∉ dn) (h3 : ∀ q, q < j → q ∉ dn → K i < K q ∨ (K i = K q ∧ i ≤ q)) (hk : ¬ K j < K i) : PickI K dn (j + 1) (i : Int) := by
  refine .inr ⟨i, rfl, by omega, h2, fun q hq hn => ?_⟩
  rcases Nat.lt_succ_iff_lt_or_eq.1 hq with hq | rfl
  · exact h3 q hq hn
  · rcases Nat.lt_or_ge (K i) (K q) with g | g
    · exact .inl g
    · exact .inr ⟨by omega, by omega⟩
/-- at the end, it is the next one in the order -/
theorem PickI.last {vis : List (Nat × Nat)} {n t : Nat} (ht : t < n) (h : PickI (fun q => (vis[q]!).1) ((sortR (begK vis) n).take t) n z) : z = ((sortR (begK vis) n)[t]! : Int) ∧ (sortR (begK vis) n)[t]! < n ∧ (sortR (begK vis) n)[t]! ∉ (sortR (begK vis) n).take t := by
  have hl := sortR_len (begK vis) n
  rcases h with ⟨_, h⟩ | ⟨i, rfl, h1, h2, h3⟩
  · exfalso
    have htl : t < (sortR (begK vis) n).length := by omega
    have hnd := sortR_nodup (begK vis) n
    have hx := h _ ((sortR_mem (begK vis) n _).1 (List.getElem_mem htl))
    rw [← List.take_append_drop t (sortR (begK vis) n), List.drop_eq_getElem_cons htl] at hnd
    exact (List.nodup_append.1 hnd).2.2 _ hx _ List.mem_cons_self rfl
  · have e := pick_next (K := begK vis) ht h1 h2 fun q hq hn => by
      have := h3 q hq hn
      dsimp only at this
      unfold begK
      omega
    rw [e]
    exact ⟨rfl, h1, h2⟩
end
/-- the one that is picked begins no earlier than those that are done -/
theorem taken_le {vis : List (Nat × Nat)} {n t : Nat} (ht : t < n) : ∀ q ∈ (sortR (begK vis) n).take t, (vis[q]!).1 ≤ (vis[(sortR (begK vis) n)[t]!]!).1 := by
  intro q hq
  have hl := sortR_len (begK vis) n
  have htl : t < (sortR (begK vis) n).length := by omega
  have hs := sortR_sorted (begK vis) n
  rw [← List.take_append_drop t (sortR (begK vis) n), List.drop_eq_getElem_cons htl] at hs
  have := (List.pairwise_append.1 hs).2.2 q hq _ List.mem_cons_self
  rw [getElem!_pos _ t htl]
  exact Int.ofNat_le.1 this
end Go.Proofs.YtbidadkcdchomaaDoor

/- Words for the document's Assign: rows of truth values; rows of vessels. No function of the program is walked here. (By gen_rasg.py.) -/
set_option linter.unusedVariables false
set_option linter.unusedSimpArgs false
namespace Go.Proofs.YtbidadkcdchomaaDoor
open Go.RowKit

/-- a row of truth values -/
def Bls (w : World) (g : Nat) (hs : List Bool) : Prop := Box w g 4 (hs.map Value.bool).toArray
section
variable {w w' : World} {g : Nat} {hs : List Bool}
theorem Bls.lt (h : Bls w g hs) : g < w.heap.size := Box.lt h
theorem Bls.keep (h : Bls w g hs) (hb : Below w.heap.size w w') : Bls w' g hs := Box.below h hb h.lt
theorem Bls.at (h : Bls w g hs) {i : Nat} (hi : i < hs.length) : w.cell? ⟨g, i, none⟩ = some (.bool hs[i]!) := by
  rw [Box.cell h, getElem!_pos hs i hi]
  simp [hi]
theorem Bls.free (h : Bls w g hs) (o : Nat) : w.frozen? ⟨g, o, none⟩ = false := Box.frozen h o
theorem Bls.set (h : Bls w g hs) (i : Nat) (v : Bool) : Bls (w.setCell ⟨g, i, none⟩ (.bool v)) g (hs.set i v) := by
  have := Box.set h i (.bool v)
  rw [List.setIfInBounds_toArray, ← List.map_set] at this
  exact this
theorem Bls.other (h : Bls w g hs) (p : Addr) (hp : g ≠ p.block) (v : Value) : Bls (w.setCell p v) g hs := (Below.heap_setCell w p v g hp).trans h
end
theorem made_bools (n : Nat) : madeCells (Value.bool false).cells (n * 1) = ((List.replicate n false).map Value.bool).toArray := by
  rw [Nat.mul_one]
  apply Array.toList_inj.1
  rw [List.map_replicate]
  exact toList_madeCells_one _ _
/-- a row whose first k stages are filled, the next one with ch -/
def rowT (col : Nat → List Nat) (ch : List Nat) (vl k j : Nat) : List Nat := (List.range vl).map fun s => if s < k then (col s)[j]! else if s = k then ch[j]! else 0
theorem rowT_len (col : Nat → List Nat) (ch : List Nat) (vl k j : Nat) : (rowT col ch vl k j).length = vl := by simp [rowT]
theorem rowT_start (col : Nat → List Nat) (n vl k j : Nat) (hj : j < n) : rowG col vl k 0 j = rowT col (List.replicate n 0) vl k j := by
  unfold rowT rowG
  refine List.map_congr_left fun s _ => ?_
  by_cases h : s < k
  · rw [if_pos (by omega), if_pos h]
  · rw [if_neg (by omega), if_neg h]
    by_cases e : s = k
    · rw [if_pos e, getElem!_pos _ j (by simpa using hj), List.getElem_replicate]
    · rw [if_neg e]
theorem rowT_end (col : Nat → List Nat) (ch : List Nat) (vl k j : Nat) (h : col k = ch) : rowT col ch vl k j = rowG col vl (k + 1) 0 j := by
  unfold rowT rowG
  refine List.map_congr_left fun s _ => ?_
  by_cases h1 : s < k
  · rw [if_pos h1, if_pos (by omega)]
  · rw [if_neg h1]
    by_cases e : s = k
    · rw [if_pos e, if_pos (by omega), e, h]
    · rw [if_neg e, if_neg (by omega)]
theorem rowT_put (col : Nat → List Nat) (ch : List Nat) (vl k i v j : Nat) (hi : i < ch.length) (hk : k < vl) : (if j = i then (rowT col ch vl k j).set k v else rowT col ch vl k j) = rowT col (ch.set i v) vl k j := by
  by_cases e : j = i
  · subst e
    rw [if_pos rfl]
    refine List.ext_getElem (by simp [rowT]) fun s h1 h2 => ?_
    rw [List.getElem_set]
    simp only [rowT, List.getElem_map, List.getElem_range]
    by_cases h : k = s
    · subst h
      rw [if_pos rfl, if_neg (by omega), if_pos rfl, get_set_eq _ _ _ hi]
    · rw [if_neg h]
      by_cases h3 : s < k
      · rw [if_pos h3, if_pos h3]
      · rw [if_neg h3, if_neg h3, if_neg (by omega), if_neg (by omega)]
  · rw [if_neg e]
    unfold rowT
    refine List.map_congr_left fun s _ => ?_
    rw [get_set_ne _ _ _ _ (by omega)]
theorem rowT_get (col : Nat → List Nat) (ch : List Nat) (vl k j : Nat) (hk : k < vl) : (rowT col ch vl k j)[k]! = ch[j]! := by
  unfold rowT
  rw [getElem!_pos _ k (by simpa using hk), List.getElem_map, List.getElem_range, if_neg (by omega), if_pos rfl]
theorem AsS.big {W w : World} {n vl : Nat} {rows : Nat → List Nat} (h : AsS W w n vl n rows) : W.heap.size + n < w.heap.size := by
  rcases Nat.eq_zero_or_pos n with h0 | h0
  · have := h.hd.lt
    omega
  · have := (h.row (n - 1) (by omega)).lt
    omega
theorem AsS.far {W w : World} {n vl : Nat} {rows : Nat → List Nat} (h : AsS W w n vl n rows) {g : Nat} (hg : W.heap.size + n < g) (i : Nat) (v : Value) : AsS W (w.setCell ⟨g, i, none⟩ v) n vl n rows :=
  ⟨(Below.heap_setCell _ _ _ _ (by show W.heap.size ≠ g; omega)).trans h.hd, fun j hj => (h.row j hj).other _ (by show W.heap.size + 1 + j ≠ g; omega) _, h.bel.setCell (p := ⟨g, i, none⟩) (by show W.heap.size ≤ g; omega) _⟩
/-- who is done -/
def flagsL (dn : List Nat) (n : Nat) : List Bool := (List.range n).map (dnB dn)
theorem flagsL_len (dn : List Nat) (n : Nat) : (flagsL dn n).length = n := by simp [flagsL]
theorem flagsL_at (dn : List Nat) (n q : Nat) (h : q < n) : (flagsL dn n)[q]! = dnB dn q := by
  unfold flagsL
  rw [getElem!_pos _ q (by simpa using h), List.getElem_map, List.getElem_range]
theorem flagsL_zero (n : Nat) : flagsL [] n = List.replicate n false := by
  refine List.ext_getElem (by simp [flagsL]) fun i h1 h2 => by simp [flagsL, dnB]
theorem flagsL_set (dn : List Nat) (n i : Nat) (hi : i < n) : (flagsL dn n).set i true = flagsL (dn ++ [i]) n := by
  refine List.ext_getElem (by simp [flagsL]) fun q h1 h2 => ?_
  rw [List.getElem_set]
  simp only [flagsL, List.getElem_map, List.getElem_range, dnB]
  by_cases h : i = q
  · subst h; simp
  · rw [if_neg h]
    have : q ∈ dn ++ [i] ↔ q ∈ dn := by
      rw [List.mem_append, List.mem_singleton]
      constructor
      · rintro (g | g)
        · exact g
        · exact absurd g.symm h
      · exact .inl
    simp only [this]
/-- which vessels are used -/
def usedL (vis : List (Nat × Nat)) (D : Nat → Bool) (ch : List Nat) (b k m : Nat) : List Bool := (List.range m).map (usedB vis D ch b k)
theorem usedL_len (vis : List (Nat × Nat)) (D : Nat → Bool) (ch : List Nat) (b k m : Nat) : (usedL vis D ch b k m).length = m := by simp [usedL]
theorem usedL_at (vis : List (Nat × Nat)) (D : Nat → Bool) (ch : List Nat) (b k m v : Nat) (h : v < m) : (usedL vis D ch b k m)[v]! = usedB vis D ch b k v := by
  unfold usedL
  rw [getElem!_pos _ v (by simpa using h), List.getElem_map, List.getElem_range]
theorem usedL_zero (vis : List (Nat × Nat)) (D : Nat → Bool) (ch : List Nat) (b m : Nat) : usedL vis D ch b 0 m = List.replicate m false := by
  refine List.ext_getElem (by simp [usedL]) fun i h1 h2 => by simp [usedL, usedB]
theorem usedB_next (vis : List (Nat × Nat)) (D : Nat → Bool) (ch : List Nat) (b k v : Nat) : usedB vis D ch b (k + 1) v = (usedB vis D ch b k v || (D k && (decide (ch[k]! = v) && decide (b < (vis[k]!).2)))) := by
  unfold usedB
  rw [List.range_succ, List.any_append]
  simp
theorem usedL_same {vis : List (Nat × Nat)} {D : Nat → Bool} {ch : List Nat} {b k m : Nat} (h : D k = false ∨ ¬ b < (vis[k]!).2) : usedL vis D ch b (k + 1) m = usedL vis D ch b k m := by
  unfold usedL
  refine List.map_congr_left fun v _ => ?_
  rw [usedB_next]
  rcases h with h | h
  · rw [h]; simp
  · rw [decide_eq_false h]; simp
theorem usedL_set {vis : List (Nat × Nat)} {D : Nat → Bool} {ch : List Nat} {b k m : Nat} (h1 : D k = true) (h2 : b < (vis[k]!).2) (h3 : ch[k]! < m) : (usedL vis D ch b k m).set (ch[k]!) true = usedL vis D ch b (k + 1) m := by
  refine List.ext_getElem (by simp [usedL]) fun v g1 g2 => ?_
  rw [List.getElem_set]
  simp only [usedL, List.getElem_map, List.getElem_range]
  rw [usedB_next, h1, decide_eq_true h2]
  by_cases e : ch[k]! = v
  · rw [if_pos e, decide_eq_true e]; simp
  · rw [if_neg e, decide_eq_false e]; simp
/-- whether two stays meet, where one begins no later -/
theorem meetK_behind {bn : List BN} {ss : List Nat} {k i j : Nat} (h1 : ss[j]! + begN bn[j]! k ≤ ss[i]! + begN bn[i]! k) (h2 : begN bn[i]! k < begN bn[i]! (k + 1)) : meetK bn[i]! bn[j]! (ss[i]! : Int) (ss[j]! : Int) k = decide (ss[i]! + begN bn[i]! k < ss[j]! + begN bn[j]! (k + 1)) := by
  unfold meetK meetZ
  rw [decide_eq_true (show (ss[j]! : Int) + (begN bn[j]! k : Int) < (ss[i]! : Int) + (begN bn[i]! (k + 1) : Int) by omega), Bool.and_true]
  exact decide_eq_decide.2 (by omega)
end Go.Proofs.YtbidadkcdchomaaDoor
