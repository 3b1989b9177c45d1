/- Part 8 of the contracts: DComm, DLess, DOk, DRefM, DRef1, DRef2, DRef3, DRefN. -/
import Derived.IntWalk
import Derived.Test.YthjmiimkplhffaaPart7

/- The law's right; two nodes compared; sums in either order. -/
set_option linter.unusedVariables false
set_option linter.unusedSimpArgs false
namespace Go.Proofs.Ythjmiimkplhffaa
open Go.RowKit Go.Maps

theorem right_yes (l f : Int) (W : World) (h : Right l f) : Calls Try.prog 17 #[.int .i64 l, .int .i64 f] W (fun e w' => e = .returned (.bool true) ∧ w' = W) := by
  obtain ⟨h1, h2, h3, h4⟩ := h
  go_enter Try.func17, Try.ntmps17
  go_wp2
  go_ret
  exact ⟨rfl, rfl⟩
theorem right_no (l f : Int) (W : World) (h : ¬ Right l f) : Calls Try.prog 17 #[.int .i64 l, .int .i64 f] W (fun e w' => e = .returned (.bool false) ∧ w' = W) := by
  by_cases h1 : 1 ≤ l
  · by_cases h2 : l ≤ 20
    · by_cases h3 : 1 ≤ f
      · have h4 : ¬ f ≤ 1000 := fun h4 => h ⟨h1, h2, h3, h4⟩
        go_enter Try.func17, Try.ntmps17
        go_wp2
        go_ret
        exact ⟨rfl, rfl⟩
      · go_enter Try.func17, Try.ntmps17
        go_wp2
        go_ret
        exact ⟨rfl, rfl⟩
    · go_enter Try.func17, Try.ntmps17
      go_wp2
      go_ret
      exact ⟨rfl, rfl⟩
  · go_enter Try.func17, Try.ntmps17
    go_wp2
    go_ret
    exact ⟨rfl, rfl⟩

theorem eqIn_node (d : Nat) (l f a b : Int) (w : World) :
    (Op.equalIn (d + 1 + 1) 64 (.agg #[.int .i64 l, .int .i64 f]) (.agg #[.int .i64 a, .int .i64 b])).run Try.prog w = .ok (l == a && f == b) w := by
  have u3 := Try.underlying3
  rw [run_equalIn_agg w (d + 1) 64 _ _ (by kernel_rfl) (by kernel_rfl)]
  simp only [Program.fieldsOf, Try.underlying64, Op.eqFields]
  simp [part, run_equalIn_int, u3, Result.andThen]
  by_cases h1 : l = a <;> by_cases h2 : f = b <;> simp [h1, h2]
theorem run_neq_node (l f : Int) (w : World) :
    (binOp .neq 64 (.agg #[.int .i64 l, .int .i64 f]) (.agg #[.int .i64 l, .int .i64 f])).run Try.prog w = .ok (.bool false) w := by
  rw [run_neq_struct, show (10000 : Nat) = 9998 + 1 + 1 from rfl, eqIn_node]
  simp [Result.andThen]

/-- merged in either order -/
theorem comp_comm {L : Nat} {F n m : Int} {c k d e : Int → Int} (h : Comp ((n + m) / F) L (fun q => c q + k q) d) (h' : Comp ((m + n) / F) L (fun q => k q + c q) e) : d = e := by
  have e1 : (fun q => k q + c q) = (fun q => c q + k q) := funext fun q => Int.add_comm _ _
  rw [e1, Int.add_comm m n] at h'
  exact h.same h'
end Go.Proofs.Ythjmiimkplhffaa

/- The law's less. -/
set_option linter.unusedVariables false
set_option linter.unusedSimpArgs false
namespace Go.Proofs.Ythjmiimkplhffaa
open Go.RowKit

/-- how many of the values are less than v -/
def lessL (v : Int) (l : List (Int × Int)) : Int := (l.map fun x => if x.1 < v then x.2 else 0).sum
theorem lessL_snoc (v : Int) (l : List (Int × Int)) (x : Int × Int) : lessL v (l ++ [x]) = lessL v l + if x.1 < v then x.2 else 0 := by unfold lessL; simp
theorem lessL_le (v : Int) : ∀ (l : List (Int × Int)), (∀ x ∈ l, 0 ≤ x.2) → 0 ≤ lessL v l ∧ lessL v l ≤ times l
  | [], _ => by unfold lessL times; simp
  | x :: l, h => by
    have ih := lessL_le v l (fun y hy => h y (List.mem_cons_of_mem _ hy))
    have h1 := h x List.mem_cons_self
    unfold lessL times at *
    simp only [List.map_cons, List.sum_cons]
    split <;> omega
theorem times_part (l m : List (Int × Int)) (h : ∀ x ∈ l ++ m, 0 ≤ x.2) : times l ≤ times (l ++ m) := by
  have h1 := (lessL_le 0 m (fun x hx => h x (List.mem_append_right _ hx)))
  unfold times at *
  rw [List.map_append, List.sum_append]
  omega
theorem lessL_all (v : Int) : ∀ (l : List (Int × Int)), (∀ x ∈ l, x.1 < v) → lessL v l = times l
  | [], _ => rfl
  | x :: l, h => by
    have ih := lessL_all v l (fun y hy => h y (List.mem_cons_of_mem _ hy))
    have h1 := h x List.mem_cons_self
    unfold lessL times at *
    simp only [List.map_cons, List.sum_cons, if_pos h1, ih]

set_option maxRecDepth 100000 in
set_option maxHeartbeats 2000000 in
theorem less_any (v : Int) (ao : Option Addr) (la ca : Nat) (xs : List (Int × Int)) (W : World) (hs : Al W ao la xs) (hla : la ≤ 1000) (h0 : ∀ x ∈ xs, 0 ≤ x.2) (h1 : times xs ≤ 1099511627776) :
    Calls Try.prog 30 #[.slice ao la ca, .int .i64 v] W (fun e w' => e = .returned (.int .i64 (lessL v xs)) ∧ w' = W) := by
  have HS := Lib.hid hs
  have H0 := Lib.hid h0
  have H1 := Lib.hid h1
  clear hs h0 h1
  go_enter Try.func30, Try.ntmps30
  go_wp2_with fail
  go_loopg [5, 6] (la + 1) (fun g t5 t6 wr => ∃ i : Nat, t5 = .int .i64 (lessL v (xs.take i)) ∧ t6 = .int .i64 (i : Int) ∧ i ≤ la ∧ i + g = la + 1 ∧ W = wr)
  case atStart => exact ⟨0, by simp [lessL], rfl, by omega, by omega, rfl⟩
  case round =>
    obtain ⟨i, rfl, rfl, hi, hg, rfl⟩ := hrel
    by_cases hlt : i < la
    · have hlt2 : (i : Int) < (la : Int) := by omega
      obtain ⟨bb, off, rfl, q0, q1⟩ := HS.out.at hlt
      obtain ⟨x, hx⟩ : ∃ x, x = xs[i]?.getD (0, 0) := ⟨_, rfl⟩
      rw [← hx] at q0 q1
      have q2 : World.cell? _ ⟨bb, off + i * 2 + 1, none⟩ = some (Value.int .i64 x.2) := q1
      have hnx := take_next (by rw [HS.out.1]; exact hlt) hx
      have HN : Hid (lessL v (xs.take (i + 1)) = lessL v (xs.take i) + if x.1 < v then x.2 else 0) := Lib.hid (by rw [hnx, lessL_snoc])
      have hb : ∀ j, 0 ≤ lessL v (xs.take j) ∧ lessL v (xs.take j) ≤ 1099511627776 := fun j => by
        have a := lessL_le v (xs.take j) (fun y hy => H0.out y (List.mem_of_mem_take hy))
        have b := times_part (xs.take j) (xs.drop j) (fun y hy => H0.out y (by rwa [List.take_append_drop] at hy))
        rw [List.take_append_drop] at b
        have := H1.out
        omega
      have hb1 := hb i
      have hb2 := hb (i + 1)
      rw [HN.out] at hb2
      generalize lessL v (xs.take i) = s at hb1 hb2 HN ⊢
      clear hb hx hnx
      by_cases hv : x.1 < v
      · rw [if_pos hv] at hb2 HN
        go_wp2_with fail
        go_roundg (gk - 1)
        case measure => omega
        case rel => exact ⟨i + 1, by rw [HN.out], rfl, by omega, by omega, rfl⟩
      · rw [if_neg hv] at hb2 HN
        go_wp2_with fail
        go_roundg (gk - 1)
        case measure => omega
        case rel => exact ⟨i + 1, by rw [HN.out, Int.add_zero], rfl, by omega, by omega, rfl⟩
    · obtain rfl : i = la := by omega
      rw [List.take_of_length_le (by rw [HS.out.1]; exact Nat.le_refl _)]
      go_wp2_with fail
      go_ret
      exact ⟨rfl, rfl⟩
end Go.Proofs.Ythjmiimkplhffaa

/- Plain facts on the nodes of a digest, as DigestSmall asks for them; a slice of acts out of an own row. -/
set_option linter.unusedVariables false
set_option linter.unusedSimpArgs false
namespace Go.Proofs.Ythjmiimkplhffaa
open Go.RowKit Go.Maps

theorem al_of_row {w : World} {base : Nat} {v : Value} {n : Nat} {xs : List (Int × Int)} (h : w.ownsRow base 43 2 v n (ncells xs)) : ∃ ao cap, v = .slice ao n cap ∧ cap ≤ maxLen ∧ Al w ao n xs := by
  have hl : xs.length = n := by have := h.1; rw [ncells_len] at this; omega
  rcases h.2 with ⟨rfl, rfl⟩ | ⟨g, cap, cur, rfl, _, hg, h1, h2, h3, h4⟩
  · obtain rfl := List.eq_nil_of_length_eq_zero hl
    exact ⟨none, 0, rfl, Nat.zero_le _, rfl, 0, 0, fun h => by omega, fun i hi => by omega⟩
  · refine ⟨_, cap, rfl, h2, hl, g, 0, fun _ => rfl, fun i hi => ?_⟩
    have hc := h.cells (g := g) rfl
    have hx := ncells_get xs i (by omega)
    have c0 := hc _ _ hx.1
    have c1 := hc _ _ hx.2
    have a0 : ((⟨g, 0, none⟩ : Addr).add (i * 2)) = ⟨g, 0 + i * 2, none⟩ := by unfold Addr.add; split <;> simp_all
    have a1 : ((⟨g, 0, none⟩ : Addr).add (i * 2 + 1)) = ⟨g, 0 + (i * 2 + 1), none⟩ := by unfold Addr.add; split <;> simp_all
    rw [a0] at c0
    rw [a1] at c1
    exact ⟨c0, c1⟩

/-- the sum of the counts of the first k nodes; the number of the k-th one -/
def sumN (zs : List (Int × Int)) (k : Nat) : Int := ((zs.take k).map (·.2)).sum
def lastN (zs : List (Int × Int)) (k : Nat) : Int := match k with | 0 => 0 | j + 1 => (zs[j]?.getD (0, 0)).1

/-- what DigestSmall asks of the nodes -/
structure NodesOk (L : Nat) (F tt : Int) (zs : List (Int × Int)) : Prop where
  few : (zs.length : Int) ≤ 4 * F
  node : ∀ k, k < zs.length → 0 ≤ lastN zs k ∧ lastN zs k < (zs[k]?.getD (0, 0)).1 ∧ (zs[k]?.getD (0, 0)).1 < 2 * 2 ^ L ∧ 1 ≤ (zs[k]?.getD (0, 0)).2 ∧ ((zs[k]?.getD (0, 0)).1 < 2 ^ L → (zs[k]?.getD (0, 0)).2 ≤ tt / F)
  part : ∀ k, 0 ≤ sumN zs k ∧ sumN zs k ≤ tt
  all : sumN zs zs.length = tt
  next : ∀ k, k < zs.length → sumN zs (k + 1) = sumN zs k + (zs[k]?.getD (0, 0)).2

theorem sum_nodes (L : Nat) (c : Int → Int) : ((nodesL L c).map (·.2)).sum = tot L c := by
  unfold nodesL idsL tot
  generalize SZ L = n
  induction n with
  | zero => rfl
  | succ n ih =>
    unfold S
    rw [← ih, List.range_succ, List.map_append, List.filter_append, List.map_append, List.map_append, List.sum_append]
    by_cases h : c n = 0 <;> simp [h]
theorem sum_take_le (zs : List (Int × Int)) (h : ∀ z ∈ zs, 0 ≤ z.2) (k : Nat) : 0 ≤ sumN zs k ∧ sumN zs k ≤ (zs.map (·.2)).sum := by
  have pos : ∀ l : List (Int × Int), (∀ z ∈ l, 0 ≤ z.2) → 0 ≤ (l.map (·.2)).sum := fun l => by
    induction l with
    | nil => intro _; simp
    | cons a l ih => intro hl; have h1 := ih (fun z hz => hl z (List.mem_cons_of_mem _ hz)); have h2 := hl a List.mem_cons_self; simp only [List.map_cons, List.sum_cons]; omega
  have e : (zs.map (·.2)).sum = sumN zs k + ((zs.drop k).map (·.2)).sum := by
    conv => lhs; rw [← List.take_append_drop k zs]
    rw [List.map_append, List.sum_append]; rfl
  have h1 := pos (zs.take k) (fun z hz => h z (List.mem_of_mem_take hz))
  have h2 := pos (zs.drop k) (fun z hz => h z (List.mem_of_mem_drop hz))
  unfold sumN at *
  omega

theorem nodes_ok {L : Nat} {F : Int} {c : Int → Int} (hF : 1 ≤ F) (hg : Good L c) (hs : Still (tot L c / F) L c) (hc : Cap (tot L c / F) L c) : NodesOk L F (tot L c) (nodesL L c) := by
  have hlen : (nodesL L c).length = (idsL L c).length := by unfold nodesL; simp
  have hpos : ∀ z ∈ nodesL L c, 0 ≤ z.2 := fun z hz => by
    unfold nodesL at hz
    obtain ⟨q, _, rfl⟩ := List.mem_map.1 hz
    exact hg.1 q
  have hget : ∀ k, k < (idsL L c).length → (nodesL L c)[k]?.getD (0, 0) = ((idsL L c)[k]?.getD 0, c ((idsL L c)[k]?.getD 0)) := fun k hk => by
    unfold nodesL
    simp [hk]
  have hmem : ∀ k, k < (idsL L c).length → (idsL L c)[k]?.getD 0 ∈ idsL L c := fun k hk => by simp [hk]
  have hrise := ids_rise L c
  refine ⟨by rw [hlen]; exact few hF hg hs, fun k hk => ?_, fun k => ?_, ?_, fun k hk => ?_⟩
  · rw [hlen] at hk
    rw [hget k hk]
    have hm := (mem_ids hg _).1 (hmem k hk)
    have h1 := hg.2 _ hm
    have h2 := hg.1 ((idsL L c)[k]?.getD 0)
    have h3 := hc ((idsL L c)[k]?.getD 0)
    have e2 : (2 : Int) ^ (L + 1) = 2 * 2 ^ L := by rw [Int.pow_succ]; omega
    have hlast : 0 ≤ lastN (nodesL L c) k ∧ lastN (nodesL L c) k < (idsL L c)[k]?.getD 0 := by
      cases k with
      | zero => exact ⟨Int.le_refl _, by show (0 : Int) < _; omega⟩
      | succ j =>
        unfold lastN
        simp only
        rw [hget j (by omega)]
        have h4 := hg.2 _ ((mem_ids hg _).1 (hmem j (by omega)))
        refine ⟨by simp only; omega, ?_⟩
        have h5 := List.pairwise_iff_getElem.1 hrise j (j + 1) (by omega) hk (by omega)
        simpa [hk, show j < (idsL L c).length by omega] using h5
    exact ⟨hlast.1, hlast.2, by simp only; omega, by simp only; omega, h3⟩
  · have h := sum_take_le _ hpos k
    rw [sum_nodes] at h
    exact h
  · unfold sumN
    rw [List.take_of_length_le (Nat.le_refl _), sum_nodes]
  · unfold sumN
    rw [List.take_succ_eq_append_getElem hk, List.map_append, List.sum_append]
    simp [hk]

theorem less_made {L : Nat} {F : Int} {l done : List (Int × Int)} {c : Int → Int} (hL : L ≤ 20) (h : Made L F l c done) : lessL 1048576 done = tot L c := by
  rw [← h.times]
  refine lessL_all _ _ (fun x hx => ?_)
  have h1 := (h.vals x hx).2.1
  have h2 : (2 : Int) ^ L ≤ 2 ^ 20 := by
    have : (2 : Nat) ^ L ≤ 2 ^ 20 := Nat.pow_le_pow_right (by omega) hL
    exact_mod_cast this
  omega
end Go.Proofs.Ythjmiimkplhffaa

/- Plain mathematics for the document's digest: a list of nodes with one more count, the parents at a depth, one step up. -/
set_option linter.unusedVariables false
set_option linter.unusedSimpArgs false
namespace Go.Proofs.Ythjmiimkplhffaa

/-- the count of one node laid anew -/
def updI (c : Int → Int) (k v : Int) : Int → Int := fun q => if q = k then v else c q
theorem good_updI {L : Nat} {c : Int → Int} {k v : Int} (h : Good L c) (h1 : 1 ≤ k) (h2 : k < 2 ^ (L + 1)) (h3 : 0 ≤ v) : Good L (updI c k v) := by
  refine ⟨fun q => ?_, fun q hq => ?_⟩
  · unfold updI; split
    · exact h3
    · exact h.1 q
  · unfold updI at hq
    split at hq
    · subst_vars; exact ⟨h1, h2⟩
    · exact h.2 q hq
theorem updI_climb {c : Int → Int} {p : Int} (hp : 1 ≤ p) : updI (updI (updI c (2 * p) 0) (2 * p + 1) 0) p (c p + c (2 * p) + c (2 * p + 1)) = climbF c p := by
  funext q
  unfold updI climbF
  by_cases h1 : q = p
  · rw [if_pos h1, if_pos h1]
  · rw [if_neg h1, if_neg h1]
    by_cases h2 : q = 2 * p + 1
    · rw [if_pos h2, if_pos (.inr h2)]
    · rw [if_neg h2]
      by_cases h3 : q = 2 * p
      · rw [if_pos h3, if_pos (.inl h3)]
      · rw [if_neg h3, if_neg (by omega)]
theorem updI_leaf (c : Int → Int) (k m : Int) : updI c k (c k + m) = fun q => c q + if q = k then m else 0 := by
  funext q
  unfold updI
  split
  · subst_vars; rfl
  · omega

/-- has a node with at least that number been met? -/
def putW (id : Int) (zs : List (Int × Int)) : Bool := zs.any (fun z => decide (id ≤ z.1))
def outW (id cnt : Int) (zs : List (Int × Int)) : List (Int × Int) := zs.filter (fun z => decide (z.1 < id)) ++ (if putW id zs = true ∧ 0 < cnt then [(id, cnt)] else []) ++ zs.filter (fun z => decide (id < z.1))
def withL (id cnt : Int) (zs : List (Int × Int)) : List (Int × Int) := zs.filter (fun z => decide (z.1 < id)) ++ (if 0 < cnt then [(id, cnt)] else []) ++ zs.filter (fun z => decide (id < z.1))

theorem putW_nil (id : Int) : putW id [] = false := rfl
theorem outW_nil (id cnt : Int) : outW id cnt [] = [] := by unfold outW; simp [putW_nil]
theorem putW_snoc (id : Int) (zs : List (Int × Int)) (x : Int × Int) : putW id (zs ++ [x]) = (putW id zs || decide (id ≤ x.1)) := by unfold putW; simp
theorem none_up {id : Int} {zs : List (Int × Int)} (h : putW id zs = false) : zs.filter (fun z => decide (id < z.1)) = [] := by
  rw [List.filter_eq_nil_iff]
  intro z hz
  unfold putW at h
  rw [List.any_eq_false] at h
  have := h z hz
  simp at this ⊢
  omega
theorem some_up {id : Int} {zs : List (Int × Int)} {x : Int × Int} (h : putW id zs = true) (hs : ∀ z ∈ zs, z.1 < x.1) : id < x.1 := by
  unfold putW at h
  rw [List.any_eq_true] at h
  obtain ⟨z, hz, h1⟩ := h
  have := hs z hz
  simp at h1
  omega
theorem out_put {id cnt : Int} {zs : List (Int × Int)} {x : Int × Int} (h : putW id zs = true) (hs : ∀ z ∈ zs, z.1 < x.1) : outW id cnt (zs ++ [x]) = outW id cnt zs ++ [x] := by
  have h1 := some_up h hs
  unfold outW
  rw [putW_snoc, h, List.filter_append, List.filter_append]
  simp [show ¬ x.1 < id by omega, h1]
theorem out_less {id cnt : Int} {zs : List (Int × Int)} {x : Int × Int} (h : putW id zs = false) (hx : x.1 < id) : outW id cnt (zs ++ [x]) = outW id cnt zs ++ [x] := by
  have h1 := none_up h
  unfold outW
  rw [putW_snoc, h, List.filter_append, List.filter_append, h1]
  simp [hx, show ¬ id ≤ x.1 by omega, show ¬ id < x.1 by omega]
theorem out_first {id cnt : Int} {zs : List (Int × Int)} {x : Int × Int} (h : putW id zs = false) (hx : id ≤ x.1) : outW id cnt (zs ++ [x]) = (outW id cnt zs ++ if 0 < cnt then [(id, cnt)] else []) ++ (if x.1 = id then [] else [x]) := by
  have h1 := none_up h
  unfold outW
  rw [putW_snoc, h, List.filter_append, List.filter_append, h1]
  by_cases g : x.1 = id
  · simp [show ¬ x.1 < id by omega, show ¬ id < x.1 by omega, hx, g]
  · simp [show ¬ x.1 < id by omega, show id < x.1 by omega, hx, g]
theorem out_end_put {id cnt : Int} {zs : List (Int × Int)} (h : putW id zs = true) : outW id cnt zs = withL id cnt zs := by
  unfold outW withL
  simp [h]
theorem out_end {id cnt : Int} {zs : List (Int × Int)} (h : putW id zs = false) : (outW id cnt zs ++ if 0 < cnt then [(id, cnt)] else []) = withL id cnt zs := by
  unfold outW withL
  rw [none_up h]
  simp [h]
theorem outW_len (id cnt : Int) (zs : List (Int × Int)) : (outW id cnt zs).length ≤ 2 * zs.length + 1 := by
  have h1 := List.length_filter_le (fun z : Int × Int => decide (z.1 < id)) zs
  have h2 := List.length_filter_le (fun z : Int × Int => decide (id < z.1)) zs
  unfold outW
  rw [List.length_append, List.length_append]
  split
  · simp only [List.length_cons, List.length_nil]; omega
  · simp only [List.length_nil]; omega

/-- two ascending lists of nodes with the same members are the same -/
theorem rise_pairs : ∀ {l m : List (Int × Int)}, l.Pairwise (fun a b => a.1 < b.1) → m.Pairwise (fun a b => a.1 < b.1) → (∀ x, x ∈ l ↔ x ∈ m) → l = m
  | [], [], _, _, _ => rfl
  | [], b :: m, _, _, h => absurd ((h b).2 List.mem_cons_self) (by simp)
  | a :: l, [], _, _, h => absurd ((h a).1 List.mem_cons_self) (by simp)
  | a :: l, b :: m, hl, hm, h => by
    have h1 := List.pairwise_cons.1 hl
    have h2 := List.pairwise_cons.1 hm
    have e : a = b := by
      rcases List.mem_cons.1 ((h a).1 List.mem_cons_self) with e | e
      · exact e
      · rcases List.mem_cons.1 ((h b).2 List.mem_cons_self) with g | g
        · exact g.symm
        · have := h1.1 b g; have := h2.1 a e; omega
    subst e
    congr 1
    refine rise_pairs h1.2 h2.2 (fun x => ⟨fun hx => ?_, fun hx => ?_⟩)
    · rcases List.mem_cons.1 ((h x).1 (List.mem_cons_of_mem _ hx)) with e | e
      · subst e; have := h1.1 x hx; omega
      · exact e
    · rcases List.mem_cons.1 ((h x).2 (List.mem_cons_of_mem _ hx)) with e | e
      · subst e; have := h2.1 x hx; omega
      · exact e

theorem mem_nodes {L : Nat} {c : Int → Int} (hg : Good L c) (z : Int × Int) : z ∈ nodesL L c ↔ c z.1 ≠ 0 ∧ z.2 = c z.1 := by
  unfold nodesL
  rw [List.mem_map]
  constructor
  · rintro ⟨q, hq, rfl⟩; exact ⟨(mem_ids hg q).1 hq, rfl⟩
  · rintro ⟨h1, h2⟩; exact ⟨z.1, (mem_ids hg _).2 h1, by rw [← h2]⟩
theorem nodes_rise (L : Nat) (c : Int → Int) : (nodesL L c).Pairwise (fun a b => a.1 < b.1) := by
  unfold nodesL
  rw [List.pairwise_map]
  exact ids_rise L c
theorem with_nodes {L : Nat} {c : Int → Int} {k v : Int} (hg : Good L c) (h1 : 1 ≤ k) (h2 : k < 2 ^ (L + 1)) (h3 : 0 ≤ v) : withL k v (nodesL L c) = nodesL L (updI c k v) := by
  have hr := nodes_rise L c
  refine rise_pairs ?_ (nodes_rise _ _) (fun x => ?_)
  · unfold withL
    rw [List.append_assoc, List.pairwise_append]
    refine ⟨hr.filter _, ?_, fun a ha b hb => ?_⟩
    · rw [List.pairwise_append]
      refine ⟨by split <;> simp, hr.filter _, fun a ha b hb => ?_⟩
      split at ha
      · obtain rfl := List.mem_singleton.1 ha
        have := (List.mem_filter.1 hb).2
        simpa using this
      · simp at ha
    · have h4 := (List.mem_filter.1 ha).2
      have h4 : a.1 < k := by simpa using h4
      rcases List.mem_append.1 hb with g | g
      · split at g
        · obtain rfl := List.mem_singleton.1 g; exact h4
        · simp at g
      · have h5 := (List.mem_filter.1 g).2
        have h5 : k < b.1 := by simpa using h5
        omega
  · rw [mem_nodes (good_updI hg h1 h2 h3)]
    unfold withL updI
    rw [List.mem_append, List.mem_append, List.mem_filter, List.mem_filter, mem_nodes hg]
    by_cases e : x.1 = k
    · rw [if_pos e]
      have e1 : ¬ x.1 < k := by omega
      have e2 : ¬ k < x.1 := by omega
      simp only [e1, e2, decide_false, and_false, false_or, or_false, Bool.false_eq_true]
      split
      · rw [List.mem_singleton]
        constructor
        · rintro rfl; exact ⟨by omega, rfl⟩
        · rintro ⟨_, h⟩; rw [← e, ← h]
      · constructor
        · intro h; simp at h
        · rintro ⟨h, _⟩; omega
    · rw [if_neg e]
      have e3 : x ∉ (if 0 < v then [(k, v)] else ([] : List (Int × Int))) := by
        split
        · rw [List.mem_singleton]; rintro rfl; exact e rfl
        · simp
      constructor
      · rintro ((⟨h, _⟩ | h) | ⟨h, _⟩)
        · exact h
        · exact absurd h e3
        · exact h
      · intro h
        by_cases g : x.1 < k
        · exact .inl (.inl ⟨h, by simpa using g⟩)
        · exact .inr ⟨h, by simp; omega⟩

theorem snocRec {α : Type} {motive : List α → Prop} (nil : motive []) (snoc : ∀ (l : List α) (x : α), motive l → motive (l ++ [x])) (l : List α) : motive l := by
  rw [← List.reverse_reverse l]
  generalize l.reverse = r
  induction r with
  | nil => exact nil
  | cons a r ih => rw [List.reverse_cons]; exact snoc _ _ ih

/-- the parents of the nodes at one depth -/
def stepP (lo hi : Int) (ps : List Int) (q : Int) : List Int := if lo ≤ q ∧ q < hi ∧ (ps = [] ∨ ps.getLast?.getD 0 ≠ q / 2) then ps ++ [q / 2] else ps
def parL (lo hi : Int) (qs : List Int) : List Int := qs.foldl (stepP lo hi) []
theorem parL_snoc (lo hi : Int) (qs : List Int) (q : Int) : parL lo hi (qs ++ [q]) = stepP lo hi (parL lo hi qs) q := by unfold parL; simp
theorem parL_len (lo hi : Int) (qs : List Int) : (parL lo hi qs).length ≤ qs.length := by
  induction qs using snocRec with
  | nil => exact Nat.le_refl _
  | snoc qs q ih =>
    rw [parL_snoc]
    unfold stepP
    split
    · simp; omega
    · simp; omega

structure ParOk (d : Nat) (qs ps : List Int) : Prop where
  at_ : ∀ p ∈ ps, At d p ∧ ∃ q ∈ qs, At (d + 1) q ∧ q / 2 = p
  all : ∀ q ∈ qs, At (d + 1) q → q / 2 ∈ ps
  rise : ps.Pairwise (· < ·)
  last : ∀ p, ps.getLast? = some p → ∀ x ∈ ps, x ≤ p
theorem par_ok (d : Nat) (qs : List Int) (h : qs.Pairwise (· < ·)) : ParOk d qs (parL (2 ^ (d + 1)) (2 ^ (d + 1 + 1)) qs) := by
  induction qs using snocRec with
  | nil => exact ⟨by simp [parL], by simp, by simp [parL], by simp [parL]⟩
  | snoc qs q ih =>
    rw [List.pairwise_append] at h
    have ih := ih h.1
    have hq : ∀ x ∈ qs, x < q := fun x hx => h.2.2 x hx q List.mem_cons_self
    rw [parL_snoc]
    generalize parL (2 ^ (d + 1)) (2 ^ (d + 1 + 1)) qs = ps at ih ⊢
    unfold stepP
    have hle : ∀ p ∈ ps, p ≤ q / 2 := fun p hp => by
      obtain ⟨_, x, hx, _, h3⟩ := ih.at_ p hp
      have := hq x hx
      omega
    split
    · rename_i g
      have hAt : At (d + 1) q := ⟨g.1, g.2.1⟩
      have hlt : ∀ p ∈ ps, p < q / 2 := fun p hp => by
        rcases g.2.2 with e | e
        · rw [e] at hp; simp at hp
        · obtain ⟨y, hy⟩ : ∃ y, ps.getLast? = some y := by
            cases hh : ps.getLast? with
            | none => rw [List.getLast?_eq_none_iff] at hh; rw [hh] at hp; simp at hp
            | some y => exact ⟨y, rfl⟩
          rw [hy] at e
          simp only [Option.getD_some] at e
          have h1 := ih.last y hy p hp
          have h2 := hle y (List.mem_of_getLast? hy)
          omega
      refine ⟨fun p hp => ?_, fun x hx hA => ?_, ?_, fun p hp x hx => ?_⟩
      · rcases List.mem_append.1 hp with k | k
        · obtain ⟨h1, x, hx, h2⟩ := ih.at_ p k
          exact ⟨h1, x, List.mem_append_left _ hx, h2⟩
        · obtain rfl := List.mem_singleton.1 k
          exact ⟨hAt.parent, q, List.mem_append_right _ List.mem_cons_self, hAt, rfl⟩
      · rcases List.mem_append.1 hx with k | k
        · exact List.mem_append_left _ (ih.all x k hA)
        · obtain rfl := List.mem_singleton.1 k
          exact List.mem_append_right _ List.mem_cons_self
      · rw [List.pairwise_append]
        refine ⟨ih.rise, by simp, fun a ha b hb => ?_⟩
        obtain rfl := List.mem_singleton.1 hb
        exact hlt a ha
      · rw [List.getLast?_concat] at hp
        obtain rfl : q / 2 = p := by simpa using hp
        rcases List.mem_append.1 hx with k | k
        · exact hle x k
        · obtain rfl := List.mem_singleton.1 k; omega
    · rename_i g
      refine ⟨fun p hp => ?_, fun x hx hA => ?_, ih.rise, ih.last⟩
      · obtain ⟨h1, x, hx, h2⟩ := ih.at_ p hp
        exact ⟨h1, x, List.mem_append_left _ hx, h2⟩
      · rcases List.mem_append.1 hx with k | k
        · exact ih.all x k hA
        · obtain rfl := List.mem_singleton.1 k
          have h1 : ¬ (ps = [] ∨ ps.getLast?.getD 0 ≠ x / 2) := fun e => g ⟨hA.1, hA.2, e⟩
          have h2 : ps ≠ [] := fun e => h1 (.inl e)
          have h3 : ps.getLast?.getD 0 = x / 2 := Classical.byContradiction fun e => h1 (.inr e)
          cases hh : ps.getLast? with
          | none => rw [List.getLast?_eq_none_iff] at hh; exact absurd hh h2
          | some y => rw [hh] at h3; simp only [Option.getD_some] at h3; rw [← h3]; exact List.mem_of_getLast? hh

/-- between two parents of one depth -/
theorem fold_here {t : Int} {d : Nat} {ps : List Int} {p : Int} {c : Int → Int} (h : ∀ x ∈ ps, At d x) (hp : At d p) (hn : p ∉ ps) : foldF t c ps p = c p ∧ foldF t c ps (2 * p) = c (2 * p) ∧ foldF t c ps (2 * p + 1) = c (2 * p + 1) := by
  rw [fold_lvl t d ps c h]
  have e1 : 2 * p / 2 = p := by omega
  have e2 : (2 * p + 1) / 2 = p := by omega
  have c1 := hp.child
  have n1 : ∀ x ∈ ps, x ≠ 2 * p := fun x hx e => (h x hx).ne2 hp |>.1 e
  have n2 : ∀ x ∈ ps, x ≠ 2 * p + 1 := fun x hx e => (h x hx).ne2 hp |>.2 e
  unfold lvlS
  refine ⟨?_, ?_, ?_⟩
  · rw [if_neg (fun k => hn k.1), if_neg (fun k => (hp.ne3) (h _ k.1))]
  · rw [if_neg (fun k => n1 _ k.1 rfl), if_neg (fun k => hn (by rw [e1] at k; exact k.1))]
  · rw [if_neg (fun k => n2 _ k.1 rfl), if_neg (fun k => hn (by rw [e2] at k; exact k.1))]
theorem fold_snoc (t : Int) (c : Int → Int) (ps : List Int) (p : Int) : foldF t c (ps ++ [p]) = stepF t (foldF t c ps) p := by unfold foldF; simp
end Go.Proofs.Ythjmiimkplhffaa

/- The document's power, Size, Count, Unit and At. -/
set_option linter.unusedVariables false
set_option linter.unusedSimpArgs false
namespace Go.Proofs.Ythjmiimkplhffaa
open Go.RowKit Go.Maps

theorem pow_bd (n : Nat) (h : n ≤ 30) : ∀ i, i ≤ n → (1 : Int) ≤ 2 ^ i ∧ (2 : Int) ^ i ≤ 1073741824 := fun i hi => by
  have h1 : (2 : Nat) ^ i ≤ 1073741824 := Nat.le_trans (Nat.pow_le_pow_right (by omega) (by omega : i ≤ 30)) (by decide)
  have h2 : (0 : Nat) < 2 ^ i := Nat.pow_pos (by omega)
  rw [show (2 : Int) ^ i = (((2 : Nat) ^ i : Nat) : Int) from by rw [Int.natCast_pow]; rfl]
  omega
theorem power_any (n : Nat) (W : World) (h : n ≤ 30) : Calls Try.prog 58 #[.int .i64 (n : Int)] W (fun e w' => e = .returned (.int .i64 (2 ^ n)) ∧ W = w') := by
  have HB := Lib.hid (pow_bd n h)
  go_enter Try.func58, Try.ntmps58
  go_wp2
  go_loop [3, 4] (fun x i => ∃ k : Nat, k ≤ n ∧ x = .int .i64 (2 ^ k) ∧ i = .int .i64 (k : Int)) (fun _ i => n - (intOf i).toNat)
  case atStart => exact ⟨0, by omega, by rw [Int.pow_zero], rfl⟩
  case round =>
    obtain ⟨k, hk, rfl, rfl⟩ := hrel
    by_cases hlt : k < n
    · have h1 := HB.out k hk
      have HX : Hid ((2 : Int) ^ (k + 1) = 2 * 2 ^ k) := Lib.hid (by rw [Int.pow_succ]; omega)
      generalize (2 : Int) ^ k = x at h1 HX ⊢
      go_wp2
      go_round
      case rel => exact ⟨k + 1, by omega, by rw [HX.out], by go_num⟩
      case measure => simp [intOf]; omega
    · obtain rfl : k = n := by omega
      go_wp2
      go_ret
      exact ⟨rfl, rfl⟩

theorem size_any (L : Nat) (F v : Value) (W : World) (h : L ≤ 20) : Calls Try.prog 42 #[.agg #[.int .i64 (L : Int), F, v]] W (fun e w' => e = .returned (.int .i64 (2 ^ L)) ∧ Below W.heap.size W w') := by
  have HB := Lib.hid (box_below W (.cells #[.int .i64 (L : Int), F, v] 34))
  go_enter Try.func42, Try.ntmps42
  go_wp2_with (go_at_call 58; refine (power_any L _ (by omega)).mono ?_; rintro e w1 ⟨rfl, rfl⟩)
  go_ret
  exact ⟨rfl, HB.out⟩

theorem sumN_next {zs : List (Int × Int)} {k : Nat} (hk : k < zs.length) : sumN zs (k + 1) = sumN zs k + (zs[k]?.getD (0, 0)).2 := by
  unfold sumN
  rw [List.take_succ_eq_append_getElem hk, List.map_append, List.sum_append]
  simp [hk]

set_option maxHeartbeats 1000000 in
theorem refCount_any (a F : Value) (ao : Option Addr) (cap : Nat) (zs : List (Int × Int)) (W : World) (hn : Nl W ao zs.length zs) (hz : ∀ z ∈ zs, 0 ≤ z.2) (ht : (zs.map (·.2)).sum ≤ 1099511627776) (hl : zs.length ≤ 4194304) :
    Calls Try.prog 33 #[.agg #[a, F, .slice ao zs.length cap]] W (fun e w' => e = .returned (.int .i64 (zs.map (·.2)).sum) ∧ Below W.heap.size W w') := by
  have HP : Hid (∀ k, 0 ≤ sumN zs k ∧ sumN zs k ≤ 1099511627776) := Lib.hid (fun k => by have := sum_take_le zs hz k; omega)
  have HE : Hid ((zs.map (·.2)).sum = sumN zs zs.length) := Lib.hid (by unfold sumN; rw [List.take_of_length_le (Nat.le_refl _)])
  rw [HE.out]
  have HB := Lib.hid (box_below W (.cells #[a, F, .slice ao zs.length cap] 34))
  have HN := Lib.hid (hn.keep (box_below W (.cells #[a, F, .slice ao zs.length cap] 34)))
  clear hn hz ht HE
  go_enter Try.func33, Try.ntmps33
  go_upto_region 1 with fail
  have R := cells_new W #[a, F, .slice ao zs.length cap] 34
  generalize W.alloc (.cells #[a, F, .slice ao zs.length cap] 34) = V at HB HN R ⊢
  generalize W.heap.size = B at R ⊢
  have r2 := (three_cells R).2.2.1
  clear R
  go_wp2_with fail
  go_loop [3, 4] (fun n i => ∃ k : Nat, k ≤ zs.length ∧ n = .int .i64 (sumN zs k) ∧ i = .int .i64 (k : Int)) (fun _ i => zs.length - (intOf i).toNat)
  case atStart => exact ⟨0, by omega, rfl, rfl⟩
  case round =>
    obtain ⟨k, hk, rfl, rfl⟩ := hrel
    by_cases hlt : k < zs.length
    · obtain ⟨b, rfl, hn1⟩ := HN.out.at (by omega)
      have q1 := (hn1 k hlt).2
      have HX := Lib.hid (sumN_next hlt)
      have b1 := HP.out k
      have b2 := HP.out (k + 1)
      rw [HX.out] at b2
      generalize (zs[k]?.getD (0, 0)).2 = z at q1 HX b2
      generalize sumN zs k = s at b1 b2 HX ⊢
      clear hn1
      go_wp2
      go_round
      case rel => exact ⟨k + 1, by omega, by rw [HX.out], by go_num⟩
      case measure => simp [intOf]; omega
    · obtain rfl : k = zs.length := by omega
      go_wp2
      go_ret
      exact ⟨rfl, HB.out⟩

set_option maxHeartbeats 1000000 in
theorem refAt_any (a F : Value) (ao : Option Addr) (cap : Nat) (L : Nat) (c : Int → Int) (id : Int) (zs : List (Int × Int)) (W : World) (hz : zs = nodesL L c) (hg : Good L c) (hn : Nl W ao zs.length zs) (hl : zs.length ≤ 4194304) :
    Calls Try.prog 47 #[.agg #[a, F, .slice ao zs.length cap], .int .i64 id] W (fun e w' => e = .returned (.int .i64 (c id)) ∧ Below W.heap.size W w') := by
  have HNO : Hid ((∀ j, j < zs.length → (zs[j]?.getD (0, 0)).1 ≠ id) → c id = 0) := Lib.hid (fun h => Classical.byContradiction fun g => by
    have hm : (id, c id) ∈ zs := by rw [hz]; exact (mem_nodes hg _).2 ⟨g, rfl⟩
    obtain ⟨j, hj, he⟩ := List.mem_iff_getElem.1 hm
    refine h j hj ?_
    simp [hj, he])
  have HYES : Hid (∀ j, j < zs.length → (zs[j]?.getD (0, 0)).1 = id → (zs[j]?.getD (0, 0)).2 = c id) := Lib.hid (fun j hj he => by
    have hm : zs[j]?.getD (0, 0) ∈ zs := by simp [hj]
    rw [hz] at hm
    have := ((mem_nodes hg _).1 hm).2
    rw [← hz, he] at this
    exact this)
  obtain ⟨v, hv⟩ : ∃ v, v = c id := ⟨_, rfl⟩
  rw [← hv] at HNO HYES ⊢
  clear hv
  have HB := Lib.hid (box_below W (.cells #[a, F, .slice ao zs.length cap] 34))
  have HN := Lib.hid (hn.keep (box_below W (.cells #[a, F, .slice ao zs.length cap] 34)))
  clear hn hz hg
  go_enter Try.func47, Try.ntmps47
  go_upto_region 1 with fail
  have R := cells_new W #[a, F, .slice ao zs.length cap] 34
  generalize W.alloc (.cells #[a, F, .slice ao zs.length cap] 34) = V at HB HN R ⊢
  generalize W.heap.size = B at R ⊢
  have r2 := (three_cells R).2.2.1
  clear R
  go_wp2_with fail
  go_loop [5] (fun i => ∃ k : Nat, k ≤ zs.length ∧ i = .int .i64 (k : Int) ∧ Hid (∀ j, j < k → (zs[j]?.getD (0, 0)).1 ≠ id)) (fun i => zs.length - (intOf i).toNat)
  case atStart => exact ⟨0, by omega, rfl, Lib.hid (fun j hj => by omega)⟩
  case round =>
    obtain ⟨k, hk, rfl, HK⟩ := hrel
    by_cases hlt : k < zs.length
    · obtain ⟨b, rfl, hn1⟩ := HN.out.at (by omega)
      have q0 := (hn1 k hlt).1
      have q1 := (hn1 k hlt).2
      have HY := Lib.hid (HYES.out k hlt)
      have HK2 : Hid ((zs[k]?.getD (0, 0)).1 ≠ id → ∀ j, j < k + 1 → (zs[j]?.getD (0, 0)).1 ≠ id) := Lib.hid (fun g j hj => by
        by_cases e : j = k
        · subst e; exact g
        · exact HK.out j (by omega))
      generalize (zs[k]?.getD (0, 0)).1 = z1 at q0 HY HK2
      generalize (zs[k]?.getD (0, 0)).2 = z2 at q1 HY
      clear hn1
      by_cases he : z1 = id
      · obtain rfl := HY.out he
        subst he
        clear HY HK2
        go_wp2
        go_ret
        exact ⟨rfl, HB.out⟩
      · have he1 : ((z1 : Int) == id) = false := by simpa using he
        go_wp2
        go_round
        case rel => exact ⟨k + 1, by omega, by go_num, Lib.hid (HK2.out he)⟩
        case measure => simp [intOf]; omega
    · obtain rfl : k = zs.length := by omega
      obtain rfl := HNO.out HK.out
      go_wp2
      go_ret
      exact ⟨rfl, HB.out⟩
end Go.Proofs.Ythjmiimkplhffaa

/- The document's with: a digest in which a node has a count. -/
set_option linter.unusedVariables false
set_option linter.unusedSimpArgs false
namespace Go.Proofs.Ythjmiimkplhffaa
open Go.RowKit Go.Maps

/-- a digest of the document's is returned -/
def OutD (l f : Int) (W : World) (rs : List (Int × Int)) (e : Ending) (w' : World) : Prop := ∃ ao cap, e = .returned (.agg #[.int .i64 l, .int .i64 f, .slice ao rs.length cap]) ∧ Nl w' ao rs.length rs ∧ Below W.heap.size W w' ∧ ∀ b, ao = some ⟨b, 0, none⟩ → W.heap.size ≤ b ∧ b < w'.heap.size

theorem infoRN : (Try.prog.info? 70).map (fun i => (i.zero, i.size, i.bytes)) = some (some (.agg #[.int .i64 0, .int .i64 0]), 2, 16) := by kernel_rfl
theorem two_newRN (W : World) (x y : Int) : ∀ (j : Nat) (u : Value), ([.int .i64 x, .int .i64 y] : List Value)[j]? = some u → (W.alloc (.cells #[.int .i64 x, .int .i64 y] 70)).cell? ((⟨W.heap.size, 0, none⟩ : Addr).add j) = some u := by
  intro j u hj
  match j, hj with
  | 0, hj => simp at hj; subst hj; simp [Addr.add]
  | 1, hj => simp at hj; subst hj; simp [Addr.add]
/-- one node appended to an own list of nodes -/
theorem wpList_appN {w1 : World} {ops : Array Oper} {rest : List Oper} {o : Oper} {a : Act} {Q : Exit → Act → World → Prop} (hg : o.guard = none) (s x : Operand)
    (hop : o.op = Op.call { callee := Callee.builtin Builtin.append, args := #[s, x], argTypes := #[32, 32] }) (w : World) (base : Nat) (v : Value) (zs : List (Int × Int)) (z1 z2 : Int) (hw : w1 = w.alloc (.cells #[.int .i64 z1, .int .i64 z2] 70)) (hs : a.eval s = v) (hown : w.ownsRow base 70 2 v zs.length (ncells zs))
    (hx : a.eval x = .slice (some ⟨w.heap.size, 0, none⟩) 1 1) (hl : zs.length ≤ 9000000) (hb : base ≤ w.heap.size)
    (hK : ∀ g cap w', w'.ownsRow base 70 2 (.slice (some ⟨g, 0, none⟩) (zs.length + 1) cap) (zs ++ [(z1, z2)]).length (ncells (zs ++ [(z1, z2)])) → Below base w w' → wpList Try.prog ops Q rest (a.put o.dst (.slice (some ⟨g, 0, none⟩) (zs.length + 1) cap)) w') :
    wpList Try.prog ops Q (o :: rest) a w1 := by
  subst hw
  obtain ⟨i0, hi0, hz0, hz1, hz2⟩ := info_parts infoRN
  refine wpList_appL hg s x 32 hop base 70 i0 (.agg #[.int .i64 0, .int .i64 0]) 2 16 Try.underlying32 hi0 hz0 hz1 hz2 rfl (by decide) v zs.length (ncells zs) hs (hown.alloc _) ⟨w.heap.size, 0, none⟩ 1 1 [.int .i64 z1, .int .i64 z2] hx rfl (two_newRN w z1 z2) (by simp [Value.oneCell']) (by omega) (by unfold maxLen; omega) (by omega) (by simp; omega) ?_
  intro g cap w' hrow hgrow hat
  refine hK g cap w' (by rw [ncells_snoc, List.length_append]; exact hrow) ?_
  exact ((Below.refl base w).alloc hb _).grown hgrow (by simp; omega) (fun j hj => (own_cells hown hj).1)

theorem nl_of_rowE {e : TypeId} {w : World} {base : Nat} {v : Value} {n : Nat} {xs : List (Int × Int)} (h : w.ownsRow base e 2 v n (ncells xs)) : ∃ ao cap, v = .slice ao n cap ∧ cap ≤ maxLen ∧ Nl w ao n xs := by
  have hl : xs.length = n := by have := h.1; rw [ncells_len] at this; omega
  rcases h.2 with ⟨rfl, rfl⟩ | ⟨g, cap, cur, rfl, _, hg, h1, h2, h3, h4⟩
  · obtain rfl := List.eq_nil_of_length_eq_zero hl
    exact ⟨none, 0, rfl, Nat.zero_le _, Nl.nil _ _⟩
  · refine ⟨_, cap, rfl, h2, hl, g, fun _ => rfl, fun i hi => ?_⟩
    have hc := h.cells (g := g) rfl
    have hx := ncells_get xs i (by omega)
    have c0 := hc _ _ hx.1
    have c1 := hc _ _ hx.2
    have a0 : ((⟨g, 0, none⟩ : Addr).add (i * 2)) = ⟨g, i * 2, none⟩ := by unfold Addr.add; split <;> simp_all
    have a1 : ((⟨g, 0, none⟩ : Addr).add (i * 2 + 1)) = ⟨g, i * 2 + 1, none⟩ := by unfold Addr.add; split <;> simp_all
    rw [a0] at c0
    rw [a1] at c1
    exact ⟨c0, c1⟩
theorem row_block {w w' : World} {base e sz n : Nat} {v : Value} {xs : List Value} (h : w.ownsRow base e sz v n xs) (hk : ∀ g, v.ownBlock = some g → w'.heap[g]? = w.heap[g]?) : w'.ownsRow base e sz v n xs := by
  refine ⟨h.1, ?_⟩
  rcases h.2 with h2 | ⟨g, cap, cur, rfl, h4, h5, h6⟩
  · exact .inl h2
  · exact .inr ⟨g, cap, cur, rfl, h4, (hk g rfl).trans h5, h6⟩
/-- the last stores of with -/
theorem with_done {W V w2 : World} {B n cap : Nat} {ao : Option Addr} {a F : Value} {rs : List (Int × Int)} {o : Value × Value × Value} (hB : W.heap.size = B) (h0 : Below W.heap.size W V) (hz : V.heap.size = B + 2)
    (hRZ : V.heap[B + 1]? = some (.cells #[o.1, o.2.1, o.2.2] 34 (0, 0))) (hb : Below V.heap.size V w2) (hn : rs.length = n) (hrow : w2.ownsRow V.heap.size 70 2 (.slice ao n cap) rs.length (ncells rs)) :
    (((((w2.setCell ⟨B, 2, none⟩ (.slice ao n cap)).setCell ⟨B + 1, 0, none⟩ a).setCell ⟨B + 1, 1, none⟩ F).setCell ⟨B + 1, 2, none⟩ (.slice ao n cap)).heap[B + 1]? = some (.cells #[a, F, .slice ao n cap] 34 (0, 0))) ∧
    Nl ((((w2.setCell ⟨B, 2, none⟩ (.slice ao n cap)).setCell ⟨B + 1, 0, none⟩ a).setCell ⟨B + 1, 1, none⟩ F).setCell ⟨B + 1, 2, none⟩ (.slice ao n cap)) ao rs.length rs ∧
    Below W.heap.size W ((((w2.setCell ⟨B, 2, none⟩ (.slice ao n cap)).setCell ⟨B + 1, 0, none⟩ a).setCell ⟨B + 1, 1, none⟩ F).setCell ⟨B + 1, 2, none⟩ (.slice ao n cap)) ∧ (∀ b, ao = some ⟨b, 0, none⟩ → W.heap.size ≤ b ∧ b < ((((w2.setCell ⟨B, 2, none⟩ (.slice ao n cap)).setCell ⟨B + 1, 0, none⟩ a).setCell ⟨B + 1, 1, none⟩ F).setCell ⟨B + 1, 2, none⟩ (.slice ao n cap)).heap.size) := by
  have ho : Only (fun i => i = B ∨ i = B + 1) w2 ((((w2.setCell ⟨B, 2, none⟩ (.slice ao n cap)).setCell ⟨B + 1, 0, none⟩ a).setCell ⟨B + 1, 1, none⟩ F).setCell ⟨B + 1, 2, none⟩ (.slice ao n cap)) :=
    (((Only.setCell w2 ⟨B, 2, none⟩ _).mono (fun i hi => Or.inl hi)).trans ((Only.setCell _ ⟨B + 1, 0, none⟩ _).mono (fun i hi => Or.inr hi))).trans (((Only.setCell _ ⟨B + 1, 1, none⟩ _).mono (fun i hi => Or.inr hi)).trans ((Only.setCell _ ⟨B + 1, 2, none⟩ _).mono (fun i hi => Or.inr hi)))
  refine ⟨set_three (a := o.1) (b := o.2.1) (d := o.2.2) ?_, ?_, ?_, fun b hb2 => by subst hb2; have h9 : V.heap.size ≤ b := (own_cells hrow rfl).1; have h8 := (World.ownsRow.lt hrow b rfl).2; have h7 := ho.size; exact ⟨by omega, by omega⟩⟩
  · have e1 := (Only.setCell w2 ⟨B, 2, none⟩ (.slice ao n cap)).block (B + 1) (by have := hb.size; omega) (by show ¬ (B + 1 = B); omega)
    have e2 := hb.block (B + 1) (by omega)
    rw [e1, e2]
    exact hRZ
  · have h1 := row_block hrow (fun g hg => ho.block g (World.ownsRow.lt hrow g hg).2 (fun e => by have := (own_cells hrow hg).1; omega))
    obtain ⟨ao2, cap2, he, _, hN⟩ := nl_of_rowE h1
    injection he with e1 e2 e3
    subst e1
    exact hN
  · have e1 : Below W.heap.size W w2 := h0.trans (hb.mono (by omega))
    have e2 : Only (fun i => W.heap.size ≤ i) W w2 := ⟨e1.os, e1.tape, e1.output, e1.size, fun i hi _ => e1.block i hi⟩
    have e3 := e2.trans (ho.mono (R := fun i => W.heap.size ≤ i) (fun i hi => by show W.heap.size ≤ i; omega))
    exact e3.below (fun i hi => hi)

theorem rise_take {zs : List (Int × Int)} (h : zs.Pairwise (fun a b => a.1 < b.1)) {k : Nat} (hk : k < zs.length) : ∀ z ∈ zs.take k, z.1 < (zs[k]?.getD (0, 0)).1 := by
  intro z hz
  obtain ⟨j, hj, rfl⟩ := List.mem_iff_getElem.1 hz
  rw [List.length_take] at hj
  rw [List.getElem_take]
  have := List.pairwise_iff_getElem.1 h j k (by omega) hk (by omega)
  simpa [hk] using this
theorem two_blocks (W : World) (a b : Obj) : Below W.heap.size W ((W.alloc a).alloc b) ∧ ((W.alloc a).alloc b).heap[W.heap.size]? = some a ∧ ((W.alloc a).alloc b).heap[W.heap.size + 1]? = some b ∧ ((W.alloc a).alloc b).heap.size = W.heap.size + 2 := by
  refine ⟨((Below.refl _ _).alloc (Nat.le_refl _) _).alloc (by simp) _, ?_, ?_, by simp⟩
  · rw [Below.heap_alloc _ _ _ (by simp)]; exact heap_alloc_new _ _
  · have := heap_alloc_new (W.alloc a) b
    simpa using this

set_option maxRecDepth 100000 in
set_option maxHeartbeats 8000000 in
theorem with_any (l f : Int) (ao : Option Addr) (cap : Nat) (zs : List (Int × Int)) (id cnt : Int) (W : World) (hr : zs.Pairwise (fun a b => a.1 < b.1)) (hn : Nl W ao zs.length zs) (hl : zs.length ≤ 4194304) :
    Calls Try.prog 46 #[.agg #[.int .i64 l, .int .i64 f, .slice ao zs.length cap], .int .i64 id, .int .i64 cnt] W (OutD l f W (withL id cnt zs)) := by
  have HR := Lib.hid hr
  obtain ⟨t1, t2, t3, t4⟩ := two_blocks W (.cells #[.int .i64 l, .int .i64 f, .slice ao zs.length cap] 34) (.cells #[.int .i64 0, .int .i64 0, .slice none 0 0] 34)
  have HB0 := Lib.hid t1
  have RB := Lib.hid t2
  have RZ := Lib.hid t3
  have HZ := Lib.hid t4
  have HN := Lib.hid (hn.keep t1)
  clear hr hn t1 t2 t3 t4
  go_enter Try.func46, Try.ntmps46
  go_upto_region 1 with fail
  generalize (W.alloc (.cells #[.int .i64 l, .int .i64 f, .slice ao zs.length cap] 34)).alloc (.cells #[.int .i64 0, .int .i64 0, .slice none 0 0] 34) = V at HB0 HN RB RZ HZ ⊢
  generalize hBW : W.heap.size = B at RB RZ HZ ⊢
  have HBW := Lib.hid hBW
  clear hBW
  go_wp2_with fail
  go_loopg [7, 8, 9] (zs.length + 1) (fun g t7 t8 t9 wr => ∃ k : Nat, t8 = .bool (putW id (zs.take k)) ∧ t9 = .int .i64 (k : Int) ∧ k ≤ zs.length ∧ k + g = zs.length + 1 ∧ Hid (wr.ownsRow V.heap.size 70 2 t7 (outW id cnt (zs.take k)).length (ncells (outW id cnt (zs.take k)))) ∧ Hid (Below V.heap.size V wr))
  case atStart => exact ⟨0, rfl, rfl, by omega, by omega, Lib.hid (World.ownsRow_nil _ _ _ _), Lib.hid (Below.refl _ _)⟩
  case round =>
    obtain ⟨k, rfl, rfl, hk, hg, ROW, HB⟩ := hrel
    have r2 := (three_cells RB.out).2.2.1
    have r2a := cell_later HB.out r2
    have hz0 : V.heap.size ≤ wr.heap.size := HB.out.size
    have hlo := outW_len id cnt (zs.take k)
    rw [List.length_take] at hlo
    by_cases hlt : k < zs.length
    · obtain ⟨b, rfl, hn1⟩ := HN.out.at (by omega)
      have p0 := (hn1 k hlt).1
      have p1 := (hn1 k hlt).2
      have HT := Lib.hid (take_next hlt rfl)
      have HRT := Lib.hid (rise_take HR.out hlt)
      obtain ⟨x, hx⟩ : ∃ x, x = zs[k]?.getD (0, 0) := ⟨_, rfl⟩
      rw [← hx] at p0 p1 HT HRT
      obtain ⟨z1, z2⟩ := x
      simp only at p0 p1 HRT
      clear hx hn1
      have q0a := cell_later HB.out p0
      have q1a := cell_later HB.out p1
      have h0 : (0 : Int) ≤ (k : Int) := by omega
      have hlt2 : (k : Int) < (zs.length : Int) := by omega
      cases hp : putW id (zs.take k)
      · by_cases hge : id ≤ z1
        · have HO : Hid (outW id cnt (zs.take (k + 1)) = (outW id cnt (zs.take k) ++ if 0 < cnt then [(id, cnt)] else []) ++ (if z1 = id then [] else [(z1, z2)])) := Lib.hid (by rw [HT.out]; exact out_first hp hge)
          have HP : Hid (putW id (zs.take (k + 1)) = true) := Lib.hid (by rw [HT.out, putW_snoc, hp]; simpa using hge)
          clear hp
          generalize outW id cnt (zs.take k) = os at ROW HO hlo
          have hg1 : decide (id ≤ z1) = true := by simpa using hge
          by_cases hc : 0 < cnt
          · rw [if_pos hc] at HO
            by_cases he : z1 = id
            · rw [if_pos he, List.append_nil] at HO
              have he1 : ((z1 : Int) != id) = false := by simpa using he
              have he2 : ((z1 : Int) == id) = true := by simpa using he
              have HE := Lib.hid he
              clear he
              go_wp2_with (at_builtin; refine wpList_appN rfl (.tmp 31) (.tmp 35) rfl wr V.heap.size _ os id cnt rfl rfl ROW.out rfl (by first | omega | (simp; omega)) (by omega) ?_; intro g1 cap1 w1 hrow hb1; have ROW1 := Lib.hid hrow; have HB1 := Lib.hid (HB.out.trans hb1); have hz1 : V.heap.size ≤ w1.heap.size := HB1.out.size; have r2b := cell_later HB1.out r2; have q0b := cell_later HB1.out p0; have q1b := cell_later HB1.out p1; clear hrow hb1)
              go_wp2_with fail
              go_roundg (gk - 1)
              case measure => omega
              case rel => exact ⟨k + 1, by rw [HP.out], by go_num, by omega, by omega, by rw [HO.out]; exact ROW1, HB1⟩
            · rw [if_neg he] at HO
              have he1 : ((z1 : Int) != id) = true := by simpa using he
              have he2 : ((z1 : Int) == id) = false := by simpa using he
              go_wp2_with (first | (at_builtin; refine wpList_appN rfl (.tmp 31) (.tmp 35) rfl wr V.heap.size _ os id cnt rfl rfl ROW.out rfl (by first | omega | (simp; omega)) (by omega) ?_; intro g1 cap1 w1 hrow hb1; have ROW1 := Lib.hid hrow; have HB1 := Lib.hid (HB.out.trans hb1); have hz1 : V.heap.size ≤ w1.heap.size := HB1.out.size; have r2b := cell_later HB1.out r2; have q0b := cell_later HB1.out p0; have q1b := cell_later HB1.out p1; clear hrow hb1) | (at_builtin; refine wpList_appN rfl (.tmp 45) (.tmp 51) rfl w1 V.heap.size _ (os ++ [(id, cnt)]) z1 z2 rfl rfl ROW1.out rfl (by first | omega | (simp; omega)) (by omega) ?_; intro g2 cap2 w2 hrow hb2; have ROW2 := Lib.hid hrow; rw [show (os ++ [(id, cnt)]).length = os.length + 1 by simp] at ROW2; have HB2 := Lib.hid (HB1.out.trans hb2); have hz2 : V.heap.size ≤ w2.heap.size := HB2.out.size; clear hrow hb2))
              go_roundg (gk - 1)
              case measure => omega
              case rel => exact ⟨k + 1, by rw [HP.out], by go_num, by omega, by omega, by rw [HO.out]; exact ROW2, HB2⟩
          · rw [if_neg hc, List.append_nil] at HO
            by_cases he : z1 = id
            · rw [if_pos he, List.append_nil] at HO
              have he1 : ((z1 : Int) != id) = false := by simpa using he
              have he2 : ((z1 : Int) == id) = true := by simpa using he
              have HE := Lib.hid he
              clear he
              go_wp2_with fail
              go_roundg (gk - 1)
              case measure => omega
              case rel => exact ⟨k + 1, by rw [HP.out], by go_num, by omega, by omega, by rw [HO.out]; exact ROW, HB⟩
            · rw [if_neg he] at HO
              have he1 : ((z1 : Int) != id) = true := by simpa using he
              have he2 : ((z1 : Int) == id) = false := by simpa using he
              go_wp2_with (at_builtin; refine wpList_appN rfl (.tmp 45) (.tmp 51) rfl wr V.heap.size _ os z1 z2 rfl rfl ROW.out rfl (by first | omega | (simp; omega)) (by omega) ?_; intro g1 cap1 w1 hrow hb1; have ROW1 := Lib.hid hrow; have HB1 := Lib.hid (HB.out.trans hb1); have hz1 : V.heap.size ≤ w1.heap.size := HB1.out.size; have r2b := cell_later HB1.out r2; have q0b := cell_later HB1.out p0; have q1b := cell_later HB1.out p1; clear hrow hb1)
              go_roundg (gk - 1)
              case measure => omega
              case rel => exact ⟨k + 1, by rw [HP.out], by go_num, by omega, by omega, by rw [HO.out]; exact ROW1, HB1⟩
        · have HO : Hid (outW id cnt (zs.take (k + 1)) = outW id cnt (zs.take k) ++ [(z1, z2)]) := Lib.hid (by rw [HT.out]; exact out_less hp (by simp only; omega))
          have HP : Hid (putW id (zs.take (k + 1)) = false) := Lib.hid (by rw [HT.out, putW_snoc, hp]; simpa using hge)
          clear hp
          generalize outW id cnt (zs.take k) = os at ROW HO hlo
          have hg1 : decide (id ≤ z1) = false := by simpa using hge
          have he : z1 ≠ id := by omega
          have he1 : ((z1 : Int) != id) = true := by simpa using he
          have he2 : ((z1 : Int) == id) = false := by simpa using he
          go_wp2_with (at_builtin; refine wpList_appN rfl (.tmp 45) (.tmp 51) rfl wr V.heap.size _ os z1 z2 rfl rfl ROW.out rfl (by first | omega | (simp; omega)) (by omega) ?_; intro g1 cap1 w1 hrow hb1; have ROW1 := Lib.hid hrow; have HB1 := Lib.hid (HB.out.trans hb1); have hz1 : V.heap.size ≤ w1.heap.size := HB1.out.size; have r2b := cell_later HB1.out r2; have q0b := cell_later HB1.out p0; have q1b := cell_later HB1.out p1; clear hrow hb1)
          go_roundg (gk - 1)
          case measure => omega
          case rel => exact ⟨k + 1, by rw [HP.out], by go_num, by omega, by omega, by rw [HO.out]; exact ROW1, HB1⟩
      · have hup : id < z1 := some_up (x := (z1, z2)) hp HRT.out
        have HO : Hid (outW id cnt (zs.take (k + 1)) = outW id cnt (zs.take k) ++ [(z1, z2)]) := Lib.hid (by rw [HT.out]; exact out_put hp HRT.out)
        have HP : Hid (putW id (zs.take (k + 1)) = true) := Lib.hid (by rw [HT.out, putW_snoc, hp]; rfl)
        clear hp
        generalize outW id cnt (zs.take k) = os at ROW HO hlo
        have he : z1 ≠ id := by omega
        have he1 : ((z1 : Int) != id) = true := by simpa using he
        have he2 : ((z1 : Int) == id) = false := by simpa using he
        go_wp2_with (at_builtin; refine wpList_appN rfl (.tmp 45) (.tmp 51) rfl wr V.heap.size _ os z1 z2 rfl rfl ROW.out rfl (by first | omega | (simp; omega)) (by omega) ?_; intro g1 cap1 w1 hrow hb1; have ROW1 := Lib.hid hrow; have HB1 := Lib.hid (HB.out.trans hb1); have hz1 : V.heap.size ≤ w1.heap.size := HB1.out.size; have r2b := cell_later HB1.out r2; have q0b := cell_later HB1.out p0; have q1b := cell_later HB1.out p1; clear hrow hb1)
        go_roundg (gk - 1)
        case measure => omega
        case rel => exact ⟨k + 1, by rw [HP.out], by go_num, by omega, by omega, by rw [HO.out]; exact ROW1, HB1⟩
    · obtain rfl : k = zs.length := by omega
      rw [List.take_of_length_le (Nat.le_refl _)] at ROW hlo ⊢
      have f0 := (three_cells RB.out).1
      have f1 := (three_cells RB.out).2.1
      cases hp : putW id zs
      · have HW := Lib.hid (out_end (cnt := cnt) hp)
        clear hp
        by_cases hc : 0 < cnt
        · rw [if_pos hc] at HW
          generalize outW id cnt zs = os at ROW HW hlo
          go_wp2_with (at_builtin; refine wpList_appN rfl (.tmp 59) (.tmp 63) rfl wr V.heap.size _ os id cnt rfl rfl ROW.out rfl (by first | omega | (simp; omega)) (by omega) ?_; intro g1 cap1 w1 hrow hb1; have ROW1 := Lib.hid hrow; have HB1 := Lib.hid (HB.out.trans hb1); have hz1 : V.heap.size ≤ w1.heap.size := HB1.out.size; have b0 := cell_later HB1.out f0; have b1 := cell_later HB1.out f1; have b2 := cell_later HB1.out r2; have RBb := three_cells (row_keep HB1.out RB.out); have b3 := RBb.2.2.2.2.2; have RZb := three_cells (row_keep HB1.out RZ.out); have y0 := RZb.1; have y1 := RZb.2.1; have y2 := RZb.2.2.1; have y3 := RZb.2.2.2.1; have y4 := RZb.2.2.2.2.1; have y5 := RZb.2.2.2.2.2; clear RBb RZb; clear hrow hb1)
          have HD := Lib.hid (with_done (a := .int .i64 l) (F := .int .i64 f) (o := (.int .i64 0, .int .i64 0, .slice none 0 0)) HBW.out HB0.out HZ.out RZ.out HB1.out (by simp) ROW1.out)
          refine bodyPost_ret (v := .agg #[.int .i64 l, .int .i64 f, .slice (some ⟨g1, 0, none⟩) (os.length + 1) cap1]) (results_cell_row Try.results46 _ _ (B + 1) 34 #[.int .i64 l, .int .i64 f, .slice (some ⟨g1, 0, none⟩) (os.length + 1) cap1] (0, 0) _ rfl HD.out.1 Try.underlying34 (by kernel_rfl) (by kernel_rfl)) rfl ?_
          rw [← HW.out]
          exact ⟨some ⟨g1, 0, none⟩, cap1, by simp, HD.out.2.1, HD.out.2.2.1, HD.out.2.2.2⟩
        · rw [if_neg hc, List.append_nil] at HW
          generalize outW id cnt zs = os at ROW HW hlo
          obtain ⟨ao1, cap1, rfl, _, _⟩ := nl_of_rowE ROW.out
          have b0 := cell_later HB.out f0; have b1 := cell_later HB.out f1; have b2 := cell_later HB.out r2; have RBb := three_cells (row_keep HB.out RB.out); have b3 := RBb.2.2.2.2.2; have RZb := three_cells (row_keep HB.out RZ.out); have y0 := RZb.1; have y1 := RZb.2.1; have y2 := RZb.2.2.1; have y3 := RZb.2.2.2.1; have y4 := RZb.2.2.2.2.1; have y5 := RZb.2.2.2.2.2; clear RBb RZb
          have HD := Lib.hid (with_done (a := .int .i64 l) (F := .int .i64 f) (o := (.int .i64 0, .int .i64 0, .slice none 0 0)) HBW.out HB0.out HZ.out RZ.out HB.out rfl ROW.out)
          go_wp2_with fail
          refine bodyPost_ret (v := .agg #[.int .i64 l, .int .i64 f, .slice ao1 os.length cap1]) (results_cell_row Try.results46 _ _ (B + 1) 34 #[.int .i64 l, .int .i64 f, .slice ao1 os.length cap1] (0, 0) _ rfl HD.out.1 Try.underlying34 (by kernel_rfl) (by kernel_rfl)) rfl ?_
          rw [← HW.out]
          exact ⟨ao1, cap1, rfl, HD.out.2.1, HD.out.2.2.1, HD.out.2.2.2⟩
      · have HW := Lib.hid (out_end_put (cnt := cnt) hp)
        clear hp
        generalize outW id cnt zs = os at ROW HW hlo
        obtain ⟨ao1, cap1, rfl, _, _⟩ := nl_of_rowE ROW.out
        have b0 := cell_later HB.out f0; have b1 := cell_later HB.out f1; have b2 := cell_later HB.out r2; have RBb := three_cells (row_keep HB.out RB.out); have b3 := RBb.2.2.2.2.2; have RZb := three_cells (row_keep HB.out RZ.out); have y0 := RZb.1; have y1 := RZb.2.1; have y2 := RZb.2.2.1; have y3 := RZb.2.2.2.1; have y4 := RZb.2.2.2.2.1; have y5 := RZb.2.2.2.2.2; clear RBb RZb
        have HD := Lib.hid (with_done (a := .int .i64 l) (F := .int .i64 f) (o := (.int .i64 0, .int .i64 0, .slice none 0 0)) HBW.out HB0.out HZ.out RZ.out HB.out rfl ROW.out)
        go_wp2_with fail
        refine bodyPost_ret (v := .agg #[.int .i64 l, .int .i64 f, .slice ao1 os.length cap1]) (results_cell_row Try.results46 _ _ (B + 1) 34 #[.int .i64 l, .int .i64 f, .slice ao1 os.length cap1] (0, 0) _ rfl HD.out.1 Try.underlying34 (by kernel_rfl) (by kernel_rfl)) rfl ?_
        rw [← HW.out]
        exact ⟨ao1, cap1, rfl, HD.out.2.1, HD.out.2.2.1, HD.out.2.2.2⟩
end Go.Proofs.Ythjmiimkplhffaa

/- The document's digest in memory; its functions on it. -/
set_option linter.unusedVariables false
set_option linter.unusedSimpArgs false
namespace Go.Proofs.Ythjmiimkplhffaa
open Go.RowKit Go.Maps

/-- the slice (ao, n) holds the nodes of c -/
def DocM (w : World) (ao : Option Addr) (n L : Nat) (c : Int → Int) : Prop := (nodesL L c).length = n ∧ (Nl w ao n (nodesL L c) ∧ ∀ b, ao = some ⟨b, 0, none⟩ → b < w.heap.size) ∧ Good L c ∧ 1 ≤ L ∧ L ≤ 20
theorem DocM.keep {w w' : World} {ao : Option Addr} {n L : Nat} {c : Int → Int} (h : DocM w ao n L c) (hb : Below w.heap.size w w') : DocM w' ao n L c := ⟨h.1, ⟨h.2.1.1.keep hb, fun b e => Nat.lt_of_lt_of_le (h.2.1.2 b e) hb.size⟩, h.2.2⟩
theorem DocM.len {w : World} {ao : Option Addr} {n L : Nat} {c : Int → Int} (h : DocM w ao n L c) : n ≤ 2097152 := by
  have := Nat.le_trans (ids_len L c) (sz_le h.2.2.2.2)
  rw [← h.1]
  unfold nodesL
  simpa using this
/-- a digest of the document's with the counts c is returned -/
def OutC (L : Nat) (F : Int) (W : World) (c : Int → Int) (e : Ending) (w' : World) : Prop := ∃ ao n cap, e = .returned (.agg #[.int .i64 (L : Int), .int .i64 F, .slice ao n cap]) ∧ DocM w' ao n L c ∧ Below W.heap.size W w' ∧ ∀ b, ao = some ⟨b, 0, none⟩ → W.heap.size ≤ b

theorem docCount (ao : Option Addr) (n cap L : Nat) (a F : Value) (c : Int → Int) (W : World) (h : DocM W ao n L c) (ht : tot L c ≤ 1099511627776) :
    Calls Try.prog 33 #[.agg #[a, F, .slice ao n cap]] W (fun e w' => e = .returned (.int .i64 (tot L c)) ∧ Below W.heap.size W w') := by
  have hl := h.len
  obtain ⟨rfl, ⟨hn, hlt⟩, hg, hL⟩ := h
  have := refCount_any a F ao cap (nodesL L c) W hn (fun z hz => by rw [((mem_nodes hg z).1 hz).2]; exact hg.1 _) (by rw [sum_nodes]; exact ht) (by omega)
  rw [sum_nodes] at this
  exact this
theorem docAt (ao : Option Addr) (n cap L : Nat) (a F : Value) (c : Int → Int) (id : Int) (W : World) (h : DocM W ao n L c) :
    Calls Try.prog 47 #[.agg #[a, F, .slice ao n cap], .int .i64 id] W (fun e w' => e = .returned (.int .i64 (c id)) ∧ Below W.heap.size W w') := by
  have hl := h.len
  obtain ⟨rfl, ⟨hn, hlt⟩, hg, hL⟩ := h
  exact refAt_any a F ao cap L c id _ W rfl hg hn (by omega)
theorem docWith (ao : Option Addr) (n cap L : Nat) (F : Int) (c : Int → Int) (id cnt : Int) (W : World) (h : DocM W ao n L c) (h1 : 1 ≤ id) (h2 : id < 2 ^ (L + 1)) (h3 : 0 ≤ cnt) :
    Calls Try.prog 46 #[.agg #[.int .i64 (L : Int), .int .i64 F, .slice ao n cap], .int .i64 id, .int .i64 cnt] W (OutC L F W (updI c id cnt)) := by
  have hl := h.len
  obtain ⟨rfl, ⟨hn, hlt⟩, hg, hL⟩ := h
  refine (with_any L F ao cap _ id cnt W (nodes_rise L c) hn (by omega)).mono ?_
  rintro e w' ⟨ao', cap', he, hN, hb, hf⟩
  rw [with_nodes hg h1 h2 h3] at he hN
  exact ⟨ao', _, cap', he, ⟨rfl, ⟨hN, fun b e => (hf b e).2⟩, good_updI hg h1 h2 h3, hL⟩, hb, fun b e => (hf b e).1⟩

/-- power, of an int -/
theorem power_int (x : Int) (W : World) (h0 : 0 ≤ x) (h1 : x ≤ 30) : Calls Try.prog 58 #[.int .i64 x] W (fun e w' => e = .returned (.int .i64 (2 ^ x.toNat)) ∧ w' = W) := by
  obtain ⟨n, rfl⟩ := Int.eq_ofNat_of_zero_le h0
  refine (power_any n W (by omega)).mono ?_
  rintro e w' ⟨he, hw⟩
  exact ⟨he, hw.symm⟩

theorem infoZI : (Try.prog.info? 3).map (fun i => (i.zero, i.size, i.bytes)) = some (some (.int .i64 0), 1, 8) := by kernel_rfl
theorem one_newZ (W : World) (x : Int) : ∀ (j : Nat) (u : Value), ([.int .i64 x] : List Value)[j]? = some u → (W.alloc (.cells #[.int .i64 x] 3)).cell? ((⟨W.heap.size, 0, none⟩ : Addr).add j) = some u := by
  intro j u hj
  match j, hj with
  | 0, hj => simp at hj; subst hj; simp [Addr.add]
/-- one integer appended to an own list of integers -/
theorem wpList_appZ {w1 : World} {ops : Array Oper} {rest : List Oper} {o : Oper} {a : Act} {Q : Exit → Act → World → Prop} (hg : o.guard = none) (s x : Operand)
    (hop : o.op = Op.call { callee := Callee.builtin Builtin.append, args := #[s, x], argTypes := #[79, 79] }) (w : World) (base : Nat) (v : Value) (n : Nat) (zs : List Int) (z : Int) (hw : w1 = w.alloc (.cells #[.int .i64 z] 3)) (hs : a.eval s = v) (hown : OwnI w base 3 v n zs)
    (hx : a.eval x = .slice (some ⟨w.heap.size, 0, none⟩) 1 1) (hl : n ≤ 9000000) (hb : base ≤ w.heap.size)
    (hK : ∀ g cap w', OwnI w' base 3 (.slice (some ⟨g, 0, none⟩) (n + 1) cap) (n + 1) (zs ++ [z]) → Below base w w' → wpList Try.prog ops Q rest (a.put o.dst (.slice (some ⟨g, 0, none⟩) (n + 1) cap)) w') :
    wpList Try.prog ops Q (o :: rest) a w1 := by
  subst hw
  obtain ⟨i0, hi0, hz0, hz1, hz2⟩ := info_parts infoZI
  have hown1 : w.ownsRow base 3 1 v n (zs.map fun z => Value.int .i64 z) := hown
  refine wpList_appL hg s x 79 hop base 3 i0 (.int .i64 0) 1 8 Try.underlying79 hi0 hz0 hz1 hz2 rfl (by decide) v n _ hs (hown1.alloc _) ⟨w.heap.size, 0, none⟩ 1 1 [.int .i64 z] hx rfl (one_newZ w z) (by simp [Value.oneCell']) (by omega) (by unfold maxLen; omega) (by omega) (by simp; omega) ?_
  intro g cap w' hrow hgrow hat
  refine hK g cap w' (by unfold OwnI; rw [List.map_append]; exact hrow) ?_
  exact ((Below.refl base w).alloc hb _).grown hgrow (by simp; omega) (fun j hj => (own_cells hown1 hj).1)

/-- the integers of an own row -/
theorem own_ints {w : World} {base e n : Nat} {v : Value} {xs : List Int} (h : OwnI w base e v n xs) : xs.length = n ∧ ∃ ao cap, v = .slice ao n cap ∧ (0 < n → ∃ b, ao = some ⟨b, 0, none⟩ ∧ ∀ i, i < n → w.cell? ⟨b, i, none⟩ = some (.int .i64 (xs[i]?.getD 0))) := by
  have hl : xs.length = n := by have := h.1; simpa using this
  refine ⟨hl, ?_⟩
  have h0 : w.ownsRow base e 1 v n (xs.map fun z => Value.int .i64 z) := h
  rcases h.2 with ⟨rfl, rfl⟩ | ⟨g, cap, cur, rfl, _, hg, h1, h2, h3, h4⟩
  · exact ⟨none, 0, rfl, fun h => by omega⟩
  · refine ⟨_, cap, rfl, fun _ => ⟨g, rfl, fun i hi => ?_⟩⟩
    have hc := h0.cells (g := g) rfl i (.int .i64 (xs[i]?.getD 0)) (by simp [show i < xs.length by omega])
    have a0 : ((⟨g, 0, none⟩ : Addr).add i) = ⟨g, i, none⟩ := by unfold Addr.add; split <;> simp_all
    rw [a0] at hc
    exact hc

set_option maxHeartbeats 1000000 in
theorem docUnit (ao : Option Addr) (n cap L : Nat) (a : Value) (F : Int) (c : Int → Int) (W : World) (h : DocM W ao n L c) (ht : tot L c ≤ 1099511627776) (hF : 1 ≤ F) (ha : a.oneCell' = true) :
    Calls Try.prog 63 #[.agg #[a, .int .i64 F, .slice ao n cap]] W (fun e w' => e = .returned (.int .i64 (tot L c / F)) ∧ Below W.heap.size W w') := by
  have h0 : 0 ≤ tot L c := S_nonneg _ (fun i _ => h.2.2.1.1 i)
  have HB := Lib.hid (box_below W (.cells #[a, .int .i64 F, .slice ao n cap] 34))
  have HN := Lib.hid (h.keep (box_below W (.cells #[a, .int .i64 F, .slice ao n cap] 34)))
  have HQ : Hid ((tot L c).tdiv F = tot L c / F) := Lib.hid (Int.tdiv_eq_ediv_of_nonneg h0)
  have hF0 : ¬ F = 0 := by omega
  clear h
  go_enter Try.func63, Try.ntmps63
  go_upto_region 1 with fail
  have R := cells_new W #[a, .int .i64 F, .slice ao n cap] 34
  generalize W.alloc (.cells #[a, .int .i64 F, .slice ao n cap] 34) = V at HB HN R ⊢
  generalize W.heap.size = B at R ⊢
  have r0 := (three_cells R).1
  have r1 := (three_cells R).2.1
  have r2 := (three_cells R).2.2.1
  clear R
  have CNT : Hid (∀ w', Below V.heap.size V w' → Calls Try.prog 33 #[.agg #[a, .int .i64 F, .slice ao n cap]] w' (fun e w'' => e = .returned (.int .i64 (tot L c)) ∧ Below w'.heap.size w' w'')) := Lib.hid (fun w' hb => docCount ao n cap L a (.int .i64 F) c w' (HN.out.keep hb) ht)
  generalize htt : tot L c = tt at CNT HQ h0 ht ⊢
  have HTT := Lib.hid htt
  clear htt
  have hq : IntKind.i64.wrap (tt.tdiv F) = tt / F := IntWalk.i64_quo _ _ (by omega)
  go_region_held3 (fun w' => w'.cell? ⟨B, 0, none⟩ = some a ∧ w'.cell? ⟨B, 1, none⟩ = some (.int .i64 F) ∧ w'.cell? ⟨B, 2, none⟩ = some (.slice ao n cap)) (go_keep)
    (first | (go_at_call 33; refine (CNT.out _ (below_drewN (Below.refl _ _) 1)).mono ?_; rintro e w1 ⟨rfl, hb1⟩; have B1 := Lib.hid (below_then (below_drewN (Below.refl V.heap.size V) 1) hb1); have s0 := cell_later B1.out r0; have s1 := cell_later B1.out r1; have s2 := cell_later B1.out r2; clear hb1))
  go_wp2
  go_ret
  rw [HTT.out]
  exact ⟨rfl, HB.out.trans (B1.out.mono HB.out.size)⟩
end Go.Proofs.Ythjmiimkplhffaa

/- Plain mathematics for the document's pass. -/
set_option linter.unusedVariables false
set_option linter.unusedSimpArgs false
namespace Go.Proofs.Ythjmiimkplhffaa

theorem fold_good {L e : Nat} {t : Int} {c : Int → Int} {ps : List Int} (hg : Good L c) (he : e < L) (h : ∀ p ∈ ps, At e p) : Good L (foldF t c ps) ∧ tot L (foldF t c ps) = tot L c := by
  have := fold_keeps (t := t) ps c (fun p hp => by
    have h1 := (h p hp).pos
    have h2 := at_le (e := L) (h p hp) he
    exact ⟨h1, by omega⟩) hg
  exact ⟨this.1, this.2.1⟩
theorem count_le {L : Nat} {c : Int → Int} (hg : Good L c) (q : Int) : 0 ≤ c q ∧ c q ≤ tot L c := by
  refine ⟨hg.1 q, ?_⟩
  by_cases h : c q = 0
  · rw [h]; exact S_nonneg _ (fun i _ => hg.1 i)
  · have h1 := hg.2 q h
    obtain ⟨n, rfl⟩ := Int.eq_ofNat_of_zero_le (by omega : 0 ≤ q)
    exact S_single (f := fun i => c i) (by have := SZ_cast L; omega) (fun i _ => hg.1 i)

theorem pass_here {t : Int} {L e : Nat} {c : Int → Int} {ps : List Int} {j : Nat} (hg : Good L c) (he : e < L) (hp : ParOk e (idsL L c) ps) (hj : j < ps.length) :
    1 ≤ ps[j]?.getD 0 ∧ 2 * (ps[j]?.getD 0) + 1 < 2 ^ (L + 1) ∧ ps[j]?.getD 0 < 2 ^ (L + 1) ∧
    (foldF t c (ps.take j) (ps[j]?.getD 0) + foldF t c (ps.take j) (2 * ps[j]?.getD 0) + foldF t c (ps.take j) (2 * ps[j]?.getD 0 + 1) ≤ t → foldF t c (ps.take (j + 1)) = climbF (foldF t c (ps.take j)) (ps[j]?.getD 0) ∧ ∃ x ∈ ps.take (j + 1), can t c x) ∧
    (¬ (foldF t c (ps.take j) (ps[j]?.getD 0) + foldF t c (ps.take j) (2 * ps[j]?.getD 0) + foldF t c (ps.take j) (2 * ps[j]?.getD 0 + 1) ≤ t) → foldF t c (ps.take (j + 1)) = foldF t c (ps.take j) ∧ ((∃ x ∈ ps.take (j + 1), can t c x) ↔ ∃ x ∈ ps.take j, can t c x)) := by
  obtain ⟨p, hpe⟩ : ∃ p, p = ps[j]?.getD 0 := ⟨_, rfl⟩
  have hpm : p ∈ ps := by rw [hpe]; simp [hj]
  have htk : ps.take (j + 1) = ps.take j ++ [p] := by rw [hpe, List.getElem?_eq_getElem hj]; exact (List.take_append_getElem hj).symm
  rw [← hpe]
  obtain ⟨hA, q, hq, hAq, hqp⟩ := hp.at_ p hpm
  have h1 := hA.pos
  have h2 := at_le (e := L) hA he
  have e2 : (2 : Int) ^ (L + 1) = 2 * 2 ^ L := by rw [Int.pow_succ]; omega
  have hat : ∀ x ∈ ps.take j, At e x := fun x hx => (hp.at_ x (List.mem_of_mem_take hx)).1
  have hn : p ∉ ps.take j := fun hx => by
    obtain ⟨i, hi, he⟩ := List.mem_iff_getElem.1 hx
    rw [List.length_take] at hi
    rw [List.getElem_take] at he
    have h3 := List.pairwise_iff_getElem.1 hp.rise i j (by omega) hj (by omega)
    rw [he, hpe] at h3
    simp [hj] at h3
  obtain ⟨f1, f2, f3⟩ := fold_here (t := t) (c := c) hat hA hn
  have hne : c (2 * p) + c (2 * p + 1) ≠ 0 := by
    have g1 := hg.1 (2 * p)
    have g2 := hg.1 (2 * p + 1)
    have g3 := (mem_ids hg q).1 hq
    have g4 := hg.1 q
    by_cases k : q = 2 * p
    · rw [k] at g3 g4; omega
    · have : q = 2 * p + 1 := by omega
      rw [this] at g3 g4; omega
  refine ⟨h1, by omega, by omega, fun hs => ?_, fun hs => ?_⟩
  · rw [f1, f2, f3] at hs
    refine ⟨?_, p, by rw [htk]; simp, hne, hs⟩
    rw [htk, fold_snoc]
    unfold stepF
    rw [if_pos]
    unfold can
    rw [f1, f2, f3]
    exact ⟨hne, hs⟩
  · rw [f1, f2, f3] at hs
    have hnc : ¬ can t c p := fun k => hs k.2
    refine ⟨?_, ?_⟩
    · rw [htk, fold_snoc]
      unfold stepF
      rw [if_neg]
      unfold can
      rw [f1, f2, f3]
      exact fun k => hs k.2
    · rw [htk]
      constructor
      · rintro ⟨x, hx, hc⟩
        rcases List.mem_append.1 hx with g | g
        · exact ⟨x, g, hc⟩
        · obtain rfl := List.mem_singleton.1 g; exact absurd hc hnc
      · rintro ⟨x, hx, hc⟩
        exact ⟨x, List.mem_append_left _ hx, hc⟩
/-- behind all parents of a depth -/
theorem pass_level {t : Int} {L e : Nat} {c : Int → Int} {ps : List Int} (hg : Good L c) (hp : ParOk e (idsL L c) ps) : foldF t c ps = lvl t e c ∧ ((∃ x ∈ ps, can t c x) ↔ ∃ x, At e x ∧ can t c x) := by
  have hall : ∀ p, At e p → can t c p → p ∈ ps := fun p hA hc => by
    have h1 := hA.pos
    have h2 := hA.child
    have g1 := hg.1 (2 * p)
    have g2 := hg.1 (2 * p + 1)
    by_cases k : c (2 * p) = 0
    · have k2 : c (2 * p + 1) ≠ 0 := fun k2 => hc.1 (by omega)
      have := hp.all _ ((mem_ids hg _).2 k2) h2.2
      rwa [show (2 * p + 1) / 2 = p by omega] at this
    · have := hp.all _ ((mem_ids hg _).2 k) h2.1
      rwa [show 2 * p / 2 = p by omega] at this
  refine ⟨fold_all t e ps c (fun p hx => (hp.at_ p hx).1) hall, ?_⟩
  constructor
  · rintro ⟨x, hx, hc⟩; exact ⟨x, (hp.at_ x hx).1, hc⟩
  · rintro ⟨x, hA, hc⟩; exact ⟨x, hall x hA hc, hc⟩
end Go.Proofs.Ythjmiimkplhffaa
