/- Part 8 of the contracts: DComm, DLess, DOk, DCommE, DRefM, DRef1, DSmallW. -/
import Derived.Test.YthjmiimkplhffaaPart7

/- The law's right; two nodes compared; sums in either order. -/
set_option linter.unusedVariables false
set_option linter.unusedSimpArgs false
namespace Go.Proofs.Ythjmiimkplhffaa
open Go.RowKit Go.Maps

theorem right_yes (l f : Int) (W : World) (h : Right l f) : Calls Try.prog 17 #[.int .i64 l, .int .i64 f] W (fun e w' => e = .returned (.bool true) ∧ w' = W) := by
  obtain ⟨h1, h2, h3, h4⟩ := h
  go_enter Try.func17, Try.ntmps17
  go_wp2
  go_ret
  exact ⟨rfl, rfl⟩
theorem right_no (l f : Int) (W : World) (h : ¬ Right l f) : Calls Try.prog 17 #[.int .i64 l, .int .i64 f] W (fun e w' => e = .returned (.bool false) ∧ w' = W) := by
  by_cases h1 : 1 ≤ l
  · by_cases h2 : l ≤ 20
    · by_cases h3 : 1 ≤ f
      · have h4 : ¬ f ≤ 1000 := fun h4 => h ⟨h1, h2, h3, h4⟩
        go_enter Try.func17, Try.ntmps17
        go_wp2
        go_ret
        exact ⟨rfl, rfl⟩
      · go_enter Try.func17, Try.ntmps17
        go_wp2
        go_ret
        exact ⟨rfl, rfl⟩
    · go_enter Try.func17, Try.ntmps17
      go_wp2
      go_ret
      exact ⟨rfl, rfl⟩
  · go_enter Try.func17, Try.ntmps17
    go_wp2
    go_ret
    exact ⟨rfl, rfl⟩

theorem eqIn_node (d : Nat) (l f a b : Int) (w : World) :
    (Op.equalIn (d + 1 + 1) 64 (.agg #[.int .i64 l, .int .i64 f]) (.agg #[.int .i64 a, .int .i64 b])).run Try.prog w = .ok (l == a && f == b) w := by
  have u3 := Try.underlying3
  rw [run_equalIn_agg w (d + 1) 64 _ _ (by kernel_rfl) (by kernel_rfl)]
  simp only [Program.fieldsOf, Try.underlying64, Op.eqFields]
  simp [part, run_equalIn_int, u3, Result.andThen]
  by_cases h1 : l = a <;> by_cases h2 : f = b <;> simp [h1, h2]
theorem run_neq_node (l f : Int) (w : World) :
    (binOp .neq 64 (.agg #[.int .i64 l, .int .i64 f]) (.agg #[.int .i64 l, .int .i64 f])).run Try.prog w = .ok (.bool false) w := by
  rw [run_neq_struct, show (10000 : Nat) = 9998 + 1 + 1 from rfl, eqIn_node]
  simp [Result.andThen]

/-- merged in either order -/
theorem comp_comm {L : Nat} {F n m : Int} {c k d e : Int → Int} (h : Comp ((n + m) / F) L (fun q => c q + k q) d) (h' : Comp ((m + n) / F) L (fun q => k q + c q) e) : d = e := by
  have e1 : (fun q => k q + c q) = (fun q => c q + k q) := funext fun q => Int.add_comm _ _
  rw [e1, Int.add_comm m n] at h'
  exact h.same h'
end Go.Proofs.Ythjmiimkplhffaa

/- The law's less. -/
set_option linter.unusedVariables false
set_option linter.unusedSimpArgs false
namespace Go.Proofs.Ythjmiimkplhffaa
open Go.RowKit

/-- how many of the values are less than v -/
def lessL (v : Int) (l : List (Int × Int)) : Int := (l.map fun x => if x.1 < v then x.2 else 0).sum
theorem lessL_snoc (v : Int) (l : List (Int × Int)) (x : Int × Int) : lessL v (l ++ [x]) = lessL v l + if x.1 < v then x.2 else 0 := by unfold lessL; simp
theorem lessL_le (v : Int) : ∀ (l : List (Int × Int)), (∀ x ∈ l, 0 ≤ x.2) → 0 ≤ lessL v l ∧ lessL v l ≤ times l
  | [], _ => by unfold lessL times; simp
  | x :: l, h => by
    have ih := lessL_le v l (fun y hy => h y (List.mem_cons_of_mem _ hy))
    have h1 := h x List.mem_cons_self
    unfold lessL times at *
    simp only [List.map_cons, List.sum_cons]
    split <;> omega
theorem times_part (l m : List (Int × Int)) (h : ∀ x ∈ l ++ m, 0 ≤ x.2) : times l ≤ times (l ++ m) := by
  have h1 := (lessL_le 0 m (fun x hx => h x (List.mem_append_right _ hx)))
  unfold times at *
  rw [List.map_append, List.sum_append]
  omega
theorem lessL_all (v : Int) : ∀ (l : List (Int × Int)), (∀ x ∈ l, x.1 < v) → lessL v l = times l
  | [], _ => rfl
  | x :: l, h => by
    have ih := lessL_all v l (fun y hy => h y (List.mem_cons_of_mem _ hy))
    have h1 := h x List.mem_cons_self
    unfold lessL times at *
    simp only [List.map_cons, List.sum_cons, if_pos h1, ih]

set_option maxRecDepth 100000 in
set_option maxHeartbeats 2000000 in
theorem less_any (v : Int) (ao : Option Addr) (la ca : Nat) (xs : List (Int × Int)) (W : World) (hs : Al W ao la xs) (hla : la ≤ 1000) (h0 : ∀ x ∈ xs, 0 ≤ x.2) (h1 : times xs ≤ 1099511627776) :
    Calls Try.prog 30 #[.slice ao la ca, .int .i64 v] W (fun e w' => e = .returned (.int .i64 (lessL v xs)) ∧ w' = W) := by
  have HS := Lib.hid hs
  have H0 := Lib.hid h0
  have H1 := Lib.hid h1
  clear hs h0 h1
  go_enter Try.func30, Try.ntmps30
  go_wp2_with fail
  go_loopg [5, 6] (la + 1) (fun g t5 t6 wr => ∃ i : Nat, t5 = .int .i64 (lessL v (xs.take i)) ∧ t6 = .int .i64 (i : Int) ∧ i ≤ la ∧ i + g = la + 1 ∧ W = wr)
  case atStart => exact ⟨0, by simp [lessL], rfl, by omega, by omega, rfl⟩
  case round =>
    obtain ⟨i, rfl, rfl, hi, hg, rfl⟩ := hrel
    by_cases hlt : i < la
    · have hlt2 : (i : Int) < (la : Int) := by omega
      obtain ⟨bb, off, rfl, q0, q1⟩ := HS.out.at hlt
      obtain ⟨x, hx⟩ : ∃ x, x = xs[i]?.getD (0, 0) := ⟨_, rfl⟩
      rw [← hx] at q0 q1
      have q2 : World.cell? _ ⟨bb, off + i * 2 + 1, none⟩ = some (Value.int .i64 x.2) := q1
      have hnx := take_next (by rw [HS.out.1]; exact hlt) hx
      have HN : Hid (lessL v (xs.take (i + 1)) = lessL v (xs.take i) + if x.1 < v then x.2 else 0) := Lib.hid (by rw [hnx, lessL_snoc])
      have hb : ∀ j, 0 ≤ lessL v (xs.take j) ∧ lessL v (xs.take j) ≤ 1099511627776 := fun j => by
        have a := lessL_le v (xs.take j) (fun y hy => H0.out y (List.mem_of_mem_take hy))
        have b := times_part (xs.take j) (xs.drop j) (fun y hy => H0.out y (by rwa [List.take_append_drop] at hy))
        rw [List.take_append_drop] at b
        have := H1.out
        omega
      have hb1 := hb i
      have hb2 := hb (i + 1)
      rw [HN.out] at hb2
      generalize lessL v (xs.take i) = s at hb1 hb2 HN ⊢
      clear hb hx hnx
      by_cases hv : x.1 < v
      · rw [if_pos hv] at hb2 HN
        go_wp2_with fail
        go_roundg (gk - 1)
        case measure => omega
        case rel => exact ⟨i + 1, by rw [HN.out], rfl, by omega, by omega, rfl⟩
      · rw [if_neg hv] at hb2 HN
        go_wp2_with fail
        go_roundg (gk - 1)
        case measure => omega
        case rel => exact ⟨i + 1, by rw [HN.out, Int.add_zero], rfl, by omega, by omega, rfl⟩
    · obtain rfl : i = la := by omega
      rw [List.take_of_length_le (by rw [HS.out.1]; exact Nat.le_refl _)]
      go_wp2_with fail
      go_ret
      exact ⟨rfl, rfl⟩
end Go.Proofs.Ythjmiimkplhffaa

/- Plain facts on the nodes of a digest, as DigestSmall asks for them; a slice of acts out of an own row. -/
set_option linter.unusedVariables false
set_option linter.unusedSimpArgs false
namespace Go.Proofs.Ythjmiimkplhffaa
open Go.RowKit Go.Maps

theorem al_of_row {w : World} {base : Nat} {v : Value} {n : Nat} {xs : List (Int × Int)} (h : w.ownsRow base 43 2 v n (ncells xs)) : ∃ ao cap, v = .slice ao n cap ∧ cap ≤ maxLen ∧ Al w ao n xs := by
  have hl : xs.length = n := by have := h.1; rw [ncells_len] at this; omega
  rcases h.2 with ⟨rfl, rfl⟩ | ⟨g, cap, cur, rfl, _, hg, h1, h2, h3, h4⟩
  · obtain rfl := List.eq_nil_of_length_eq_zero hl
    exact ⟨none, 0, rfl, Nat.zero_le _, rfl, 0, 0, fun h => by omega, fun i hi => by omega⟩
  · refine ⟨_, cap, rfl, h2, hl, g, 0, fun _ => rfl, fun i hi => ?_⟩
    have hc := h.cells (g := g) rfl
    have hx := ncells_get xs i (by omega)
    have c0 := hc _ _ hx.1
    have c1 := hc _ _ hx.2
    have a0 : ((⟨g, 0, none⟩ : Addr).add (i * 2)) = ⟨g, 0 + i * 2, none⟩ := by unfold Addr.add; split <;> simp_all
    have a1 : ((⟨g, 0, none⟩ : Addr).add (i * 2 + 1)) = ⟨g, 0 + (i * 2 + 1), none⟩ := by unfold Addr.add; split <;> simp_all
    rw [a0] at c0
    rw [a1] at c1
    exact ⟨c0, c1⟩

/-- the sum of the counts of the first k nodes; the number of the k-th one -/
def sumN (zs : List (Int × Int)) (k : Nat) : Int := ((zs.take k).map (·.2)).sum
def lastN (zs : List (Int × Int)) (k : Nat) : Int := match k with | 0 => 0 | j + 1 => (zs[j]?.getD (0, 0)).1

/-- what DigestSmall asks of the nodes -/
structure NodesOk (L : Nat) (F tt : Int) (zs : List (Int × Int)) : Prop where
  few : (zs.length : Int) ≤ 4 * F
  node : ∀ k, k < zs.length → 0 ≤ lastN zs k ∧ lastN zs k < (zs[k]?.getD (0, 0)).1 ∧ (zs[k]?.getD (0, 0)).1 < 2 * 2 ^ L ∧ 1 ≤ (zs[k]?.getD (0, 0)).2 ∧ ((zs[k]?.getD (0, 0)).1 < 2 ^ L → (zs[k]?.getD (0, 0)).2 ≤ tt / F)
  part : ∀ k, 0 ≤ sumN zs k ∧ sumN zs k ≤ tt
  all : sumN zs zs.length = tt
  next : ∀ k, k < zs.length → sumN zs (k + 1) = sumN zs k + (zs[k]?.getD (0, 0)).2

theorem sum_nodes (L : Nat) (c : Int → Int) : ((nodesL L c).map (·.2)).sum = tot L c := by
  unfold nodesL idsL tot
  generalize SZ L = n
  induction n with
  | zero => rfl
  | succ n ih =>
    unfold S
    rw [← ih, List.range_succ, List.map_append, List.filter_append, List.map_append, List.map_append, List.sum_append]
    by_cases h : c n = 0 <;> simp [h]
theorem sum_take_le (zs : List (Int × Int)) (h : ∀ z ∈ zs, 0 ≤ z.2) (k : Nat) : 0 ≤ sumN zs k ∧ sumN zs k ≤ (zs.map (·.2)).sum := by
  have pos : ∀ l : List (Int × Int), (∀ z ∈ l, 0 ≤ z.2) → 0 ≤ (l.map (·.2)).sum := fun l => by
    induction l with
    | nil => intro _; simp
    | cons a l ih => intro hl; have h1 := ih (fun z hz => hl z (List.mem_cons_of_mem _ hz)); have h2 := hl a List.mem_cons_self; simp only [List.map_cons, List.sum_cons]; omega
  have e : (zs.map (·.2)).sum = sumN zs k + ((zs.drop k).map (·.2)).sum := by
    conv => lhs; rw [← List.take_append_drop k zs]
    rw [List.map_append, List.sum_append]; rfl
  have h1 := pos (zs.take k) (fun z hz => h z (List.mem_of_mem_take hz))
  have h2 := pos (zs.drop k) (fun z hz => h z (List.mem_of_mem_drop hz))
  unfold sumN at *
  omega

theorem nodes_ok {L : Nat} {F : Int} {c : Int → Int} (hF : 1 ≤ F) (hg : Good L c) (hs : Still (tot L c / F) L c) (hc : Cap (tot L c / F) L c) : NodesOk L F (tot L c) (nodesL L c) := by
  have hlen : (nodesL L c).length = (idsL L c).length := by unfold nodesL; simp
  have hpos : ∀ z ∈ nodesL L c, 0 ≤ z.2 := fun z hz => by
    unfold nodesL at hz
    obtain ⟨q, _, rfl⟩ := List.mem_map.1 hz
    exact hg.1 q
  have hget : ∀ k, k < (idsL L c).length → (nodesL L c)[k]?.getD (0, 0) = ((idsL L c)[k]?.getD 0, c ((idsL L c)[k]?.getD 0)) := fun k hk => by
    unfold nodesL
    simp [hk]
  have hmem : ∀ k, k < (idsL L c).length → (idsL L c)[k]?.getD 0 ∈ idsL L c := fun k hk => by simp [hk]
  have hrise := ids_rise L c
  refine ⟨by rw [hlen]; exact few hF hg hs, fun k hk => ?_, fun k => ?_, ?_, fun k hk => ?_⟩
  · rw [hlen] at hk
    rw [hget k hk]
    have hm := (mem_ids hg _).1 (hmem k hk)
    have h1 := hg.2 _ hm
    have h2 := hg.1 ((idsL L c)[k]?.getD 0)
    have h3 := hc ((idsL L c)[k]?.getD 0)
    have e2 : (2 : Int) ^ (L + 1) = 2 * 2 ^ L := by rw [Int.pow_succ]; omega
    have hlast : 0 ≤ lastN (nodesL L c) k ∧ lastN (nodesL L c) k < (idsL L c)[k]?.getD 0 := by
      cases k with
      | zero => exact ⟨Int.le_refl _, by show (0 : Int) < _; omega⟩
      | succ j =>
        unfold lastN
        simp only
        rw [hget j (by omega)]
        have h4 := hg.2 _ ((mem_ids hg _).1 (hmem j (by omega)))
        refine ⟨by simp only; omega, ?_⟩
        have h5 := List.pairwise_iff_getElem.1 hrise j (j + 1) (by omega) hk (by omega)
        simpa [hk, show j < (idsL L c).length by omega] using h5
    exact ⟨hlast.1, hlast.2, by simp only; omega, by simp only; omega, h3⟩
  · have h := sum_take_le _ hpos k
    rw [sum_nodes] at h
    exact h
  · unfold sumN
    rw [List.take_of_length_le (Nat.le_refl _), sum_nodes]
  · unfold sumN
    rw [List.take_succ_eq_append_getElem hk, List.map_append, List.sum_append]
    simp [hk]

theorem less_made {L : Nat} {F : Int} {l done : List (Int × Int)} {c : Int → Int} (hL : L ≤ 20) (h : Made L F l c done) : lessL 1048576 done = tot L c := by
  rw [← h.times]
  refine lessL_all _ _ (fun x hx => ?_)
  have h1 := (h.vals x hx).2.1
  have h2 : (2 : Int) ^ L ≤ 2 ^ 20 := by
    have : (2 : Nat) ^ L ≤ 2 ^ 20 := Nat.pow_le_pow_right (by omega) hL
    exact_mod_cast this
  omega
end Go.Proofs.Ythjmiimkplhffaa

/- DigestCommutes, where the law asks for no more than awake. -/
set_option linter.unusedVariables false
set_option linter.unusedSimpArgs false
namespace Go.Proofs.Ythjmiimkplhffaa
open Go.RowKit Go.Maps

set_option maxRecDepth 100000 in
set_option maxHeartbeats 4000000 in
theorem comm_early (l f : Int) (ao bo : Option Addr) (la ca lb cb : Nat) (W : World) (h : 60 < la ∨ 60 < lb ∨ ¬ Right l f) (hla : la ≤ 9223372036854775807) (hlb : lb ≤ 9223372036854775807) :
    Calls Try.prog 10 #[.int .i64 l, .int .i64 f, .slice ao la ca, .slice bo lb cb] W (fun e w' => e = .returned (.bool true) ∧ Below W.heap.size W w') := by
  by_cases h1 : 60 < la
  · have h1 : (60 : Int) < (la : Int) := by omega
    clear h
    go_enter Try.func10, Try.ntmps10
    go_wp2_with (go_at_call 12; refine (awake_any _).mono ?_; rintro e w1 ⟨rfl, hb1⟩)
    go_ret
    exact ⟨rfl, hb1⟩
  · by_cases h2 : 60 < lb
    · have h1 : ¬ (60 : Int) < (la : Int) := by omega
      have h2 : (60 : Int) < (lb : Int) := by omega
      clear h
      go_enter Try.func10, Try.ntmps10
      go_wp2_with (go_at_call 12; refine (awake_any _).mono ?_; rintro e w1 ⟨rfl, hb1⟩)
      go_ret
      exact ⟨rfl, hb1⟩
    · have h3 : ¬ Right l f := by rcases h with h | h | h <;> first | exact h | omega
      have h1 : ¬ (60 : Int) < (la : Int) := by omega
      have h2 : ¬ (60 : Int) < (lb : Int) := by omega
      clear h
      go_enter Try.func10, Try.ntmps10
      go_wp2_with (first | (go_at_call 12; refine (awake_any _).mono ?_; rintro e w1 ⟨rfl, hb1⟩) | (go_at_call 17; refine (right_no l f _ h3).mono ?_; rintro e w0 ⟨rfl, hw0⟩; subst hw0))
      go_ret
      exact ⟨rfl, hb1⟩
end Go.Proofs.Ythjmiimkplhffaa

/- Plain mathematics for the document's digest: a list of nodes with one more count, the parents at a depth, one step up. -/
set_option linter.unusedVariables false
set_option linter.unusedSimpArgs false
namespace Go.Proofs.Ythjmiimkplhffaa

/-- the count of one node laid anew -/
def updI (c : Int → Int) (k v : Int) : Int → Int := fun q => if q = k then v else c q
theorem good_updI {L : Nat} {c : Int → Int} {k v : Int} (h : Good L c) (h1 : 1 ≤ k) (h2 : k < 2 ^ (L + 1)) (h3 : 0 ≤ v) : Good L (updI c k v) := by
  refine ⟨fun q => ?_, fun q hq => ?_⟩
  · unfold updI; split
    · exact h3
    · exact h.1 q
  · unfold updI at hq
    split at hq
    · subst_vars; exact ⟨h1, h2⟩
    · exact h.2 q hq
theorem updI_climb {c : Int → Int} {p : Int} (hp : 1 ≤ p) : updI (updI (updI c (2 * p) 0) (2 * p + 1) 0) p (c p + c (2 * p) + c (2 * p + 1)) = climbF c p := by
  funext q
  unfold updI climbF
  by_cases h1 : q = p
  · rw [if_pos h1, if_pos h1]
  · rw [if_neg h1, if_neg h1]
    by_cases h2 : q = 2 * p + 1
    · rw [if_pos h2, if_pos (.inr h2)]
    · rw [if_neg h2]
      by_cases h3 : q = 2 * p
      · rw [if_pos h3, if_pos (.inl h3)]
      · rw [if_neg h3, if_neg (by omega)]
theorem updI_leaf (c : Int → Int) (k m : Int) : updI c k (c k + m) = fun q => c q + if q = k then m else 0 := by
  funext q
  unfold updI
  split
  · subst_vars; rfl
  · omega

/-- has a node with at least that number been met? -/
def putW (id : Int) (zs : List (Int × Int)) : Bool := zs.any (fun z => decide (id ≤ z.1))
def outW (id cnt : Int) (zs : List (Int × Int)) : List (Int × Int) := zs.filter (fun z => decide (z.1 < id)) ++ (if putW id zs = true ∧ 0 < cnt then [(id, cnt)] else []) ++ zs.filter (fun z => decide (id < z.1))
def withL (id cnt : Int) (zs : List (Int × Int)) : List (Int × Int) := zs.filter (fun z => decide (z.1 < id)) ++ (if 0 < cnt then [(id, cnt)] else []) ++ zs.filter (fun z => decide (id < z.1))

theorem putW_nil (id : Int) : putW id [] = false := rfl
theorem outW_nil (id cnt : Int) : outW id cnt [] = [] := by unfold outW; simp [putW_nil]
theorem putW_snoc (id : Int) (zs : List (Int × Int)) (x : Int × Int) : putW id (zs ++ [x]) = (putW id zs || decide (id ≤ x.1)) := by unfold putW; simp
theorem none_up {id : Int} {zs : List (Int × Int)} (h : putW id zs = false) : zs.filter (fun z => decide (id < z.1)) = [] := by
  rw [List.filter_eq_nil_iff]
  intro z hz
  unfold putW at h
  rw [List.any_eq_false] at h
  have := h z hz
  simp at this ⊢
  omega
theorem some_up {id : Int} {zs : List (Int × Int)} {x : Int × Int} (h : putW id zs = true) (hs : ∀ z ∈ zs, z.1 < x.1) : id < x.1 := by
  unfold putW at h
  rw [List.any_eq_true] at h
  obtain ⟨z, hz, h1⟩ := h
  have := hs z hz
  simp at h1
  omega
theorem out_put {id cnt : Int} {zs : List (Int × Int)} {x : Int × Int} (h : putW id zs = true) (hs : ∀ z ∈ zs, z.1 < x.1) : outW id cnt (zs ++ [x]) = outW id cnt zs ++ [x] := by
  have h1 := some_up h hs
  unfold outW
  rw [putW_snoc, h, List.filter_append, List.filter_append]
  simp [show ¬ x.1 < id by omega, h1]
theorem out_less {id cnt : Int} {zs : List (Int × Int)} {x : Int × Int} (h : putW id zs = false) (hx : x.1 < id) : outW id cnt (zs ++ [x]) = outW id cnt zs ++ [x] := by
  have h1 := none_up h
  unfold outW
  rw [putW_snoc, h, List.filter_append, List.filter_append, h1]
  simp [hx, show ¬ id ≤ x.1 by omega, show ¬ id < x.1 by omega]
theorem out_first {id cnt : Int} {zs : List (Int × Int)} {x : Int × Int} (h : putW id zs = false) (hx : id ≤ x.1) : outW id cnt (zs ++ [x]) = (outW id cnt zs ++ if 0 < cnt then [(id, cnt)] else []) ++ (if x.1 = id then [] else [x]) := by
  have h1 := none_up h
  unfold outW
  rw [putW_snoc, h, List.filter_append, List.filter_append, h1]
  by_cases g : x.1 = id
  · simp [show ¬ x.1 < id by omega, show ¬ id < x.1 by omega, hx, g]
  · simp [show ¬ x.1 < id by omega, show id < x.1 by omega, hx, g]
theorem out_end_put {id cnt : Int} {zs : List (Int × Int)} (h : putW id zs = true) : outW id cnt zs = withL id cnt zs := by
  unfold outW withL
  simp [h]
theorem out_end {id cnt : Int} {zs : List (Int × Int)} (h : putW id zs = false) : (outW id cnt zs ++ if 0 < cnt then [(id, cnt)] else []) = withL id cnt zs := by
  unfold outW withL
  rw [none_up h]
  simp [h]
theorem outW_len (id cnt : Int) (zs : List (Int × Int)) : (outW id cnt zs).length ≤ 2 * zs.length + 1 := by
  have h1 := List.length_filter_le (fun z : Int × Int => decide (z.1 < id)) zs
  have h2 := List.length_filter_le (fun z : Int × Int => decide (id < z.1)) zs
  unfold outW
  rw [List.length_append, List.length_append]
  split
  · simp only [List.length_cons, List.length_nil]; omega
  · simp only [List.length_nil]; omega

/-- two ascending lists of nodes with the same members are the same -/
theorem rise_pairs : ∀ {l m : List (Int × Int)}, l.Pairwise (fun a b => a.1 < b.1) → m.Pairwise (fun a b => a.1 < b.1) → (∀ x, x ∈ l ↔ x ∈ m) → l = m
  | [], [], _, _, _ => rfl
  | [], b :: m, _, _, h => absurd ((h b).2 List.mem_cons_self) (by simp)
  | a :: l, [], _, _, h => absurd ((h a).1 List.mem_cons_self) (by simp)
  | a :: l, b :: m, hl, hm, h => by
    have h1 := List.pairwise_cons.1 hl
    have h2 := List.pairwise_cons.1 hm
    have e : a = b := by
      rcases List.mem_cons.1 ((h a).1 List.mem_cons_self) with e | e
      · exact e
      · rcases List.mem_cons.1 ((h b).2 List.mem_cons_self) with g | g
        · exact g.symm
        · have := h1.1 b g; have := h2.1 a e; omega
    subst e
    congr 1
    refine rise_pairs h1.2 h2.2 (fun x => ⟨fun hx => ?_, fun hx => ?_⟩)
    · rcases List.mem_cons.1 ((h x).1 (List.mem_cons_of_mem _ hx)) with e | e
      · subst e; have := h1.1 x hx; omega
      · exact e
    · rcases List.mem_cons.1 ((h x).2 (List.mem_cons_of_mem _ hx)) with e | e
      · subst e; have := h2.1 x hx; omega
      · exact e

theorem mem_nodes {L : Nat} {c : Int → Int} (hg : Good L c) (z : Int × Int) : z ∈ nodesL L c ↔ c z.1 ≠ 0 ∧ z.2 = c z.1 := by
  unfold nodesL
  rw [List.mem_map]
  constructor
  · rintro ⟨q, hq, rfl⟩; exact ⟨(mem_ids hg q).1 hq, rfl⟩
  · rintro ⟨h1, h2⟩; exact ⟨z.1, (mem_ids hg _).2 h1, by rw [← h2]⟩
theorem nodes_rise (L : Nat) (c : Int → Int) : (nodesL L c).Pairwise (fun a b => a.1 < b.1) := by
  unfold nodesL
  rw [List.pairwise_map]
  exact ids_rise L c
theorem with_nodes {L : Nat} {c : Int → Int} {k v : Int} (hg : Good L c) (h1 : 1 ≤ k) (h2 : k < 2 ^ (L + 1)) (h3 : 0 ≤ v) : withL k v (nodesL L c) = nodesL L (updI c k v) := by
  have hr := nodes_rise L c
  refine rise_pairs ?_ (nodes_rise _ _) (fun x => ?_)
  · unfold withL
    rw [List.append_assoc, List.pairwise_append]
    refine ⟨hr.filter _, ?_, fun a ha b hb => ?_⟩
    · rw [List.pairwise_append]
      refine ⟨by split <;> simp, hr.filter _, fun a ha b hb => ?_⟩
      split at ha
      · obtain rfl := List.mem_singleton.1 ha
        have := (List.mem_filter.1 hb).2
        simpa using this
      · simp at ha
    · have h4 := (List.mem_filter.1 ha).2
      have h4 : a.1 < k := by simpa using h4
      rcases List.mem_append.1 hb with g | g
      · split at g
        · obtain rfl := List.mem_singleton.1 g; exact h4
        · simp at g
      · have h5 := (List.mem_filter.1 g).2
        have h5 : k < b.1 := by simpa using h5
        omega
  · rw [mem_nodes (good_updI hg h1 h2 h3)]
    unfold withL updI
    rw [List.mem_append, List.mem_append, List.mem_filter, List.mem_filter, mem_nodes hg]
    by_cases e : x.1 = k
    · rw [if_pos e]
      have e1 : ¬ x.1 < k := by omega
      have e2 : ¬ k < x.1 := by omega
      simp only [e1, e2, decide_false, and_false, false_or, or_false, Bool.false_eq_true]
      split
      · rw [List.mem_singleton]
        constructor
        · rintro rfl; exact ⟨by omega, rfl⟩
        · rintro ⟨_, h⟩; rw [← e, ← h]
      · constructor
        · intro h; simp at h
        · rintro ⟨h, _⟩; omega
    · rw [if_neg e]
      have e3 : x ∉ (if 0 < v then [(k, v)] else ([] : List (Int × Int))) := by
        split
        · rw [List.mem_singleton]; rintro rfl; exact e rfl
        · simp
      constructor
      · rintro ((⟨h, _⟩ | h) | ⟨h, _⟩)
        · exact h
        · exact absurd h e3
        · exact h
      · intro h
        by_cases g : x.1 < k
        · exact .inl (.inl ⟨h, by simpa using g⟩)
        · exact .inr ⟨h, by simp; omega⟩

theorem snocRec {α : Type} {motive : List α → Prop} (nil : motive []) (snoc : ∀ (l : List α) (x : α), motive l → motive (l ++ [x])) (l : List α) : motive l := by
  rw [← List.reverse_reverse l]
  generalize l.reverse = r
  induction r with
  | nil => exact nil
  | cons a r ih => rw [List.reverse_cons]; exact snoc _ _ ih

/-- the parents of the nodes at one depth -/
def stepP (lo hi : Int) (ps : List Int) (q : Int) : List Int := if lo ≤ q ∧ q < hi ∧ (ps = [] ∨ ps.getLast?.getD 0 ≠ q / 2) then ps ++ [q / 2] else ps
def parL (lo hi : Int) (qs : List Int) : List Int := qs.foldl (stepP lo hi) []
theorem parL_snoc (lo hi : Int) (qs : List Int) (q : Int) : parL lo hi (qs ++ [q]) = stepP lo hi (parL lo hi qs) q := by unfold parL; simp
theorem parL_len (lo hi : Int) (qs : List Int) : (parL lo hi qs).length ≤ qs.length := by
  induction qs using snocRec with
  | nil => exact Nat.le_refl _
  | snoc qs q ih =>
    rw [parL_snoc]
    unfold stepP
    split
    · simp; omega
    · simp; omega

structure ParOk (d : Nat) (qs ps : List Int) : Prop where
  at_ : ∀ p ∈ ps, At d p ∧ ∃ q ∈ qs, At (d + 1) q ∧ q / 2 = p
  all : ∀ q ∈ qs, At (d + 1) q → q / 2 ∈ ps
  rise : ps.Pairwise (· < ·)
  last : ∀ p, ps.getLast? = some p → ∀ x ∈ ps, x ≤ p
theorem par_ok (d : Nat) (qs : List Int) (h : qs.Pairwise (· < ·)) : ParOk d qs (parL (2 ^ (d + 1)) (2 ^ (d + 1 + 1)) qs) := by
  induction qs using snocRec with
  | nil => exact ⟨by simp [parL], by simp, by simp [parL], by simp [parL]⟩
  | snoc qs q ih =>
    rw [List.pairwise_append] at h
    have ih := ih h.1
    have hq : ∀ x ∈ qs, x < q := fun x hx => h.2.2 x hx q List.mem_cons_self
    rw [parL_snoc]
    generalize parL (2 ^ (d + 1)) (2 ^ (d + 1 + 1)) qs = ps at ih ⊢
    unfold stepP
    have hle : ∀ p ∈ ps, p ≤ q / 2 := fun p hp => by
      obtain ⟨_, x, hx, _, h3⟩ := ih.at_ p hp
      have := hq x hx
      omega
    split
    · rename_i g
      have hAt : At (d + 1) q := ⟨g.1, g.2.1⟩
      have hlt : ∀ p ∈ ps, p < q / 2 := fun p hp => by
        rcases g.2.2 with e | e
        · rw [e] at hp; simp at hp
        · obtain ⟨y, hy⟩ : ∃ y, ps.getLast? = some y := by
            cases hh : ps.getLast? with
            | none => rw [List.getLast?_eq_none_iff] at hh; rw [hh] at hp; simp at hp
            | some y => exact ⟨y, rfl⟩
          rw [hy] at e
          simp only [Option.getD_some] at e
          have h1 := ih.last y hy p hp
          have h2 := hle y (List.mem_of_getLast? hy)
          omega
      refine ⟨fun p hp => ?_, fun x hx hA => ?_, ?_, fun p hp x hx => ?_⟩
      · rcases List.mem_append.1 hp with k | k
        · obtain ⟨h1, x, hx, h2⟩ := ih.at_ p k
          exact ⟨h1, x, List.mem_append_left _ hx, h2⟩
        · obtain rfl := List.mem_singleton.1 k
          exact ⟨hAt.parent, q, List.mem_append_right _ List.mem_cons_self, hAt, rfl⟩
      · rcases List.mem_append.1 hx with k | k
        · exact List.mem_append_left _ (ih.all x k hA)
        · obtain rfl := List.mem_singleton.1 k
          exact List.mem_append_right _ List.mem_cons_self
      · rw [List.pairwise_append]
        refine ⟨ih.rise, by simp, fun a ha b hb => ?_⟩
        obtain rfl := List.mem_singleton.1 hb
        exact hlt a ha
      · rw [List.getLast?_concat] at hp
        obtain rfl : q / 2 = p := by simpa using hp
        rcases List.mem_append.1 hx with k | k
        · exact hle x k
        · obtain rfl := List.mem_singleton.1 k; omega
    · rename_i g
      refine ⟨fun p hp => ?_, fun x hx hA => ?_, ih.rise, ih.last⟩
      · obtain ⟨h1, x, hx, h2⟩ := ih.at_ p hp
        exact ⟨h1, x, List.mem_append_left _ hx, h2⟩
      · rcases List.mem_append.1 hx with k | k
        · exact ih.all x k hA
        · obtain rfl := List.mem_singleton.1 k
          have h1 : ¬ (ps = [] ∨ ps.getLast?.getD 0 ≠ x / 2) := fun e => g ⟨hA.1, hA.2, e⟩
          have h2 : ps ≠ [] := fun e => h1 (.inl e)
          have h3 : ps.getLast?.getD 0 = x / 2 := Classical.byContradiction fun e => h1 (.inr e)
          cases hh : ps.getLast? with
          | none => rw [List.getLast?_eq_none_iff] at hh; exact absurd hh h2
          | some y => rw [hh] at h3; simp only [Option.getD_some] at h3; rw [← h3]; exact List.mem_of_getLast? hh

/-- between two parents of one depth -/
theorem fold_here {t : Int} {d : Nat} {ps : List Int} {p : Int} {c : Int → Int} (h : ∀ x ∈ ps, At d x) (hp : At d p) (hn : p ∉ ps) : foldF t c ps p = c p ∧ foldF t c ps (2 * p) = c (2 * p) ∧ foldF t c ps (2 * p + 1) = c (2 * p + 1) := by
  rw [fold_lvl t d ps c h]
  have e1 : 2 * p / 2 = p := by omega
  have e2 : (2 * p + 1) / 2 = p := by omega
  have c1 := hp.child
  have n1 : ∀ x ∈ ps, x ≠ 2 * p := fun x hx e => (h x hx).ne2 hp |>.1 e
  have n2 : ∀ x ∈ ps, x ≠ 2 * p + 1 := fun x hx e => (h x hx).ne2 hp |>.2 e
  unfold lvlS
  refine ⟨?_, ?_, ?_⟩
  · rw [if_neg (fun k => hn k.1), if_neg (fun k => (hp.ne3) (h _ k.1))]
  · rw [if_neg (fun k => n1 _ k.1 rfl), if_neg (fun k => hn (by rw [e1] at k; exact k.1))]
  · rw [if_neg (fun k => n2 _ k.1 rfl), if_neg (fun k => hn (by rw [e2] at k; exact k.1))]
theorem fold_snoc (t : Int) (c : Int → Int) (ps : List Int) (p : Int) : foldF t c (ps ++ [p]) = stepF t (foldF t c ps) p := by unfold foldF; simp
end Go.Proofs.Ythjmiimkplhffaa

/- The document's power, Size, Count, Unit and At. -/
set_option linter.unusedVariables false
set_option linter.unusedSimpArgs false
namespace Go.Proofs.Ythjmiimkplhffaa
open Go.RowKit Go.Maps

theorem pow_bd (n : Nat) (h : n ≤ 30) : ∀ i, i ≤ n → (1 : Int) ≤ 2 ^ i ∧ (2 : Int) ^ i ≤ 1073741824 := fun i hi => by
  have h1 : (2 : Nat) ^ i ≤ 1073741824 := Nat.le_trans (Nat.pow_le_pow_right (by omega) (by omega : i ≤ 30)) (by decide)
  have h2 : (0 : Nat) < 2 ^ i := Nat.pow_pos (by omega)
  rw [show (2 : Int) ^ i = (((2 : Nat) ^ i : Nat) : Int) from by rw [Int.natCast_pow]; rfl]
  omega
theorem power_any (n : Nat) (W : World) (h : n ≤ 30) : Calls Try.prog 58 #[.int .i64 (n : Int)] W (fun e w' => e = .returned (.int .i64 (2 ^ n)) ∧ W = w') := by
  have HB := Lib.hid (pow_bd n h)
  go_enter Try.func58, Try.ntmps58
  go_wp2
  go_loop [3, 4] (fun x i => ∃ k : Nat, k ≤ n ∧ x = .int .i64 (2 ^ k) ∧ i = .int .i64 (k : Int)) (fun _ i => n - (intOf i).toNat)
  case atStart => exact ⟨0, by omega, by rw [Int.pow_zero], rfl⟩
  case round =>
    obtain ⟨k, hk, rfl, rfl⟩ := hrel
    by_cases hlt : k < n
    · have h1 := HB.out k hk
      have HX : Hid ((2 : Int) ^ (k + 1) = 2 * 2 ^ k) := Lib.hid (by rw [Int.pow_succ]; omega)
      generalize (2 : Int) ^ k = x at h1 HX ⊢
      go_wp2
      go_round
      case rel => exact ⟨k + 1, by omega, by rw [HX.out], by go_num⟩
      case measure => simp [intOf]; omega
    · obtain rfl : k = n := by omega
      go_wp2
      go_ret
      exact ⟨rfl, rfl⟩

theorem size_any (L : Nat) (F v : Value) (W : World) (h : L ≤ 20) : Calls Try.prog 42 #[.agg #[.int .i64 (L : Int), F, v]] W (fun e w' => e = .returned (.int .i64 (2 ^ L)) ∧ Below W.heap.size W w') := by
  have HB := Lib.hid (box_below W (.cells #[.int .i64 (L : Int), F, v] 34))
  go_enter Try.func42, Try.ntmps42
  go_wp2_with (go_at_call 58; refine (power_any L _ (by omega)).mono ?_; rintro e w1 ⟨rfl, rfl⟩)
  go_ret
  exact ⟨rfl, HB.out⟩

theorem sumN_next {zs : List (Int × Int)} {k : Nat} (hk : k < zs.length) : sumN zs (k + 1) = sumN zs k + (zs[k]?.getD (0, 0)).2 := by
  unfold sumN
  rw [List.take_succ_eq_append_getElem hk, List.map_append, List.sum_append]
  simp [hk]

set_option maxHeartbeats 1000000 in
theorem refCount_any (a F : Value) (ao : Option Addr) (cap : Nat) (zs : List (Int × Int)) (W : World) (hn : Nl W ao zs.length zs) (hz : ∀ z ∈ zs, 0 ≤ z.2) (ht : (zs.map (·.2)).sum ≤ 1099511627776) (hl : zs.length ≤ 4194304) :
    Calls Try.prog 33 #[.agg #[a, F, .slice ao zs.length cap]] W (fun e w' => e = .returned (.int .i64 (zs.map (·.2)).sum) ∧ Below W.heap.size W w') := by
  have HP : Hid (∀ k, 0 ≤ sumN zs k ∧ sumN zs k ≤ 1099511627776) := Lib.hid (fun k => by have := sum_take_le zs hz k; omega)
  have HE : Hid ((zs.map (·.2)).sum = sumN zs zs.length) := Lib.hid (by unfold sumN; rw [List.take_of_length_le (Nat.le_refl _)])
  rw [HE.out]
  have HB := Lib.hid (box_below W (.cells #[a, F, .slice ao zs.length cap] 34))
  have HN := Lib.hid (hn.keep (box_below W (.cells #[a, F, .slice ao zs.length cap] 34)))
  clear hn hz ht HE
  go_enter Try.func33, Try.ntmps33
  go_upto_region 1 with fail
  have R := cells_new W #[a, F, .slice ao zs.length cap] 34
  generalize W.alloc (.cells #[a, F, .slice ao zs.length cap] 34) = V at HB HN R ⊢
  generalize W.heap.size = B at R ⊢
  have r2 := (three_cells R).2.2.1
  clear R
  go_wp2_with fail
  go_loop [3, 4] (fun n i => ∃ k : Nat, k ≤ zs.length ∧ n = .int .i64 (sumN zs k) ∧ i = .int .i64 (k : Int)) (fun _ i => zs.length - (intOf i).toNat)
  case atStart => exact ⟨0, by omega, rfl, rfl⟩
  case round =>
    obtain ⟨k, hk, rfl, rfl⟩ := hrel
    by_cases hlt : k < zs.length
    · obtain ⟨b, rfl, hn1⟩ := HN.out.at (by omega)
      have q1 := (hn1 k hlt).2
      have HX := Lib.hid (sumN_next hlt)
      have b1 := HP.out k
      have b2 := HP.out (k + 1)
      rw [HX.out] at b2
      generalize (zs[k]?.getD (0, 0)).2 = z at q1 HX b2
      generalize sumN zs k = s at b1 b2 HX ⊢
      clear hn1
      go_wp2
      go_round
      case rel => exact ⟨k + 1, by omega, by rw [HX.out], by go_num⟩
      case measure => simp [intOf]; omega
    · obtain rfl : k = zs.length := by omega
      go_wp2
      go_ret
      exact ⟨rfl, HB.out⟩

set_option maxHeartbeats 1000000 in
theorem refAt_any (a F : Value) (ao : Option Addr) (cap : Nat) (L : Nat) (c : Int → Int) (id : Int) (zs : List (Int × Int)) (W : World) (hz : zs = nodesL L c) (hg : Good L c) (hn : Nl W ao zs.length zs) (hl : zs.length ≤ 4194304) :
    Calls Try.prog 47 #[.agg #[a, F, .slice ao zs.length cap], .int .i64 id] W (fun e w' => e = .returned (.int .i64 (c id)) ∧ Below W.heap.size W w') := by
  have HNO : Hid ((∀ j, j < zs.length → (zs[j]?.getD (0, 0)).1 ≠ id) → c id = 0) := Lib.hid (fun h => Classical.byContradiction fun g => by
    have hm : (id, c id) ∈ zs := by rw [hz]; exact (mem_nodes hg _).2 ⟨g, rfl⟩
    obtain ⟨j, hj, he⟩ := List.mem_iff_getElem.1 hm
    refine h j hj ?_
    simp [hj, he])
  have HYES : Hid (∀ j, j < zs.length → (zs[j]?.getD (0, 0)).1 = id → (zs[j]?.getD (0, 0)).2 = c id) := Lib.hid (fun j hj he => by
    have hm : zs[j]?.getD (0, 0) ∈ zs := by simp [hj]
    rw [hz] at hm
    have := ((mem_nodes hg _).1 hm).2
    rw [← hz, he] at this
    exact this)
  obtain ⟨v, hv⟩ : ∃ v, v = c id := ⟨_, rfl⟩
  rw [← hv] at HNO HYES ⊢
  clear hv
  have HB := Lib.hid (box_below W (.cells #[a, F, .slice ao zs.length cap] 34))
  have HN := Lib.hid (hn.keep (box_below W (.cells #[a, F, .slice ao zs.length cap] 34)))
  clear hn hz hg
  go_enter Try.func47, Try.ntmps47
  go_upto_region 1 with fail
  have R := cells_new W #[a, F, .slice ao zs.length cap] 34
  generalize W.alloc (.cells #[a, F, .slice ao zs.length cap] 34) = V at HB HN R ⊢
  generalize W.heap.size = B at R ⊢
  have r2 := (three_cells R).2.2.1
  clear R
  go_wp2_with fail
  go_loop [5] (fun i => ∃ k : Nat, k ≤ zs.length ∧ i = .int .i64 (k : Int) ∧ Hid (∀ j, j < k → (zs[j]?.getD (0, 0)).1 ≠ id)) (fun i => zs.length - (intOf i).toNat)
  case atStart => exact ⟨0, by omega, rfl, Lib.hid (fun j hj => by omega)⟩
  case round =>
    obtain ⟨k, hk, rfl, HK⟩ := hrel
    by_cases hlt : k < zs.length
    · obtain ⟨b, rfl, hn1⟩ := HN.out.at (by omega)
      have q0 := (hn1 k hlt).1
      have q1 := (hn1 k hlt).2
      have HY := Lib.hid (HYES.out k hlt)
      have HK2 : Hid ((zs[k]?.getD (0, 0)).1 ≠ id → ∀ j, j < k + 1 → (zs[j]?.getD (0, 0)).1 ≠ id) := Lib.hid (fun g j hj => by
        by_cases e : j = k
        · subst e; exact g
        · exact HK.out j (by omega))
      generalize (zs[k]?.getD (0, 0)).1 = z1 at q0 HY HK2
      generalize (zs[k]?.getD (0, 0)).2 = z2 at q1 HY
      clear hn1
      by_cases he : z1 = id
      · obtain rfl := HY.out he
        subst he
        clear HY HK2
        go_wp2
        go_ret
        exact ⟨rfl, HB.out⟩
      · have he1 : ((z1 : Int) == id) = false := by simpa using he
        go_wp2
        go_round
        case rel => exact ⟨k + 1, by omega, by go_num, Lib.hid (HK2.out he)⟩
        case measure => simp [intOf]; omega
    · obtain rfl : k = zs.length := by omega
      obtain rfl := HNO.out HK.out
      go_wp2
      go_ret
      exact ⟨rfl, HB.out⟩
end Go.Proofs.Ythjmiimkplhffaa

/- DigestSmall. -/
set_option linter.unusedVariables false
set_option linter.unusedSimpArgs false
namespace Go.Proofs.Ythjmiimkplhffaa
open Go.RowKit Go.Maps

set_option maxRecDepth 100000 in
set_option maxHeartbeats 4000000 in
theorem small_early (l f : Int) (ao : Option Addr) (la ca : Nat) (W : World) (h : 100 < la ∨ ¬ Right l f) (hla : la ≤ 9223372036854775807) :
    Calls Try.prog 9 #[.int .i64 l, .int .i64 f, .slice ao la ca] W (fun e w' => e = .returned (.bool true) ∧ Below W.heap.size W w') := by
  by_cases h1 : 100 < la
  · have h1 : (100 : Int) < (la : Int) := by omega
    clear h
    go_enter Try.func9, Try.ntmps9
    go_wp2_with (go_at_call 12; refine (awake_any _).mono ?_; rintro e w1 ⟨rfl, hb1⟩)
    go_ret
    exact ⟨rfl, hb1⟩
  · have h3 : ¬ Right l f := by rcases h with h | h <;> first | exact h | omega
    have h1 : ¬ (100 : Int) < (la : Int) := by omega
    clear h
    go_enter Try.func9, Try.ntmps9
    go_wp2_with (first | (go_at_call 12; refine (awake_any _).mono ?_; rintro e w1 ⟨rfl, hb1⟩) | (go_at_call 17; refine (right_no l f _ h3).mono ?_; rintro e w0 ⟨rfl, hw0⟩; subst hw0))
    go_ret
    exact ⟨rfl, hb1⟩

set_option maxRecDepth 100000 in
set_option maxHeartbeats 8000000 in
theorem small_main (L : Nat) (F : Int) (ao : Option Addr) (la ca : Nat) (xs : List (Int × Int)) (W : World) (hR : Right L F) (hs : Al W ao la xs) (h1 : la ≤ 100) :
    Calls Try.prog 9 #[.int .i64 (L : Int), .int .i64 F, .slice ao la ca] W (fun e w' => e = .returned (.bool true) ∧ Below W.heap.size W w') := by
  have HS := Lib.hid hs
  have g1 : ¬ (100 : Int) < (la : Int) := by omega
  have HXL := Lib.hid hs.1
  clear hs
  go_enter Try.func9, Try.ntmps9
  go_wp2_with (go_at_call 17; refine (right_yes _ _ _ hR).mono ?_; rintro e w0 ⟨rfl, hw0⟩; subst hw0)
  refine (built_any L F ao la ca xs _ hR HS.out (by omega)).mono ?_
  rintro e w1 ⟨ta, c, dn, va, rfl, hd, hmade, hrow, hb1⟩
  have HB := Lib.hid hb1
  have DA := Lib.hid hd
  have MA := Lib.hid hmade
  obtain ⟨ad, cd, rfl, hcd, had⟩ := al_of_row hrow
  have AD := Lib.hid had
  clear hd hb1 hmade hrow had HS
  go_upto_region 4 with fail
  have K := box_below w1 (.cells #[.int .i64 (L : Int), .int .i64 F, .pointer (some ⟨ta, 0, none⟩)] 28)
  have RA := Lib.hid (cells_new w1 #[.int .i64 (L : Int), .int .i64 F, .pointer (some ⟨ta, 0, none⟩)] 28)
  replace HB := Lib.hid (HB.out.trans (K.mono HB.out.size))
  replace DA := Lib.hid (DA.out.keep K)
  replace AD := Lib.hid (AD.out.keep K)
  clear K
  generalize w1.alloc (.cells #[.int .i64 (L : Int), .int .i64 F, .pointer (some ⟨ta, 0, none⟩)] 28) = V1 at HB DA AD RA ⊢
  generalize w1.heap.size = A at RA ⊢
  have a0 := (three_cells RA.out).1
  have a1 := (three_cells RA.out).2.1
  have a2 := (three_cells RA.out).2.2.1
  go_wp2_with fail
  refine (count_any ta L F c _ DA.out).mono ?_
  rintro e w2 ⟨rfl, hb2⟩
  replace HB := Lib.hid (HB.out.trans (hb2.mono HB.out.size))
  replace AD := Lib.hid (AD.out.keep hb2)
  replace DA := Lib.hid (DA.out.keep hb2)
  replace RA := Lib.hid (row_keep hb2 RA.out)
  clear hb2 a0 a1 a2
  have a0 := (three_cells RA.out).1
  have a1 := (three_cells RA.out).2.1
  have a2 := (three_cells RA.out).2.2.1
  go_wp2_with fail
  refine (nodesD_any ta L F c _ DA.out).mono ?_
  rintro e w3 ⟨bo, cap, rfl, hcm, hnl, hb3⟩
  have HBL := Lib.hid ((HB.out.trans (hb3.mono HB.out.size)))
  replace AD := Lib.hid (AD.out.keep hb3)
  have NL := Lib.hid hnl
  have HOK : Hid (NodesOk L F (tot L c) (nodesL L c)) := Lib.hid (by
    obtain ⟨mb, _, _, _, hr, hg, _, hs⟩ := DA.out
    exact nodes_ok hr.2.2.1 hg hs (MA.out.cap hr.2.2.1).1)
  have hzl : (nodesL L c).length ≤ 2097152 := by
    have := Nat.le_trans (ids_len L c) (sz_le (by have := hR.2.1; omega))
    unfold nodesL
    simpa using this
  have htt : 0 ≤ tot L c ∧ tot L c ≤ 1099511627776 := by
    obtain ⟨mb, _, _, _, hr, hg, ht, hs⟩ := DA.out
    exact ⟨(MA.out.cap hr.2.2.1).2, ht⟩
  have LESS : Hid (∀ w', Below w3.heap.size w3 w' → Calls Try.prog 30 #[.slice ad dn.length cd, .int .i64 1048576] w' (fun e w'' => e = .returned (.int .i64 (tot L c)) ∧ w'' = w')) := Lib.hid (fun w' hb => by
    have h := less_any 1048576 ad dn.length cd dn w' (AD.out.keep hb) (by have h1 := MA.out.len; have h2 := HXL.out; omega) (fun x hx => by have := (MA.out.vals x hx).2.2; omega) (by rw [MA.out.times]; exact htt.2)
    rw [less_made (by have := hR.2.1; omega) MA.out] at h
    exact h)
  clear hnl hb3 a0 a1 a2 DA RA AD HB MA HXL
  generalize tot L c = tt at HOK htt LESS ⊢
  generalize nodesL L c = zs at HOK NL hzl ⊢
  have HPB := Lib.hid (pow_bd L (by have := hR.2.1; omega))
  have hL2 : (L : Int) ≤ 20 := hR.2.1
  have hF1 : 1 ≤ F := hR.2.2.1
  have hF2 : F ≤ 1000 := hR.2.2.2
  clear hR
  go_wp2_with fail
  go_loop [12, 13] (fun t12 t13 => ∃ i : Nat, i ≤ L ∧ t12 = .int .i64 (2 ^ i) ∧ t13 = .int .i64 (i : Int)) (fun _ t13 => L - (intOf t13).toNat)
  case atStart => exact ⟨0, by omega, by rw [Int.pow_zero], rfl⟩
  case round =>
    obtain ⟨i, hi, rfl, rfl⟩ := hrel
    by_cases hlt : i < L
    · have h1 := HPB.out i hi
      have HX : Hid ((2 : Int) ^ (i + 1) = 2 * 2 ^ i) := Lib.hid (by rw [Int.pow_succ]; omega)
      generalize (2 : Int) ^ i = x at h1 HX ⊢
      go_wp2
      go_round
      case rel => exact ⟨i + 1, by omega, by rw [HX.out], by go_num⟩
      case measure => simp [intOf]; omega
    · obtain rfl : i = L := by omega
      have h1 := HPB.out i (Nat.le_refl _)
      generalize hlf : (2 : Int) ^ i = lf at h1 ⊢
      have HLF := Lib.hid hlf
      clear hlf HPB
      go_wp2_with fail
      go_loopg [14, 15, 16] (zs.length + 1) (fun g t14 t15 t16 wr => ∃ k : Nat, t14 = .int .i64 (sumN zs k) ∧ t15 = .int .i64 (lastN zs k) ∧ t16 = .int .i64 (k : Int) ∧ k ≤ zs.length ∧ k + g = zs.length + 1 ∧ Hid (Below w3.heap.size w3 wr))
      case atStart => exact ⟨0, rfl, rfl, rfl, by omega, by omega, Lib.hid (Below.refl _ _)⟩
      case round =>
        obtain ⟨k, rfl, rfl, rfl, hk, hg, HW⟩ := hrel
        by_cases hlt2 : k < zs.length
        · obtain ⟨b, rfl, hn1⟩ := NL.out.at (by omega)
          have q0 := cell_later HW.out (hn1 k hlt2).1
          have q1 := cell_later HW.out (hn1 k hlt2).2
          obtain ⟨n0, n1, n2, n3, n4⟩ := HOK.out.node k hlt2
          have s1 := HOK.out.part k
          have s2 := HOK.out.part (k + 1)
          have HX := Lib.hid (HOK.out.next k hlt2)
          have HLN : Hid (lastN zs (k + 1) = (zs[k]?.getD (0, 0)).1) := Lib.hid rfl
          rw [HX.out] at s2
          rw [HLF.out] at n2 n4
          generalize (zs[k]?.getD (0, 0)).1 = z1 at q0 n1 n2 n4 HLN
          generalize (zs[k]?.getD (0, 0)).2 = z2 at q1 n3 n4 s2 HX
          generalize sumN zs k = s at s1 s2 HX ⊢
          generalize lastN zs k = ls at n0 n1 ⊢
          have d1 : decide (z1 ≤ ls) = false := by simp; omega
          have d2 : decide (2 * lf ≤ z1) = false := by simp; omega
          have d3 : decide (z2 < 1) = false := by simp; omega
          have HQ : Hid (tt.tdiv F = tt / F) := Lib.hid (Int.tdiv_eq_ediv_of_nonneg htt.1)
          have hltk : (k : Int) < (zs.length : Int) := by omega
          clear hn1
          by_cases hin : z1 < lf
          · have d4 : decide (z1 < lf) = true := by simpa using hin
            have n5 := n4 hin
            have d5 : decide (tt / F < z2) = false := by simp; omega
            have d6 : decide (tt.tdiv F < z2) = false := by rw [HQ.out]; exact d5
            clear n4
            go_upto_region 16 with fail
            go_quiet (fail)
            go_wp2_with fail
            go_roundg (gk - 1)
            case measure => omega
            case rel => exact ⟨k + 1, by rw [HX.out], by rw [HLN.out], by go_num, by omega, by omega, Lib.hid (below_drewN (below_then HW.out (box_below wr _)) _)⟩
          · have d4 : decide (z1 < lf) = false := by simpa using hin
            clear n4
            go_upto_region 16 with fail
            go_quiet (fail)
            go_wp2_with fail
            go_roundg (gk - 1)
            case measure => omega
            case rel => exact ⟨k + 1, by rw [HX.out], by rw [HLN.out], by go_num, by omega, by omega, Lib.hid (below_drewN (below_then HW.out (box_below wr _)) _)⟩
        · obtain rfl : k = zs.length := by omega
          have hfew := HOK.out.few
          have d1 : decide ((zs.length : Int) ≤ 4 * F) = true := by simpa using hfew
          rw [HOK.out.all]
          go_wp2_with (first | (go_at_call 30; refine (LESS.out _ HW.out).mono ?_; rintro e w4 ⟨rfl, hw4⟩; subst hw4) | (go_at_call 12; refine (awake_any _).mono ?_; rintro e w5 ⟨rfl, hb5⟩))
          go_ret
          exact ⟨rfl, HBL.out.trans ((below_then HW.out hb5).mono HBL.out.size)⟩

theorem small_walk (l f : Int) (ao : Option Addr) (la ca : Nat) (xs : List (Int × Int)) (W : World) (hs : Al W ao la xs) (hla : la ≤ 9223372036854775807) :
    Calls Try.prog 9 #[.int .i64 l, .int .i64 f, .slice ao la ca] W (fun e w' => e = .returned (.bool true) ∧ Below W.heap.size W w') := by
  by_cases h : 100 < la ∨ ¬ Right l f
  · exact small_early l f ao la ca W h hla
  · have h1 : la ≤ 100 := Nat.le_of_not_lt fun g => h (.inl g)
    have h3 : Right l f := Classical.byContradiction fun g => h (.inr g)
    obtain ⟨L, rfl⟩ := Int.eq_ofNat_of_zero_le (show 0 ≤ l by have := h3.1; omega)
    exact small_main L f ao la ca xs W h3 hs h1
end Go.Proofs.Ythjmiimkplhffaa
