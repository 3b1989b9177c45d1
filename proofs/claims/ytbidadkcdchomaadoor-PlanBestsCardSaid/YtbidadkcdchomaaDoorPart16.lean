/- Part 16 of the contracts: PMore, PSearchM, LWork, PlanLeastW. -/
import Derived.BigQuiet
import Derived.Deep.RegionHeld3
import Derived.OrdersHeld
import Derived.Test.YtbidadkcdchomaaDoorPart15

/- More vessels, fewer batches, later batches: what stays feasible. No function of the program is walked here. -/
set_option linter.unusedVariables false
set_option linter.unusedSimpArgs false
namespace Go.Proofs.YtbidadkcdchomaaDoor
open Go.RowKit

/-! ### a vessel more -/
def plusV (vn : List Nat) (k : Nat) : List Nat := vn.set k (vn[k]! + 1)
theorem plusV_len (vn : List Nat) (k : Nat) : (plusV vn k).length = vn.length := by simp [plusV]
theorem plusV_le (vn : List Nat) (k j : Nat) : vn[j]! ≤ (plusV vn k)[j]! := by
  unfold plusV
  by_cases h : k = j
  · subst h
    by_cases hk : k < vn.length
    · rw [get_set_eq _ _ _ hk]; omega
    · rw [getElem!_neg vn k hk]; exact Nat.zero_le _
  · rw [get_set_ne _ _ _ _ h]; exact Nat.le_refl _
section
variable {vn : List Nat} {bn : List BN} {n k : Nat}
theorem TaskN.more (hT : TaskN vn bn) (hk : k < vn.length) (h8 : vn[k]! + 1 ≤ 8) : TaskN (plusV vn k) bn := by
  have hl := plusV_len vn k
  refine ⟨⟨by rw [hl]; exact hT.house.few, fun j hj => ?_⟩, by rw [hl]; exact hT.some, hT.few, hT.rdy, fun i hi => by rw [hl]; exact hT.len i hi, fun i hi j hj => hT.tm i hi j (by rw [hl] at hj; exact hj)⟩
  rw [hl] at hj
  have h1 := hT.house.one j hj
  unfold plusV
  by_cases e : k = j
  · subst e
    rw [get_set_eq _ _ _ hk]; omega
  · rw [get_set_ne _ _ _ _ e]; exact h1
theorem FeasF.more {e : Nat} {f : Nat → Nat} (h : FeasF vn bn e n f) (k : Nat) : FeasF (plusV vn k) bn e n f :=
  ⟨h.inr, fun j hj t => Nat.le_trans (h.cnt j (by rw [plusV_len] at hj; exact hj) t) (plusV_le vn k j)⟩
theorem FeasP.more {e : Int} {zs : List Int} {rs : List (List Int)} (h : FeasP vn bn e zs rs) (k : Nat) : FeasP (plusV vn k) bn e zs rs := by
  refine ⟨h.ls, h.lr, h.st, fun i hi => ?_, h.cl, h.en⟩
  obtain ⟨h1, h2⟩ := h.ve i hi
  refine ⟨by rw [vI_len, plusV_len]; rw [vI_len] at h1; exact h1, fun j hj => ?_⟩
  have := h2 j hj
  rw [vI_get] at this ⊢
  have := plusV_le vn k j
  omega
/-! ### a batch less -/
theorem take_get (m i : Nat) (hi : i < m) (bn : List BN) : (bn.take m)[i]! = bn[i]! := by
  by_cases h : i < bn.length
  · rw [getElem!_pos _ i (by rw [List.length_take]; omega), getElem!_pos bn i h, List.getElem_take]
  · rw [getElem!_neg _ i (by rw [List.length_take]; omega), getElem!_neg bn i h]
theorem TaskN.less (hT : TaskN vn bn) (m : Nat) : TaskN vn (bn.take m) := by
  have hl : ∀ i, i < (bn.take m).length → i < m ∧ i < bn.length := fun i hi => by rw [List.length_take] at hi; omega
  refine ⟨hT.house, hT.some, by rw [List.length_take]; have := hT.few; omega, fun i hi => ?_, fun i hi => ?_, fun i hi => ?_⟩
  · rw [take_get m i (hl i hi).1]; exact hT.rdy i (hl i hi).2
  · rw [take_get m i (hl i hi).1]; exact hT.len i (hl i hi).2
  · rw [take_get m i (hl i hi).1]; exact hT.tm i (hl i hi).2
theorem FeasF.less {e : Nat} {f : Nat → Nat} (h : FeasF vn bn e n f) {m : Nat} (hm : m ≤ n) : FeasF vn (bn.take m) e m f := by
  refine ⟨fun i hi => by rw [take_get m i hi]; exact h.inr i (by omega), fun j hj t => Nat.le_trans ?_ (h.cnt j hj t)⟩
  unfold cntF
  have e1 : (List.range m).countP (fun i => inN (bn.take m)[i]! (f i) j t) = (List.range m).countP (fun i => inN bn[i]! (f i) j t) := List.countP_congr fun i hi => by
    rw [take_get m i (List.mem_range.1 hi)]
  rw [e1]
  exact List.Sublist.countP_le (List.range_sublist.2 hm)
end
/-! ### all batches later -/
def laterN (bn : List BN) (d : Nat) : List BN := bn.map fun b => ⟨b.rdy + d, b.tm⟩
theorem laterN_len (bn : List BN) (d : Nat) : (laterN bn d).length = bn.length := by simp [laterN]
theorem laterN_at {bn : List BN} {i : Nat} (d : Nat) (hi : i < bn.length) : (laterN bn d)[i]! = ⟨bn[i]!.rdy + d, bn[i]!.tm⟩ := by
  rw [getElem!_pos _ i (by simpa [laterN] using hi), getElem!_pos bn i hi]
  simp [laterN]
theorem inN_later (b : BN) (s d k t : Nat) : inN ⟨b.rdy + d, b.tm⟩ (s + d) k (t + d) = inN b s k t := by
  unfold inN begN
  congr 1
  congr 1
  · exact decide_eq_decide.2 (by show s + d + (b.tm.take k).sum ≤ t + d ↔ s + (b.tm.take k).sum ≤ t; omega)
  · exact decide_eq_decide.2 (by show t + d < s + d + (b.tm.take (k + 1)).sum ↔ t < s + (b.tm.take (k + 1)).sum; omega)
theorem inN_early (b : BN) (s d k t : Nat) (h : t < s) : inN b s k t = false := by
  unfold inN
  rw [decide_eq_false (show ¬ s + begN b k ≤ t by omega)]
  simp
section
variable {vn : List Nat} {bn : List BN} {n : Nat}
theorem cnt_later (hl : bn.length = n) (f g : Nat → Nat) (d k : Nat) (hg : ∀ i, i < n → g i = f i + d) (t : Nat) : cntF (laterN bn d) g (List.range n) k (t + d) = cntF bn f (List.range n) k t := by
  refine List.countP_congr fun i hi => ?_
  have hi := List.mem_range.1 hi
  rw [laterN_at d (by omega), hg i hi, inN_later]
theorem FeasF.later {e : Nat} {f : Nat → Nat} (hl : bn.length = n) (h : FeasF vn bn e n f) (d : Nat) : FeasF vn (laterN bn d) (e + d) n (fun i => f i + d) := by
  refine ⟨fun i hi => ?_, fun k hk t => ?_⟩
  · rw [laterN_at d (by omega)]
    obtain ⟨h1, h2⟩ := h.inr i hi
    refine ⟨by show bn[i]!.rdy + d ≤ f i + d; omega, ?_⟩
    show f i + d + durN bn[i]! ≤ e + d
    omega
  · rcases Nat.lt_or_ge t d with ht | ht
    · have : cntF (laterN bn d) (fun i => f i + d) (List.range n) k t = 0 := by
        refine List.countP_eq_zero.2 fun i hi => ?_
        rw [inN_early _ (f i + d) 0 k t (by omega)]
        decide
      omega
    · have := h.cnt k hk (t - d)
      rw [← cnt_later hl f (fun i => f i + d) d k (fun i _ => rfl) (t - d), Nat.sub_add_cancel ht] at this
      exact this
theorem FeasF.sooner {e d : Nat} {g : Nat → Nat} (hl : bn.length = n) (hn : 0 < n) (h : FeasF vn (laterN bn d) e n g) : d ≤ e ∧ FeasF vn bn (e - d) n (fun i => g i - d) ∧ ∀ i, i < n → d ≤ g i := by
  have hd : ∀ i, i < n → d ≤ g i ∧ bn[i]!.rdy + d ≤ g i ∧ g i + durN bn[i]! ≤ e := fun i hi => by
    obtain ⟨h1, h2⟩ := h.inr i hi
    rw [laterN_at d (by omega)] at h1 h2
    have h1 : bn[i]!.rdy + d ≤ g i := h1
    have h2 : g i + durN bn[i]! ≤ e := h2
    omega
  refine ⟨by have := hd 0 hn; omega, ⟨fun i hi => ?_, fun k hk t => ?_⟩, fun i hi => (hd i hi).1⟩
  · have := hd i hi
    exact ⟨by show bn[i]!.rdy ≤ g i - d; omega, by show g i - d + durN bn[i]! ≤ e - d; omega⟩
  · have := h.cnt k hk (t + d)
    rw [cnt_later hl (fun i => g i - d) g d k (fun i hi => by have := hd i hi; omega) t] at this
    exact this
end
/-! ### the best schedule of later batches -/
theorem leLex_antisymm : ∀ a b : List Nat, a.length = b.length → leLex a b → leLex b a → a = b
  | [], [], _, _, _ => rfl
  | [], _ :: _, h, _, _ => by cases h
  | _ :: _, [], h, _, _ => by cases h
  | x :: a, y :: b, h, h1, h2 => by
    rcases h1 with h1 | ⟨rfl, h1⟩
    · rcases h2 with h2 | ⟨rfl, _⟩
      · omega
      · omega
    · rcases h2 with h2 | ⟨_, h2⟩
      · omega
      · rw [leLex_antisymm a b (by simpa using h) h1 h2]
theorem leLex_add (d : Nat) : ∀ a b : List Nat, leLex a b → leLex (a.map (· + d)) (b.map (· + d))
  | [], [], _ => trivial
  | [], _ :: _, _ => trivial
  | _ :: _, [], _ => trivial
  | x :: a, y :: b, h => by
    rcases h with h | ⟨rfl, h⟩
    · exact .inl (by show x + d < y + d; omega)
    · exact .inr ⟨rfl, leLex_add d a b h⟩
theorem range_get (ss : List Nat) (n : Nat) (h : ss.length = n) : (List.range n).map (fun i => ss[i]!) = ss := by
  refine List.ext_getElem (by simp [h]) fun i h1 h2 => ?_
  rw [List.getElem_map, List.getElem_range, getElem!_pos ss i h2]
section
variable {vn : List Nat} {bn : List BN} {n d en en2 : Nat} {ss ss2 : List Nat}
theorem TrueN.later (hl : bn.length = n) (hn : 0 < n) (t1 : TrueN vn bn n en ss) (t2 : TrueN vn (laterN bn d) n en2 ss2) : en2 = en + d ∧ ss2 = ss.map (· + d) := by
  obtain ⟨h1, h2, h3⟩ := t2.feas.sooner hl hn
  have h4 := t1.feas.later hl d
  have e1 : ¬ en2 - d < en := fun c => t1.least _ _ c h2
  have e2 : ¬ en + d < en2 := fun c => t2.least _ _ c h4
  have e : en2 = en + d := by omega
  refine ⟨e, ?_⟩
  subst e
  rw [Nat.add_sub_cancel] at h2
  have k1 := t1.lex _ h2
  have k2 := t2.lex _ h4
  have f1 : (List.range n).map (fun i => ss[i]! + d) = ss.map (· + d) := by
    conv => rhs; rw [← range_get ss n t1.len, List.map_map]
    exact List.map_congr_left fun i hi => rfl
  have f2 : ((List.range n).map (fun i => ss2[i]! - d)).map (· + d) = ss2 := by
    rw [List.map_map]
    refine Eq.trans (List.map_congr_left fun i hi => ?_) (range_get ss2 n t2.len)
    have := h3 i (List.mem_range.1 hi)
    show ss2[i]! - d + d = ss2[i]!
    omega
  rw [f1] at k2
  have k3 := leLex_add d _ _ k1
  rw [f2] at k3
  exact leLex_antisymm _ _ (by rw [List.length_map, t1.len, t2.len]) k2 k3
theorem map_add_get (ss : List Nat) (d i : Nat) (h : i < ss.length) : (ss.map (· + d))[i]! = ss[i]! + d := by
  rw [getElem!_pos _ i (by simpa using h), getElem!_pos ss i h, List.getElem_map]
theorem stage_later (hl : bn.length = n) (hs : ss.length = n) (k : Nat) : stageN vn (laterN bn d) (ss.map (· + d)) n k = stageN vn bn ss n k := by
  have hv : ∀ i, i < n → (visN (laterN bn d) (ss.map (· + d)) n k)[i]! = ((visN bn ss n k)[i]!.1 + d, (visN bn ss n k)[i]!.2 + d) := fun i hi => by
    rw [visN_at _ _ n k i hi, visN_at _ _ n k i hi]
    unfold visA
    rw [laterN_at d (by omega), map_add_get ss d i (by omega)]
    have e : ∀ j, begN ⟨bn[i]!.rdy + d, bn[i]!.tm⟩ j = begN bn[i]! j := fun j => rfl
    rw [e, e]
    refine Prod.ext ?_ ?_
    · show ss[i]! + d + _ = ss[i]! + _ + d; omega
    · show ss[i]! + d + _ = ss[i]! + _ + d; omega
  unfold stageN
  have e1 : sortR (begK (visN (laterN bn d) (ss.map (· + d)) n k)) n = sortR (begK (visN bn ss n k)) n := sortR_congr _ _ n fun i hi j hj => by
    unfold begK
    rw [hv i hi, hv j hj]
    constructor
    · intro h
      have h : (((visN bn ss n k)[i]!.1 + d : Nat) : Int) < (((visN bn ss n k)[j]!.1 + d : Nat) : Int) := h
      omega
    · intro h
      show (((visN bn ss n k)[i]!.1 + d : Nat) : Int) < (((visN bn ss n k)[j]!.1 + d : Nat) : Int)
      omega
  rw [e1]
  refine ff_later d _ _ _ _ _ _ rfl (fun v hv2 => ?_) (fun i hi => ?_)
  · have : (List.replicate vn[k]! 0)[v]! = 0 := by
      rw [getElem!_pos _ v hv2, List.getElem_replicate]
    exact .inr ⟨this, this⟩
  · have hi : i < n := (sortR_mem _ n i).1 hi
    rw [hv i hi]
    exact ⟨rfl, rfl⟩
theorem rowsB_congr {c1 c2 : Nat → List Nat} (n vl : Nat) (h : ∀ k, k < vl → c1 k = c2 k) : rowsB c1 n vl = rowsB c2 n vl := by
  unfold rowsB
  refine List.map_congr_left fun i _ => ?_
  unfold rowG
  congr 1
  refine List.map_congr_left fun s hs => ?_
  rw [h s (List.mem_range.1 hs)]
theorem BestN.later {col col2 : Nat → List Nat} (hT : TaskN vn bn) (hT2 : TaskN vn (laterN bn d)) (hl : bn.length = n) (hn : 0 < n) (b1 : BestN vn bn n en ss col) (b2 : BestN vn (laterN bn d) n en2 ss2 col2) : en2 = en + d ∧ ss2 = ss.map (· + d) ∧ rowsB col2 n vn.length = rowsB col n vn.length := by
  have t1 := b1.truth hT hl
  have t2 := b2.truth hT2 (by rw [laterN_len]; exact hl)
  obtain ⟨h1, h2⟩ := t1.later hl hn t2
  refine ⟨h1, h2, rowsB_congr n vn.length fun k hk => ?_⟩
  have k1 := b1.col k hk
  have k2 := b2.col k hk
  rw [h2, stage_later hl t1.len, k1] at k2
  exact (Option.some.inj k2).symm
theorem later_none {col : Nat → List Nat} (hT : TaskN vn bn) (hT2 : TaskN vn (laterN bn d)) (hl : bn.length = n) (b1 : BestN vn bn n en ss col) (h2 : NoneN vn (laterN bn d) n) : 30 < en + d := by
  rcases Nat.lt_or_ge 30 (en + d) with h | h
  · exact h
  · exact absurd ((b1.truth hT hl).feas.later hl d) (none_truth hT2 (by rw [laterN_len]; exact hl) h2 _ _ h)
theorem none_later {col : Nat → List Nat} (hT : TaskN vn bn) (hT2 : TaskN vn (laterN bn d)) (hl : bn.length = n) (hn : 0 < n) (h1 : NoneN vn bn n) (b2 : BestN vn (laterN bn d) n en2 ss2 col) : False := by
  have := b2.le
  exact none_truth hT hl h1 _ _ (by omega) ((b2.truth hT2 (by rw [laterN_len]; exact hl)).feas.sooner hl hn).2.1
end
end Go.Proofs.YtbidadkcdchomaaDoor

/- What the document's search says: counts from vessels, lists in order. No function of the program is walked here. -/
set_option linter.unusedVariables false
set_option linter.unusedSimpArgs false
namespace Go.Proofs.YtbidadkcdchomaaDoor
open Go.RowKit

section
variable {vn : List Nat} {bn : List BN} {n en : Nat} {ss : List Nat}
/-- where every stage has vessels, no stage is too full -/
theorem cnt_of_stage (hT : TaskN vn bn) (hl : bn.length = n) {col : Nat → List Nat} (h : ∀ k, k < vn.length → stageN vn bn ss n k = some (col k)) : ∀ k, k < vn.length → ∀ t, cntF bn (fun i => ss[i]!) (List.range n) k t ≤ vn[k]! := by
  intro k hk t
  obtain ⟨h1, h2⟩ := stage_good hT hl hk (h k hk)
  refine pigeon _ (fun i => (col k)[i]!) vn[k]! _ List.nodup_range (fun i hi _ => h1 i (List.mem_range.1 hi)) (fun i hi j hj pi pj hij he => ?_)
  have := h2 i (List.mem_range.1 hi) j (List.mem_range.1 hj) hij he
  unfold inN at pi pj
  simp only [Bool.and_eq_true, decide_eq_true_eq] at pi pj
  omega
/-- the given starts go on as f -/
def Onto (ss : List Nat) (f : Nat → Nat) : Prop := ∀ j, j < ss.length → f j = ss[j]!
theorem feas_prefix (hT : TaskN vn bn) (hl : bn.length = n) (hs : ss.length ≤ n) {f : Nat → Nat} (hf : FeasF vn bn en n f) (ho : Onto ss f) {k : Nat} (hk : k < vn.length) : stageN vn (bn.take ss.length) ss ss.length k ≠ none := by
  have h1 := (hf.less hs).congr (g := fun i => ss[i]!) (fun i hi => ho i hi)
  obtain ⟨r, hr⟩ := stage_ok (hT.less ss.length) (by rw [List.length_take]; omega) h1 hk
  rw [hr]
  simp
theorem leLex_refl : ∀ a : List Nat, leLex a a
  | [] => trivial
  | x :: a => .inr ⟨rfl, leLex_refl a⟩
theorem leLex_at : ∀ (a b : List Nat) (i : Nat), (∀ j, j < i → a[j]! = b[j]!) → i < a.length → i < b.length → a[i]! < b[i]! → leLex a b
  | [], _, _, _, h, _, _ => absurd h (Nat.not_lt_zero _)
  | _ :: _, [], _, _, _, h, _ => absurd h (Nat.not_lt_zero _)
  | x :: a, y :: b, 0, _, _, _, h => .inl (by simpa using h)
  | x :: a, y :: b, i + 1, h0, h1, h2, h => by
    refine .inr ⟨by have := h0 0 (Nat.succ_pos _); simpa using this, leLex_at a b i (fun j hj => ?_) (by simpa using h1) (by simpa using h2) (by simpa using h)⟩
    have := h0 (j + 1) (by omega)
    simpa using this
theorem rangeF_at (f : Nat → Nat) (n i : Nat) (h : i < n) : ((List.range n).map f)[i]! = f i := by
  rw [getElem!_pos _ i (by simpa using h), List.getElem_map, List.getElem_range]
/-- what a search says of the starts that go on from ss -/
inductive Found (vn : List Nat) (bn : List BN) (n en : Nat) (ss : List Nat) : Option (List Nat) → Prop
  | yes (ts : List Nat) (hl : ts.length = n) (ho : Onto ss (fun i => ts[i]!)) (hf : FeasF vn bn en n (fun i => ts[i]!)) (hx : ∀ f, Onto ss f → FeasF vn bn en n f → leLex ts ((List.range n).map f)) : Found vn bn n en ss (some ts)
  | no (h : ∀ f, Onto ss f → ¬ FeasF vn bn en n f) : Found vn bn n en ss none
theorem found_full (hT : TaskN vn bn) (hl : bn.length = n) (hs : ss.length = n) (hr : ∀ j, j < n → InR en bn[j]! ss[j]!) {col : Nat → List Nat} (h : ∀ k, k < vn.length → stageN vn (bn.take n) ss n k = some (col k)) : Found vn bn n en ss (some ss) := by
  have e : bn.take n = bn := List.take_of_length_le (by omega)
  rw [e] at h
  refine .yes ss hs (fun j hj => rfl) ⟨hr, cnt_of_stage hT hl h⟩ (fun f ho _ => ?_)
  have : (List.range n).map f = ss := by
    rw [← range_get ss n hs]
    exact List.map_congr_left fun i hi => ho i (by rw [hs]; exact List.mem_range.1 hi)
  rw [this]
  exact leLex_refl _
theorem found_stuck (hT : TaskN vn bn) (hl : bn.length = n) (hs : ss.length ≤ n) (h : ∃ k, k < vn.length ∧ stageN vn (bn.take ss.length) ss ss.length k = none) : Found vn bn n en ss none := by
  obtain ⟨k, hk, h⟩ := h
  exact .no fun f ho hf => feas_prefix hT hl hs hf ho hk h
theorem onto_snoc {t : Nat} {f : Nat → Nat} : Onto (ss ++ [t]) f ↔ Onto ss f ∧ f ss.length = t := by
  unfold Onto
  rw [List.length_append]
  have e1 : ∀ j, j < ss.length → (ss ++ [t])[j]! = ss[j]! := fun j hj => by
    rw [getElem!_pos _ j (by rw [List.length_append]; omega), getElem!_pos ss j hj, List.getElem_append_left hj]
  have e2 : (ss ++ [t])[ss.length]! = t := by
    rw [getElem!_pos _ _ (by rw [List.length_append]; simp), List.getElem_append_right (Nat.le_refl _)]
    simp
  constructor
  · intro h
    exact ⟨fun j hj => by rw [h j (by show j < ss.length + 1; omega), e1 j hj], by rw [h ss.length (by show ss.length < ss.length + 1; omega), e2]⟩
  · rintro ⟨h1, h2⟩ j hj
    have hj : j < ss.length + 1 := hj
    rcases Nat.lt_succ_iff_lt_or_eq.1 hj with hj | rfl
    · rw [h1 j hj, e1 j hj]
    · rw [h2, e2]
/-- the first of the next starts that goes on -/
theorem found_next {t : Nat} {ts : List Nat} (hs : ss.length < n) (hno : ∀ f, Onto ss f → f ss.length < t → ¬ FeasF vn bn en n f) (h : Found vn bn n en (ss ++ [t]) (some ts)) : Found vn bn n en ss (some ts) := by
  cases h with
  | yes _ hl ho hf hx =>
    have ho' := onto_snoc.1 ho
    refine .yes ts hl ho'.1 hf (fun f hof hff => ?_)
    rcases Nat.lt_or_ge (f ss.length) t with g | g
    · exact absurd hff (hno f hof g)
    · rcases Nat.eq_or_lt_of_le g with g | g
      · exact hx f (onto_snoc.2 ⟨hof, g.symm⟩) hff
      · refine leLex_at ts _ ss.length (fun j hj => ?_) (by omega) (by simpa using hs) ?_
        · rw [rangeF_at f n j (by omega), hof j hj]
          exact ho'.1 j hj
        · rw [rangeF_at f n _ hs]
          have := ho'.2
          omega
theorem found_skip {t : Nat} (hno : ∀ f, Onto ss f → f ss.length < t → ¬ FeasF vn bn en n f) (h : Found vn bn n en (ss ++ [t]) none) : ∀ f, Onto ss f → f ss.length < t + 1 → ¬ FeasF vn bn en n f := by
  cases h with
  | no h =>
    intro f ho hlt hf
    rcases Nat.lt_succ_iff_lt_or_eq.1 hlt with g | g
    · exact hno f ho g hf
    · exact h f (onto_snoc.2 ⟨ho, g⟩) hf
theorem found_end {t : Nat} (hs : ss.length < n) (hno : ∀ f, Onto ss f → f ss.length < t → ¬ FeasF vn bn en n f) (ht : en < t + durN bn[ss.length]!) : Found vn bn n en ss none :=
  .no fun f ho hf => by
    rcases Nat.lt_or_ge (f ss.length) t with g | g
    · exact hno f ho g hf
    · have := (hf.inr ss.length hs).2
      omega
theorem found_start (hs : ss.length < n) : ∀ f, Onto ss f → f ss.length < bn[ss.length]!.rdy → ¬ FeasF vn bn en n f := fun f _ h hf => by
  have := (hf.inr ss.length hs).1
  omega
end
end Go.Proofs.YtbidadkcdchomaaDoor

/- The laws' work (a number, no matter which); the specification's Less. (By gen_lwork.py.) -/
set_option linter.unusedVariables false
set_option linter.unusedSimpArgs false
namespace Go.Proofs.YtbidadkcdchomaaDoor
open Go.RowKit

theorem less_step {xs ys : List Int} {k : Nat} (h1 : k < xs.length) (h2 : k < ys.length) : lessZ (xs.drop k) (ys.drop k) = if xs[k]?.getD 0 ≠ ys[k]?.getD 0 then decide (xs[k]?.getD 0 < ys[k]?.getD 0) else lessZ (xs.drop (k + 1)) (ys.drop (k + 1)) := by
  rw [List.drop_eq_getElem_cons h1, List.drop_eq_getElem_cons h2, List.getElem?_eq_getElem h1, List.getElem?_eq_getElem h2]
  rfl
theorem less_end {xs : List Int} (ys : List Int) {k : Nat} (h : xs.length ≤ k) : lessZ (xs.drop k) ys = false := by
  rw [List.drop_of_length_le h]
  rfl
set_option maxRecDepth 100000 in
set_option maxHeartbeats 2000000 in
theorem less_any (aa : Option Addr) (la ca : Nat) (ab : Option Addr) (lb cb : Nat) (xs ys : List Int) (W : World) (ha : Il W aa la xs) (hb : Il W ab lb ys) (hl : la = lb) (h1 : la ≤ 1000000) :
    Calls Tryd.prog 20 #[.slice aa la ca, .slice ab lb cb] W fun e w' => e = .returned (.bool (lessZ xs ys)) ∧ Drew W w' := by
  subst hl
  have HLA := Lib.hid ha.len
  have HLB := Lib.hid hb.len
  have HA := Lib.hid ha
  have HB := Lib.hid hb
  clear ha hb
  go_enter Tryd.func20, Tryd.ntmps20
  go_wp2
  go_loopg [5] la (fun gg s5 wr => ∃ k : Nat, s5 = .int .i64 (k : Int) ∧ k ≤ la ∧ la - k ≤ gg ∧ Hid (lessZ xs ys = lessZ (xs.drop k) (ys.drop k)) ∧ Hid (Drew W wr))
  case atStart => exact ⟨0, rfl, Nat.zero_le _, by omega, Lib.hid (by simp), Lib.hid (Drew.refl _)⟩
  case round =>
    obtain ⟨k, rfl, hk, hgg, HQ, HD⟩ := hrel
    by_cases h3 : k < la
    · have u0 : (0 : Int) ≤ (k : Int) := by omega
      have u1 : (k : Int) < (la : Int) := by omega
      obtain ⟨b1, o1, rfl, hc1⟩ := (HA.out.of_drew HD.out).at (by omega)
      obtain ⟨b2, o2, rfl, hc2⟩ := (HB.out.of_drew HD.out).at (by omega)
      have c1 := hc1 k h3
      have c2 := hc2 k h3
      have HS := Lib.hid (HQ.out.trans (less_step (xs := xs) (ys := ys) (k := k) (by rw [HLA.out]; exact h3) (by rw [HLB.out]; exact h3)))
      clear hc1 hc2
      by_cases h4 : xs[k]?.getD 0 = ys[k]?.getD 0
      · have H4 := Lib.hid (HS.out.trans (if_neg (fun c => c h4)))
        rw [← h4] at c2
        generalize xs[k]?.getD 0 = x at c1 c2
        clear h4
        go_wp2
        go_quiet (fail)
        go_wp2
        go_roundg (la - (k + 1))
        case measure => omega
        case rel => exact ⟨k + 1, by go_num, by omega, Nat.le_refl _, H4, Lib.hid (HD.out.more _)⟩
      · have H4 := Lib.hid (HS.out.trans (if_pos h4))
        generalize xs[k]?.getD 0 = x at c1 h4 H4
        generalize ys[k]?.getD 0 = y at c2 h4 H4
        by_cases h5 : x < y
        · have H5 := Lib.hid (H4.out.trans (decide_eq_true h5))
          go_wp2
          go_quiet (fail)
          go_wp2
          go_quiet (fail)
          go_wp2
          go_ret
          exact ⟨retB (by rw [H5.out]; first | done | simp [h5]), (HD.out.more _).more _⟩
        · have H5 := Lib.hid (H4.out.trans (decide_eq_false h5))
          go_wp2
          go_quiet (fail)
          go_wp2
          go_quiet (fail)
          go_wp2
          go_ret
          exact ⟨retB (by rw [H5.out]; first | done | simp [h5]), (HD.out.more _).more _⟩
    · obtain rfl : k = la := by omega
      have u1 : ¬ (k : Int) < (k : Int) := by omega
      have HS := Lib.hid (HQ.out.trans (less_end _ (by rw [HLA.out]; exact Nat.le_refl _)))
      go_wp2
      go_ret
      exact ⟨congrArg (fun b => Ending.returned (.bool b)) HS.out.symm, HD.out⟩
/-- an integer is returned, no matter which -/
def OutAnyZ (W : World) (e : Ending) (w' : World) : Prop := ∃ z : Int, e = .returned (.int .i64 z) ∧ Below W.heap.size W w'
set_option maxRecDepth 100000 in
set_option maxHeartbeats 4000000 in
theorem work_any {vn : List Nat} {bn : List BN} (ba : Option Addr) (bl bc : Nat) (W : World) (hb : Bats W ba bl (bn.map bI)) (hT : TaskN vn bn) :
    Calls Tryd.prog 19 #[.slice ba bl bc] W (OutAnyZ W) := by
  have hlb : bn.length = bl := by have := hb.1; simpa using this
  have h5 : bl ≤ 5 := by have := hT.few; omega
  have HB := Lib.hid hb
  have HT := Lib.hid hT
  have HL := Lib.hid hlb
  clear hb hT hlb
  go_enter Tryd.func19, Tryd.ntmps19
  go_wp2
  go_loopg [3, 4] bl (fun gg s3 s4 wr => ∃ (k : Nat) (z : Int), s4 = .int .i64 (k : Int) ∧ k ≤ bl ∧ bl - k ≤ gg ∧ s3 = .int .i64 z ∧ Hid (Below W.heap.size W wr))
  case atStart => exact ⟨0, 1, rfl, Nat.zero_le _, by omega, rfl, Lib.hid (Below.refl _ _)⟩
  case round =>
    obtain ⟨k, z, rfl, hk, hgg, rfl, HW⟩ := hrel
    by_cases h1 : k < bl
    · have u0 : (0 : Int) ≤ (k : Int) := by omega
      have u1 : (k : Int) < (bl : Int) := by omega
      have hkb : k < bn.length := by rw [HL.out]; exact h1
      obtain ⟨g, o, ta, tl, tc, rfl, hx⟩ := (HB.out.keep HW.out).at h1
      rw [bI_at hkb] at hx
      have hlt := HT.out.len k hkb
      have hl3 : (bn[k]!).tm.length ≤ 3 := by have := HT.out.house.few; omega
      have hmt : ∀ q, q < (bn[k]!).tm.length → (bn[k]!).tm[q]! ≤ 30 := fun q hq => (HT.out.tm k hkb q (by omega)).2
      have hr := HT.out.rdy k hkb
      have hd := HT.out.dur hkb
      generalize bn[k]! = b at hx hl3 hmt hr hd
      have c0 : wr.cell? ⟨g, o + k * 2, none⟩ = some (.int .i64 (b.rdy : Int)) := hx.c0
      have c1 : wr.cell? ⟨g, o + k * 2 + 1, none⟩ = some (.slice ta tl tc) := hx.c1
      have P := Lib.hid (total_any (b.rdy : Int) ta tl tc b.tm wr.drew (hx.il.drew) hmt hl3)
      obtain ⟨d, hdd⟩ : ∃ d, d = b.tm.sum := ⟨_, rfl⟩
      have hd : d ≤ 90 := by rw [hdd]; exact hd
      rw [← hdd] at P
      clear hx hlt hmt hdd
      go_upto_region 5 with fail
      refine wp_region_held_drew (S := fun w' => w'.cell? ⟨g, o + k * 2, none⟩ = some (.int .i64 (b.rdy : Int)) ∧ w'.cell? ⟨g, o + k * 2 + 1, none⟩ = some (.slice ta tl tc)) (by kernel_rfl) ⟨c0, c1⟩ (fun hS => ?_)
      refine wpAnyH_take (i := 0) (v := ?vw0) rfl (by kernel_rfl) (by kernel_rfl) (by kernel_rfl) (fun _ _ _ h => h) (Or.inl ⟨by rfl, ?hyw0⟩) hS ?restw0
      case hyw0 => (intro w hSw; (try dsimp only at hSw); (first | (go_simp; done) | (go_simp; with_reducible rfl)))
      try simp only [Act.put, List.getElem_toArray, List.getElem_cons_succ, List.getElem_cons_zero, List.setIfInBounds_toArray, List.set_cons_zero, List.set_cons_succ]
      refine wpAnyH_take (i := 1) (v := ?vw1) rfl (by kernel_rfl) (by kernel_rfl) (by kernel_rfl) (fun _ _ _ h => h) (Or.inl ⟨by rfl, ?hyw1⟩) hS ?restw1
      case hyw1 => (intro w hSw; (try dsimp only at hSw); (first | (go_simp; done) | (go_simp; with_reducible rfl)))
      try simp only [Act.put, List.getElem_toArray, List.getElem_cons_succ, List.getElem_cons_zero, List.setIfInBounds_toArray, List.set_cons_zero, List.set_cons_succ]
      refine wpAnyH_take (i := 2) (v := ?vw2) rfl (by kernel_rfl) (by kernel_rfl) (by kernel_rfl) (fun _ _ _ h => h) (Or.inl ⟨by rfl, ?hyw2⟩) hS ?restw2
      case hyw2 => (intro w hSw; (try dsimp only at hSw); (first | (go_simp; done) | (go_simp; with_reducible rfl)))
      try simp only [Act.put, List.getElem_toArray, List.getElem_cons_succ, List.getElem_cons_zero, List.setIfInBounds_toArray, List.set_cons_zero, List.set_cons_succ]
      refine wpAnyH_take (i := 3) (v := ?vw3) rfl (by kernel_rfl) (by kernel_rfl) (by kernel_rfl) (fun _ _ _ h => h) (Or.inl ⟨by rfl, ?hyw3⟩) hS ?restw3
      case hyw3 => (intro w hSw; (try dsimp only at hSw); (first | (go_simp; done) | (go_simp; with_reducible rfl)))
      try simp only [Act.put, List.getElem_toArray, List.getElem_cons_succ, List.getElem_cons_zero, List.setIfInBounds_toArray, List.set_cons_zero, List.set_cons_succ]
      refine wpAnyH_take (i := 4) (v := ?vw4) rfl (by kernel_rfl) (by kernel_rfl) (by kernel_rfl) (fun _ _ _ h => h) (Or.inl ⟨by rfl, ?hyw4⟩) hS ?restw4
      case hyw4 => (intro w hSw; (try dsimp only at hSw); (first | (go_simp; done) | (go_simp; with_reducible rfl)))
      try simp only [Act.put, List.getElem_toArray, List.getElem_cons_succ, List.getElem_cons_zero, List.setIfInBounds_toArray, List.set_cons_zero, List.set_cons_succ]
      refine wpAnyH_take (i := 5) (v := ?vw5) rfl (by kernel_rfl) (by kernel_rfl) (by kernel_rfl) (fun _ _ _ h => h) (Or.inl ⟨by rfl, ?hyw5⟩) hS ?restw5
      case hyw5 => (intro w hSw; (try dsimp only at hSw); (first | (go_simp; done) | (go_simp; with_reducible rfl)))
      try simp only [Act.put, List.getElem_toArray, List.getElem_cons_succ, List.getElem_cons_zero, List.setIfInBounds_toArray, List.set_cons_zero, List.set_cons_succ]
      refine wpAnyH_take (i := 6) (v := ?vw6) rfl (by kernel_rfl) (by kernel_rfl) (by kernel_rfl) (fun _ _ _ h => h) (Or.inl ⟨by rfl, ?hyw6⟩) hS ?restw6
      case hyw6 => (intro w hSw; (try dsimp only at hSw); (first | (go_simp; done) | (go_simp; with_reducible rfl)))
      try simp only [Act.put, List.getElem_toArray, List.getElem_cons_succ, List.getElem_cons_zero, List.setIfInBounds_toArray, List.set_cons_zero, List.set_cons_succ]
      refine wpAnyH_take (i := 7) (v := ?vw7) rfl (by kernel_rfl) (by kernel_rfl) (by kernel_rfl) (fun _ _ _ h => h) (Or.inl ⟨by rfl, ?hyw7⟩) hS ?restw7
      case hyw7 => (intro w hSw; (try dsimp only at hSw); (first | (go_simp; done) | (go_simp; with_reducible rfl)))
      try simp only [Act.put, List.getElem_toArray, List.getElem_cons_succ, List.getElem_cons_zero, List.setIfInBounds_toArray, List.set_cons_zero, List.set_cons_succ]
      refine wpAnyH_take (i := 8) (v := ?vw8) rfl (by kernel_rfl) (by kernel_rfl) (by kernel_rfl) (fun _ _ _ h => h) (Or.inl ⟨by rfl, ?hyw8⟩) hS ?restw8
      case hyw8 => (intro w hSw; (try dsimp only at hSw); (first | (go_simp; done) | (go_simp; with_reducible rfl)))
      try simp only [Act.put, List.getElem_toArray, List.getElem_cons_succ, List.getElem_cons_zero, List.setIfInBounds_toArray, List.set_cons_zero, List.set_cons_succ]
      refine wpAnyH_take (i := 9) (v := ?vw9) rfl (by kernel_rfl) (by kernel_rfl) (by kernel_rfl) (fun _ _ _ h => h) (Or.inl ⟨by rfl, ?hyw9⟩) hS ?restw9
      case hyw9 => (intro w hSw; (try dsimp only at hSw); (first | (go_simp; done) | (go_simp; with_reducible rfl)))
      try simp only [Act.put, List.getElem_toArray, List.getElem_cons_succ, List.getElem_cons_zero, List.setIfInBounds_toArray, List.set_cons_zero, List.set_cons_succ]
      refine wpAnyH_take (i := 10) (v := ?vw10) rfl (by kernel_rfl) (by kernel_rfl) (by kernel_rfl) (fun _ _ _ h => h) (Or.inl ⟨by rfl, ?hyw10⟩) hS ?restw10
      case hyw10 => (intro w hSw; (try dsimp only at hSw); (first | (go_simp; done) | (go_simp; with_reducible rfl)))
      try simp only [Act.put, List.getElem_toArray, List.getElem_cons_succ, List.getElem_cons_zero, List.setIfInBounds_toArray, List.set_cons_zero, List.set_cons_succ]
      refine wpAnyH_ready (rs := [11]) (by kernel_rfl) (by simp) ?_
      refine AllReadyH.cons rfl (fun K hK => ?_) AllReadyH.nil
      try go_simp
      refine P.out.mono ?_
      rintro e w1 ⟨rfl, hb1⟩
      have B1 := Lib.hid ((drew_below wr).trans hb1)
      have k0 := cell_later B1.out c0; have k1 := cell_later B1.out c1
      clear hb1
      refine hK.out _ _ ⟨k0, k1⟩ (fun hS => ?_)
      clear hK K
      try simp only [Act.put, List.getElem_toArray, List.getElem_cons_succ, List.getElem_cons_zero, List.setIfInBounds_toArray, List.set_cons_zero, List.set_cons_succ]
      clear k0 k1
      refine wpAnyH_take (i := 12) (v := ?vw12) rfl (by kernel_rfl) (by kernel_rfl) (by kernel_rfl) (fun _ _ _ h => h) (Or.inl ⟨by rfl, ?hyw12⟩) hS ?restw12
      case hyw12 => (intro w hSw; (try dsimp only at hSw); (first | (go_simp; done) | (go_simp; with_reducible rfl)))
      try simp only [Act.put, List.getElem_toArray, List.getElem_cons_succ, List.getElem_cons_zero, List.setIfInBounds_toArray, List.set_cons_zero, List.set_cons_succ]
      refine wpAnyH_take (i := 13) (v := ?vw13) rfl (by kernel_rfl) (by kernel_rfl) (by kernel_rfl) (fun _ _ _ h => h) (Or.inl ⟨by rfl, ?hyw13⟩) hS ?restw13
      case hyw13 => (intro w hSw; (try dsimp only at hSw); (first | (go_simp; done) | (go_simp; with_reducible rfl)))
      try simp only [Act.put, List.getElem_toArray, List.getElem_cons_succ, List.getElem_cons_zero, List.setIfInBounds_toArray, List.set_cons_zero, List.set_cons_succ]
      refine wpAnyH_take (i := 14) (v := ?vw14) rfl (by kernel_rfl) (by kernel_rfl) (by kernel_rfl) (fun _ _ _ h => h) (Or.inl ⟨by rfl, ?hyw14⟩) hS ?restw14
      case hyw14 => (intro w hSw; (try dsimp only at hSw); (first | (go_simp; done) | (go_simp; with_reducible rfl)))
      try simp only [Act.put, List.getElem_toArray, List.getElem_cons_succ, List.getElem_cons_zero, List.setIfInBounds_toArray, List.set_cons_zero, List.set_cons_succ]
      refine wpAnyH_take (i := 15) (v := ?vw15) rfl (by kernel_rfl) (by kernel_rfl) (by kernel_rfl) (fun _ _ _ h => h) (Or.inl ⟨by rfl, ?hyw15⟩) hS ?restw15
      case hyw15 => (intro w hSw; (try dsimp only at hSw); (first | (go_simp; done) | (go_simp; with_reducible rfl)))
      try simp only [Act.put, List.getElem_toArray, List.getElem_cons_succ, List.getElem_cons_zero, List.setIfInBounds_toArray, List.set_cons_zero, List.set_cons_succ]
      refine wpAnyH_take (i := 16) (v := ?vw16) rfl (by kernel_rfl) (by kernel_rfl) (by kernel_rfl) (fun _ _ _ h => h) (Or.inl ⟨by rfl, ?hyw16⟩) hS ?restw16
      case hyw16 => (intro w hSw; (try dsimp only at hSw); (first | (go_simp; done) | (go_simp; with_reducible rfl)))
      try simp only [Act.put, List.getElem_toArray, List.getElem_cons_succ, List.getElem_cons_zero, List.setIfInBounds_toArray, List.set_cons_zero, List.set_cons_succ]
      refine wpAnyH_done (by kernel_rfl) ?_ _
      have HB1 := Lib.hid (HW.out.trans (B1.out.mono HW.out.size))
      generalize IntKind.i64.wrap (z * IntKind.i64.wrap ((if 0 < IntKind.i64.wrap (IntKind.i64.wrap (30 - (b.rdy : Int)) - (d : Int)) then IntKind.i64.wrap (IntKind.i64.wrap (30 - (b.rdy : Int)) - (d : Int)) else 0) + 1)) = z2
      generalize IntKind.i64.wrap ((if 0 < IntKind.i64.wrap (IntKind.i64.wrap (30 - (b.rdy : Int)) - (d : Int)) then IntKind.i64.wrap (IntKind.i64.wrap (30 - (b.rdy : Int)) - (d : Int)) else 0) + 1) = z3
      generalize (if 0 < IntKind.i64.wrap (IntKind.i64.wrap (30 - (b.rdy : Int)) - (d : Int)) then IntKind.i64.wrap (IntKind.i64.wrap (30 - (b.rdy : Int)) - (d : Int)) else 0) = z4
      generalize IntKind.i64.wrap (IntKind.i64.wrap (30 - (b.rdy : Int)) - (d : Int)) = z5
      generalize IntKind.i64.wrap (30 - (b.rdy : Int)) = z6
      clear hS c0 c1 P
      by_cases h2 : (100000 : Int) < z2
      · go_wp2
        go_ret
        exact ⟨z2, rfl, HB1.out⟩
      · go_wp2
        go_roundg (bl - (k + 1))
        case measure => omega
        case rel => exact ⟨k + 1, z2, by go_num, by omega, Nat.le_refl _, rfl, HB1⟩
    · obtain rfl : k = bl := by omega
      have u1 : ¬ (k : Int) < (k : Int) := by omega
      go_wp2
      go_ret
      exact ⟨z, rfl, HW.out⟩
end Go.Proofs.YtbidadkcdchomaaDoor

/- PlanLeast, at any house, batches and schedule in memory. -/
set_option linter.unusedVariables false
set_option linter.unusedSimpArgs false
namespace Go.Proofs.YtbidadkcdchomaaDoor
open Go.RowKit

/-- true is returned -/
def YesL (W : World) (e : Ending) (w' : World) : Prop := e = .returned (.bool true) ∧ Below W.heap.size W w'
theorem few_bats {w : World} {ba : Option Addr} {bl : Nat} {bn : List BN} (h : Bats w ba bl (bn.map bI)) : bn.length = bl := by have := h.1; simpa using this
set_option maxRecDepth 100000 in
set_option maxHeartbeats 8000000 in
theorem least_walk (vs : List Int) (bs : List Bt) (en : Int) (va : Option Addr) (vl vc : Nat) (ba : Option Addr) (bl bc : Nat) (sa : Option Addr) (sl sc : Nat) (zs : List Int) (ya : Option Addr) (yl yc : Nat) (rs : List (List Int)) (W : World)
    (hv : Il W va vl vs) (hb : Bats W ba bl bs) (hs : Il W sa sl zs) (hy : Rows2 W ya yl rs) (hN : NowM W) (hvl : vl ≤ 9223372036854775807) (hbl : bl ≤ 9223372036854775807) (hsl : sl ≤ 9223372036854775807) (hyl : yl ≤ 9223372036854775807) :
    Calls Tryd.prog 5 #[.slice va vl vc, .slice ba bl bc, .agg #[.int .i64 en, .slice sa sl sc, .slice ya yl yc]] W (YesL W) := by
  obtain ⟨V, hV⟩ : ∃ V, V = W.alloc (.cells #[.int .i64 en, .slice sa sl sc, .slice ya yl yc] 28) := ⟨_, rfl⟩
  have HB : Hid (Below W.heap.size W V) := Lib.hid (by rw [hV]; exact box_below W _)
  have R : Hid (V.heap[W.heap.size]? = some (.cells #[.int .i64 en, .slice sa sl sc, .slice ya yl yc] 28 (0, 0))) := Lib.hid (by rw [hV]; exact new_row W _)
  have HVI := Lib.hid (hv.keep HB.out)
  have HBB := Lib.hid (hb.keep HB.out)
  have HSS := Lib.hid (hs.keep HB.out)
  have HYY := Lib.hid (hy.keep HB.out)
  have HNN := Lib.hid (hN.keep HB.out)
  have HSL := Lib.hid hs.len
  have HV := Lib.hid hV
  obtain ⟨q0, q1, q2⟩ := cells3 R.out
  clear hv hb hs hy hN hV
  go_enter Tryd.func5, Tryd.ntmps5
  go_upto_region 1 with fail
  rw [← HV.out]
  go_wp2_with fail
  refine (few_any va vl vc ba bl bc bs V HBB.out).mono ?_
  rintro e w1 ⟨b, rfl, hb1⟩
  have HB1 := Lib.hid hb1
  obtain ⟨q0, q1, q2⟩ := cells3 (row_keep hb1 R.out)
  clear hb1
  cases b with
  | false =>
    have PA := Lib.hid (awake_any w1 (HNN.out.keep HB1.out))
    go_wp2_with (go_at_call 9; refine PA.out.mono ?_; rintro e w2 ⟨rfl, hb2⟩; have HB2 := Lib.hid (HB.out.trans ((below_then HB1.out hb2).mono HB.out.size)); clear hb2)
    go_ret
    exact ⟨rfl, HB2.out⟩
  | true =>
    go_wp2_with fail
    refine (fewV_any en sa sl sc ya yl yc rs w1 (HYY.out.keep HB1.out)).mono ?_
    rintro e w2 ⟨b, rfl, hb2⟩
    have HB2 := Lib.hid (below_then HB1.out hb2)
    obtain ⟨q0, q1, q2⟩ := cells3 (row_keep HB2.out R.out)
    clear hb2
    cases b with
    | false =>
      have PA := Lib.hid (awake_any w2 (HNN.out.keep HB2.out))
      go_wp2_with (go_at_call 9; refine PA.out.mono ?_; rintro e w3 ⟨rfl, hb3⟩; have HB3 := Lib.hid (HB.out.trans ((below_then HB2.out hb3).mono HB.out.size)); clear hb3)
      go_ret
      exact ⟨rfl, HB3.out⟩
    | true =>
      go_wp2_with fail
      refine (task_any va vl vc ba bl bc vs bs w2 (HVI.out.keep HB2.out) (HBB.out.keep HB2.out) hvl hbl).mono ?_
      rintro e w3 ⟨⟨ht, rfl⟩ | ⟨ht, rfl⟩, hb3⟩
      · have HB3 := Lib.hid (below_then HB2.out hb3)
        obtain ⟨q0, q1, q2⟩ := cells3 (row_keep HB3.out R.out)
        obtain ⟨vn, bn, rfl, rfl, hT⟩ := task_nat ht
        have HTP := Lib.hid ht
        have HT := Lib.hid hT
        have HL := Lib.hid (few_bats HBB.out)
        clear hb3 ht hT
        go_wp2_with fail
        refine (work_any ba bl bc w3 (HBB.out.keep HB3.out) HT.out).mono ?_
        rintro e w4 ⟨wk, rfl, hb4⟩
        have HB4 := Lib.hid (below_then HB3.out hb4)
        obtain ⟨q0, q1, q2⟩ := cells3 (row_keep HB4.out R.out)
        clear hb4
        by_cases hwk : (100000 : Int) < wk
        · have PA := Lib.hid (awake_any w4 (HNN.out.keep HB4.out))
          go_wp2_with (go_at_call 9; refine PA.out.mono ?_; rintro e w5 ⟨rfl, hb5⟩; have HB5 := Lib.hid (HB.out.trans ((below_then HB4.out hb5).mono HB.out.size)); clear hb5)
          go_ret
          exact ⟨rfl, HB5.out⟩
        · have PB := Lib.hid (best_any (vI vn) (bn.map bI) va vl vc ba bl bc w4 (HVI.out.keep HB4.out) (HBB.out.keep HB4.out) (HNN.out.keep HB4.out) hvl hbl (fun vn' bn' h1 h2 h3 => has_best h3 (by have := HL.out; rw [← bI_inj h2]; exact this)))
          go_upto_region 3 with fail
          go_wp2_with fail
          refine PB.out.mono ?_
          rintro e w5 ⟨hb5, ⟨hn, _⟩ | ⟨_, vn', bn', h1, h2, _, ho⟩⟩
          · exact absurd HTP.out hn
          obtain rfl := vI_inj h1
          obtain rfl := bI_inj h2
          rcases ho with ⟨hno, rfl⟩ | ⟨en', ss, col, sa', sc', ya', hbest, rfl, hss, hrows⟩
          · have HNO := Lib.hid (none_truth HT.out HL.out hno)
            obtain ⟨w6, hw6⟩ : ∃ w6, w6 = w5.alloc (.cells #[.int .i64 0, .slice none 0 0, .slice none 0 0] 28) := ⟨_, rfl⟩
            have HB6 : Hid (Below V.heap.size V w6) := Lib.hid (by rw [hw6]; exact below_then HB4.out (below_then hb5 (box_below w5 _)))
            obtain ⟨q0, q1, q2⟩ := cells3 (row_keep HB6.out R.out)
            clear hb5 hno h1 h2
            go_upto_region 4 with fail
            rw [← hw6]
            clear hw6
            go_wp2_with fail
            refine (check_any (vI vn) (bn.map bI) en va vl vc ba bl bc sa sl sc zs ya yl yc rs w6 (HVI.out.keep HB6.out) (HBB.out.keep HB6.out) (HSS.out.keep HB6.out) (HYY.out.keep HB6.out) hvl hbl hsl hyl).mono ?_
            rintro e w7 ⟨z, rfl, hR, hb7⟩
            have HB7 := Lib.hid (below_then HB6.out hb7)
            obtain ⟨q0, q1, q2⟩ := cells3 (row_keep HB7.out R.out)
            rcases hR with ⟨h, _⟩ | ⟨_, vn', bn', h1, h2, _, ⟨hf, rfl⟩ | ⟨hf, rfl⟩⟩
            · exact absurd HTP.out h
            · obtain rfl := vI_inj h1
              obtain rfl := bI_inj h2
              obtain ⟨f, _, he, hF⟩ := feas_of_P HT.out HL.out hf
              have hen : ¬ en ≤ 30 := fun h => HNO.out _ f (by omega) hF
              clear hb7 hf he hF h1 h2
              have PA := Lib.hid (awake_any w7 (HNN.out.keep HB7.out))
              go_wp2_with (go_at_call 9; refine PA.out.mono ?_; rintro e wz ⟨rfl, hbz⟩; have HBZ := Lib.hid (HB.out.trans ((below_then HB7.out hbz).mono HB.out.size)); clear hbz)
              go_ret
              exact ⟨by rw [decide_eq_false (show ¬ en ≤ 30 by omega)]; rfl, HBZ.out⟩
            · clear hb7 hf h1 h2
              have PA := Lib.hid (awake_any w7 (HNN.out.keep HB7.out))
              go_wp2_with (go_at_call 9; refine PA.out.mono ?_; rintro e wz ⟨rfl, hbz⟩; have HBZ := Lib.hid (HB.out.trans ((below_then HB7.out hbz).mono HB.out.size)); clear hbz)
              go_ret
              exact ⟨rfl, HBZ.out⟩
          · skip
            have h5 : bl ≤ 5 := by have := HT.out.few; have := HL.out; omega
            have HT1 := Lib.hid (hbest.truth HT.out HL.out)
            have HFB := Lib.hid (hbest.feasP HT.out HL.out)
            have hen' : en' ≤ 30 := hbest.le
            obtain ⟨w6, hw6⟩ : ∃ w6, w6 = w5.alloc (.cells #[.int .i64 (en' : Int), .slice sa' bl sc', .slice ya' bl bl] 28) := ⟨_, rfl⟩
            have HB6 : Hid (Below V.heap.size V w6) := Lib.hid (by rw [hw6]; exact below_then HB4.out (below_then hb5 (box_below w5 _)))
            have R6 : Hid (w6.heap[w5.heap.size]? = some (.cells #[.int .i64 (en' : Int), .slice sa' bl sc', .slice ya' bl bl] 28 (0, 0))) := Lib.hid (by rw [hw6]; exact new_row w5 _)
            have HS6 : Hid (Il w6 sa' bl (vI ss)) := Lib.hid (by rw [hw6]; exact hss.keep (box_below w5 _))
            have HY6 : Hid (Rows2 w6 ya' bl (rowsB col bl vn.length)) := Lib.hid (by rw [hw6]; exact hrows.keep (box_below w5 _))
            obtain ⟨q0, q1, q2⟩ := cells3 (row_keep HB6.out R.out)
            clear hb5 hbest hss hrows h1 h2
            go_upto_region 4 with fail
            rw [← hw6]
            clear hw6
            go_wp2_with fail
            refine (check_any (vI vn) (bn.map bI) en va vl vc ba bl bc sa sl sc zs ya yl yc rs w6 (HVI.out.keep HB6.out) (HBB.out.keep HB6.out) (HSS.out.keep HB6.out) (HYY.out.keep HB6.out) hvl hbl hsl hyl).mono ?_
            rintro e w7 ⟨z, rfl, hR, hb7⟩
            have HB7 := Lib.hid hb7
            obtain ⟨q0, q1, q2⟩ := cells3 (row_keep (below_then HB6.out HB7.out) R.out)
            rcases hR with ⟨h, _⟩ | ⟨_, vn', bn', h1, h2, _, ⟨hf, rfl⟩ | ⟨hf, rfl⟩⟩
            · exact absurd HTP.out h
            · obtain rfl := vI_inj h1
              obtain rfl := bI_inj h2
              obtain ⟨hL1, hL2⟩ := HT1.out.isLeast HT.out HL.out hf
              have HLL : Hid (sl = bl) := Lib.hid (by have := hf.ls; have := HSL.out; have := HL.out; omega)
              have HL2 := Lib.hid hL2
              clear hb7 hf h1 h2 hL2
              by_cases h30 : en ≤ 30
              · by_cases heq : en = (en' : Int)
                · have HLS := Lib.hid (HL2.out heq)
                  have hsl5 : sl ≤ 5 := by have := HLL.out; omega
                  obtain ⟨k0, k1, k2⟩ := cells3 (row_keep HB7.out R6.out)
                  go_upto_region 7 with fail
                  go_wp2_with fail
                  refine (check_any (vI vn) (bn.map bI) (en' : Int) va vl vc ba bl bc sa' bl sc' (vI ss) ya' bl bl (rowsB col bl vn.length) w7 (HVI.out.keep (below_then HB6.out HB7.out)) (HBB.out.keep (below_then HB6.out HB7.out)) (HS6.out.keep HB7.out) (HY6.out.keep HB7.out) hvl hbl hbl hbl).mono ?_
                  rintro e w8 ⟨z, rfl, hR, hb8⟩
                  have HB8 := Lib.hid (below_then HB7.out hb8)
                  have HB8V := Lib.hid (below_then HB6.out HB8.out)
                  obtain ⟨q0, q1, q2⟩ := cells3 (row_keep HB8V.out R.out)
                  obtain ⟨k0, k1, k2⟩ := cells3 (row_keep HB8.out R6.out)
                  rcases hR with ⟨h, _⟩ | ⟨_, vn', bn', h1, h2, _, ⟨hg, rfl⟩ | ⟨hg, rfl⟩⟩
                  · exact absurd HTP.out h
                  · obtain rfl := vI_inj h1
                    obtain rfl := bI_inj h2
                    clear hb8 hg h1 h2
                    go_upto_region 9 with fail
                    go_wp2_with fail
                    refine (less_any sa sl sc sa' bl sc' zs (vI ss) w8 (HSS.out.keep HB8V.out) (HS6.out.keep HB8.out) HLL.out (by omega)).mono ?_
                    rintro e w9 ⟨rfl, hd9⟩
                    rw [HLS.out]
                    have HB9 := Lib.hid (below_then HB8V.out hd9.below)
                    clear hd9
                    have PA := Lib.hid (awake_any w9 (HNN.out.keep HB9.out))
                    go_wp2_with (go_at_call 9; refine PA.out.mono ?_; rintro e wz ⟨rfl, hbz⟩; have HBZ := Lib.hid (HB.out.trans ((below_then HB9.out hbz).mono HB.out.size)); clear hbz)
                    go_ret
                    exact ⟨rfl, HBZ.out⟩
                  · obtain rfl := vI_inj h1
                    obtain rfl := bI_inj h2
                    exact absurd HFB.out hg
                · skip
                  obtain ⟨k0, k1, k2⟩ := cells3 (row_keep HB7.out R6.out)
                  go_upto_region 7 with fail
                  go_wp2_with fail
                  refine (check_any (vI vn) (bn.map bI) (en' : Int) va vl vc ba bl bc sa' bl sc' (vI ss) ya' bl bl (rowsB col bl vn.length) w7 (HVI.out.keep (below_then HB6.out HB7.out)) (HBB.out.keep (below_then HB6.out HB7.out)) (HS6.out.keep HB7.out) (HY6.out.keep HB7.out) hvl hbl hbl hbl).mono ?_
                  rintro e w8 ⟨z, rfl, hR, hb8⟩
                  have HB8 := Lib.hid (below_then HB7.out hb8)
                  have HB8V := Lib.hid (below_then HB6.out HB8.out)
                  obtain ⟨q0, q1, q2⟩ := cells3 (row_keep HB8V.out R.out)
                  obtain ⟨k0, k1, k2⟩ := cells3 (row_keep HB8.out R6.out)
                  rcases hR with ⟨h, _⟩ | ⟨_, vn', bn', h1, h2, _, ⟨hg, rfl⟩ | ⟨hg, rfl⟩⟩
                  · exact absurd HTP.out h
                  · obtain rfl := vI_inj h1
                    obtain rfl := bI_inj h2
                    clear hb8 hg h1 h2
                    have PA := Lib.hid (awake_any w8 (HNN.out.keep HB8V.out))
                    go_wp2_with (go_at_call 9; refine PA.out.mono ?_; rintro e wz ⟨rfl, hbz⟩; have HBZ := Lib.hid (HB.out.trans ((below_then HB8V.out hbz).mono HB.out.size)); clear hbz)
                    go_ret
                    exact ⟨rfl, HBZ.out⟩
                  · obtain rfl := vI_inj h1
                    obtain rfl := bI_inj h2
                    exact absurd HFB.out hg
              · skip
                obtain ⟨k0, k1, k2⟩ := cells3 (row_keep HB7.out R6.out)
                go_upto_region 7 with fail
                go_wp2_with fail
                refine (check_any (vI vn) (bn.map bI) (en' : Int) va vl vc ba bl bc sa' bl sc' (vI ss) ya' bl bl (rowsB col bl vn.length) w7 (HVI.out.keep (below_then HB6.out HB7.out)) (HBB.out.keep (below_then HB6.out HB7.out)) (HS6.out.keep HB7.out) (HY6.out.keep HB7.out) hvl hbl hbl hbl).mono ?_
                rintro e w8 ⟨z, rfl, hR, hb8⟩
                have HB8 := Lib.hid (below_then HB7.out hb8)
                have HB8V := Lib.hid (below_then HB6.out HB8.out)
                obtain ⟨q0, q1, q2⟩ := cells3 (row_keep HB8V.out R.out)
                obtain ⟨k0, k1, k2⟩ := cells3 (row_keep HB8.out R6.out)
                rcases hR with ⟨h, _⟩ | ⟨_, vn', bn', h1, h2, _, ⟨hg, rfl⟩ | ⟨hg, rfl⟩⟩
                · exact absurd HTP.out h
                · obtain rfl := vI_inj h1
                  obtain rfl := bI_inj h2
                  clear hb8 hg h1 h2
                  have PA := Lib.hid (awake_any w8 (HNN.out.keep HB8V.out))
                  go_wp2_with (go_at_call 9; refine PA.out.mono ?_; rintro e wz ⟨rfl, hbz⟩; have HBZ := Lib.hid (HB.out.trans ((below_then HB8V.out hbz).mono HB.out.size)); clear hbz)
                  go_ret
                  exact ⟨rfl, HBZ.out⟩
                · obtain rfl := vI_inj h1
                  obtain rfl := bI_inj h2
                  exact absurd HFB.out hg
            · clear hb7 hf h1 h2
              obtain ⟨k0, k1, k2⟩ := cells3 (row_keep HB7.out R6.out)
              go_upto_region 7 with fail
              go_wp2_with fail
              refine (check_any (vI vn) (bn.map bI) (en' : Int) va vl vc ba bl bc sa' bl sc' (vI ss) ya' bl bl (rowsB col bl vn.length) w7 (HVI.out.keep (below_then HB6.out HB7.out)) (HBB.out.keep (below_then HB6.out HB7.out)) (HS6.out.keep HB7.out) (HY6.out.keep HB7.out) hvl hbl hbl hbl).mono ?_
              rintro e w8 ⟨z, rfl, hR, hb8⟩
              have HB8 := Lib.hid (below_then HB7.out hb8)
              have HB8V := Lib.hid (below_then HB6.out HB8.out)
              obtain ⟨q0, q1, q2⟩ := cells3 (row_keep HB8V.out R.out)
              obtain ⟨k0, k1, k2⟩ := cells3 (row_keep HB8.out R6.out)
              rcases hR with ⟨h, _⟩ | ⟨_, vn', bn', h1, h2, _, ⟨hg, rfl⟩ | ⟨hg, rfl⟩⟩
              · exact absurd HTP.out h
              · obtain rfl := vI_inj h1
                obtain rfl := bI_inj h2
                clear hb8 hg h1 h2
                have PA := Lib.hid (awake_any w8 (HNN.out.keep HB8V.out))
                go_wp2_with (go_at_call 9; refine PA.out.mono ?_; rintro e wz ⟨rfl, hbz⟩; have HBZ := Lib.hid (HB.out.trans ((below_then HB8V.out hbz).mono HB.out.size)); clear hbz)
                go_ret
                exact ⟨rfl, HBZ.out⟩
              · obtain rfl := vI_inj h1
                obtain rfl := bI_inj h2
                exact absurd HFB.out hg
      · have HB3 := Lib.hid (below_then HB2.out hb3)
        have PA := Lib.hid (awake_any w3 (HNN.out.keep HB3.out))
        clear hb3 ht
        go_wp2_with (go_at_call 9; refine PA.out.mono ?_; rintro e w4 ⟨rfl, hb4⟩; have HB4 := Lib.hid (HB.out.trans ((below_then HB3.out hb4).mono HB.out.size)); clear hb4)
        go_ret
        exact ⟨rfl, HB4.out⟩
end Go.Proofs.YtbidadkcdchomaaDoor
