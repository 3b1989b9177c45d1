/- Part 5 of the contracts: LehE, DivM, Est, Long, Rat1, Rat2, DivA. -/
import Derived.IntWalk
import Derived.WalkMore
import Derived.Test.YtbihgllfllkkaaaPart4

/- (num.steps).apply. -/
set_option linter.unusedVariables false
namespace Go.Proofs.Ytbihgllfllkkaaa
open Go.RowKit

def ApplyPost (A B : Nat) (W : World) (e : Ending) (w' : World) : Prop :=
  ∃ ao la ca bo lb cb, e = .returned (.tuple #[.slice ao la ca, .slice bo lb cb]) ∧ N32 w' ao la A ∧ N32 w' bo lb B ∧ Below W.heap.size W w'

set_option maxRecDepth 8000 in
set_option maxHeartbeats 4000000 in
theorem apply_odd (ao bo : Option Addr) (la lb ca cb A B α β γ δ A' B' : Nat) (W : World) (ha : N32 W ao la A) (hb : N32 W bo lb B) (hlA : la ≤ 1000000000) (hlB : lb ≤ 1000000000)
    (hα : α < 4294967296) (hβ : β < 4294967296) (hγ : γ < 4294967296) (hδ : δ < 4294967296) (h1 : β * B = α * A + A') (h2 : γ * A = δ * B + B') (h3 : A' ≤ A) (h4 : B' ≤ A) :
    Calls Try.prog 84 #[.agg #[.int .u64 (α : Int), .int .u64 (β : Int), .int .u64 (γ : Int), .int .u64 (δ : Int), .bool true], .slice ao la ca, .slice bo lb cb] W (ApplyPost A' B' W) := by
  have hf : Fr W (W.alloc (.cells #[.int .u64 (α : Int), .int .u64 (β : Int), .int .u64 (γ : Int), .int .u64 (δ : Int), .bool true] 102)) [(102, #[.int .u64 (α : Int), .int .u64 (β : Int), .int .u64 (γ : Int), .int .u64 (δ : Int), .bool true])] := (Fr.nil W).alloc rfl _ _
  have HF := Lib.hid hf
  have HA := Lib.hid (ha.keep hf.below)
  have HB := Lib.hid (hb.keep hf.below)
  have H1 := Lib.hid h1
  have H2 := Lib.hid h2
  clear ha hb h1 h2 hf
  go_enter Try.func84, Try.ntmps84
  go_wp2_with fail
  obtain ⟨W1, hW1⟩ : ∃ W1, W1 = W.alloc (.cells #[.int .u64 (α : Int), .int .u64 (β : Int), .int .u64 (γ : Int), .int .u64 (δ : Int), .bool true] 102) := ⟨_, rfl⟩
  rw [← hW1] at HF HA HB ⊢
  clear hW1
  have c0 : W1.cell? ⟨W.heap.size, 0, none⟩ = some (.int .u64 (α : Int)) := HF.out.cell 0 0 rfl rfl
  have c1 : W1.cell? ⟨W.heap.size, 1, none⟩ = some (.int .u64 (β : Int)) := HF.out.cell 0 1 rfl rfl
  have c2 : W1.cell? ⟨W.heap.size, 2, none⟩ = some (.int .u64 (γ : Int)) := HF.out.cell 0 2 rfl rfl
  have c3 : W1.cell? ⟨W.heap.size, 3, none⟩ = some (.int .u64 (δ : Int)) := HF.out.cell 0 3 rfl rfl
  have c4 : W1.cell? ⟨W.heap.size, 4, none⟩ = some (.bool true) := HF.out.cell 0 4 rfl rfl
  go_region_held3 (fun w' => w'.cell? ⟨W.heap.size, 0, none⟩ = some (.int .u64 (α : Int)) ∧ w'.cell? ⟨W.heap.size, 1, none⟩ = some (.int .u64 (β : Int)) ∧ w'.cell? ⟨W.heap.size, 2, none⟩ = some (.int .u64 (γ : Int)) ∧ w'.cell? ⟨W.heap.size, 3, none⟩ = some (.int .u64 (δ : Int)) ∧ w'.cell? ⟨W.heap.size, 4, none⟩ = some (.bool true)) (go_keep)
    (first | (go_at_call 97; refine (combine_any _ _ _ _ _ _ A γ B δ B' _ _ w1 (HA.out.keep HB1.out) (HB.out.keep HB1.out) hlA hlB rfl rfl hγ hδ H2.out (.inl h4)).mono ?_; rintro e w2 ⟨o2, l2, c2_, rfl, hr2, hb2⟩; have HB2 := Lib.hid hb2; have HR2 := Lib.hid hr2; have HR12 := Lib.hid (HR1.out.keep hb2); have HF2 := Lib.hid (HF1.out.later hb2); clear hr2 hb2; have d20 : w2.cell? ⟨W.heap.size, 0, none⟩ = some (.int .u64 (α : Int)) := HF2.out.cell 0 0 rfl rfl; have d21 : w2.cell? ⟨W.heap.size, 1, none⟩ = some (.int .u64 (β : Int)) := HF2.out.cell 0 1 rfl rfl; have d22 : w2.cell? ⟨W.heap.size, 2, none⟩ = some (.int .u64 (γ : Int)) := HF2.out.cell 0 2 rfl rfl; have d23 : w2.cell? ⟨W.heap.size, 3, none⟩ = some (.int .u64 (δ : Int)) := HF2.out.cell 0 3 rfl rfl; have d24 : w2.cell? ⟨W.heap.size, 4, none⟩ = some (.bool true) := HF2.out.cell 0 4 rfl rfl) | (go_at_call 97; refine (combine_any _ _ _ _ _ _ B β A α A' _ _ W1.drew (HB.out.keep (Below.refl _ _).drew) (HA.out.keep (Below.refl _ _).drew) hlB hlA rfl rfl hβ hα H1.out (.inr h3)).mono ?_; rintro e w1 ⟨o1, l1, c1_, rfl, hr1, hb1⟩; have HB1 := Lib.hid (below_of_drew hb1); have HR1 := Lib.hid hr1; have HF1 := Lib.hid (HF.out.later HB1.out); clear hr1 hb1; have d10 : w1.cell? ⟨W.heap.size, 0, none⟩ = some (.int .u64 (α : Int)) := HF1.out.cell 0 0 rfl rfl; have d11 : w1.cell? ⟨W.heap.size, 1, none⟩ = some (.int .u64 (β : Int)) := HF1.out.cell 0 1 rfl rfl; have d12 : w1.cell? ⟨W.heap.size, 2, none⟩ = some (.int .u64 (γ : Int)) := HF1.out.cell 0 2 rfl rfl; have d13 : w1.cell? ⟨W.heap.size, 3, none⟩ = some (.int .u64 (δ : Int)) := HF1.out.cell 0 3 rfl rfl; have d14 : w1.cell? ⟨W.heap.size, 4, none⟩ = some (.bool true) := HF1.out.cell 0 4 rfl rfl))
  go_wp2
  go_ret2
  exact ⟨o1, l1, c1_, o2, l2, c2_, rfl, HR12.out, HR2.out, HF2.out.below⟩

set_option maxRecDepth 8000 in
set_option maxHeartbeats 4000000 in
theorem apply_even (ao bo : Option Addr) (la lb ca cb A B α β γ δ A' B' : Nat) (W : World) (ha : N32 W ao la A) (hb : N32 W bo lb B) (hlA : la ≤ 1000000000) (hlB : lb ≤ 1000000000)
    (hα : α < 4294967296) (hβ : β < 4294967296) (hγ : γ < 4294967296) (hδ : δ < 4294967296) (h1 : α * A = β * B + A') (h2 : δ * B = γ * A + B') (h3 : A' ≤ A) (h4 : B' ≤ A) :
    Calls Try.prog 84 #[.agg #[.int .u64 (α : Int), .int .u64 (β : Int), .int .u64 (γ : Int), .int .u64 (δ : Int), .bool false], .slice ao la ca, .slice bo lb cb] W (ApplyPost A' B' W) := by
  have hf : Fr W (W.alloc (.cells #[.int .u64 (α : Int), .int .u64 (β : Int), .int .u64 (γ : Int), .int .u64 (δ : Int), .bool false] 102)) [(102, #[.int .u64 (α : Int), .int .u64 (β : Int), .int .u64 (γ : Int), .int .u64 (δ : Int), .bool false])] := (Fr.nil W).alloc rfl _ _
  have HF := Lib.hid hf
  have HA := Lib.hid (ha.keep hf.below)
  have HB := Lib.hid (hb.keep hf.below)
  have H1 := Lib.hid h1
  have H2 := Lib.hid h2
  clear ha hb h1 h2 hf
  go_enter Try.func84, Try.ntmps84
  go_wp2_with fail
  obtain ⟨W1, hW1⟩ : ∃ W1, W1 = W.alloc (.cells #[.int .u64 (α : Int), .int .u64 (β : Int), .int .u64 (γ : Int), .int .u64 (δ : Int), .bool false] 102) := ⟨_, rfl⟩
  rw [← hW1] at HF HA HB ⊢
  clear hW1
  have c0 : W1.cell? ⟨W.heap.size, 0, none⟩ = some (.int .u64 (α : Int)) := HF.out.cell 0 0 rfl rfl
  have c1 : W1.cell? ⟨W.heap.size, 1, none⟩ = some (.int .u64 (β : Int)) := HF.out.cell 0 1 rfl rfl
  have c2 : W1.cell? ⟨W.heap.size, 2, none⟩ = some (.int .u64 (γ : Int)) := HF.out.cell 0 2 rfl rfl
  have c3 : W1.cell? ⟨W.heap.size, 3, none⟩ = some (.int .u64 (δ : Int)) := HF.out.cell 0 3 rfl rfl
  have c4 : W1.cell? ⟨W.heap.size, 4, none⟩ = some (.bool false) := HF.out.cell 0 4 rfl rfl
  go_region_held3 (fun w' => w'.cell? ⟨W.heap.size, 0, none⟩ = some (.int .u64 (α : Int)) ∧ w'.cell? ⟨W.heap.size, 1, none⟩ = some (.int .u64 (β : Int)) ∧ w'.cell? ⟨W.heap.size, 2, none⟩ = some (.int .u64 (γ : Int)) ∧ w'.cell? ⟨W.heap.size, 3, none⟩ = some (.int .u64 (δ : Int)) ∧ w'.cell? ⟨W.heap.size, 4, none⟩ = some (.bool false)) (go_keep)
    (first | (go_at_call 97; refine (combine_any _ _ _ _ _ _ B δ A γ B' _ _ w1 (HB.out.keep HB1.out) (HA.out.keep HB1.out) hlB hlA rfl rfl hδ hγ H2.out (.inr h4)).mono ?_; rintro e w2 ⟨o2, l2, c2_, rfl, hr2, hb2⟩; have HB2 := Lib.hid hb2; have HR2 := Lib.hid hr2; have HR12 := Lib.hid (HR1.out.keep hb2); have HF2 := Lib.hid (HF1.out.later hb2); clear hr2 hb2; have d20 : w2.cell? ⟨W.heap.size, 0, none⟩ = some (.int .u64 (α : Int)) := HF2.out.cell 0 0 rfl rfl; have d21 : w2.cell? ⟨W.heap.size, 1, none⟩ = some (.int .u64 (β : Int)) := HF2.out.cell 0 1 rfl rfl; have d22 : w2.cell? ⟨W.heap.size, 2, none⟩ = some (.int .u64 (γ : Int)) := HF2.out.cell 0 2 rfl rfl; have d23 : w2.cell? ⟨W.heap.size, 3, none⟩ = some (.int .u64 (δ : Int)) := HF2.out.cell 0 3 rfl rfl; have d24 : w2.cell? ⟨W.heap.size, 4, none⟩ = some (.bool false) := HF2.out.cell 0 4 rfl rfl) | (go_at_call 97; refine (combine_any _ _ _ _ _ _ A α B β A' _ _ W1.drew (HA.out.keep (Below.refl _ _).drew) (HB.out.keep (Below.refl _ _).drew) hlA hlB rfl rfl hα hβ H1.out (.inl h3)).mono ?_; rintro e w1 ⟨o1, l1, c1_, rfl, hr1, hb1⟩; have HB1 := Lib.hid (below_of_drew hb1); have HR1 := Lib.hid hr1; have HF1 := Lib.hid (HF.out.later HB1.out); clear hr1 hb1; have d10 : w1.cell? ⟨W.heap.size, 0, none⟩ = some (.int .u64 (α : Int)) := HF1.out.cell 0 0 rfl rfl; have d11 : w1.cell? ⟨W.heap.size, 1, none⟩ = some (.int .u64 (β : Int)) := HF1.out.cell 0 1 rfl rfl; have d12 : w1.cell? ⟨W.heap.size, 2, none⟩ = some (.int .u64 (γ : Int)) := HF1.out.cell 0 2 rfl rfl; have d13 : w1.cell? ⟨W.heap.size, 3, none⟩ = some (.int .u64 (δ : Int)) := HF1.out.cell 0 3 rfl rfl; have d14 : w1.cell? ⟨W.heap.size, 4, none⟩ = some (.bool false) := HF1.out.cell 0 4 rfl rfl))
  go_wp2
  go_ret2
  exact ⟨o1, l1, c1_, o2, l2, c2_, rfl, HR12.out, HR2.out, HF2.out.below⟩

theorem apply_any (ao bo : Option Addr) (la lb ca cb A B α β γ δ A' B' : Nat) (odd : Bool) (W : World) (ha : N32 W ao la A) (hb : N32 W bo lb B) (hlA : la ≤ 1000000000) (hlB : lb ≤ 1000000000)
    (hα : α < 4294967296) (hβ : β < 4294967296) (hγ : γ < 4294967296) (hδ : δ < 4294967296) (h : Stepped A B α β γ δ odd A' B') (h3 : A' ≤ A) (h4 : B' ≤ A) :
    Calls Try.prog 84 #[.agg #[.int .u64 (α : Int), .int .u64 (β : Int), .int .u64 (γ : Int), .int .u64 (δ : Int), .bool odd], .slice ao la ca, .slice bo lb cb] W (ApplyPost A' B' W) := by
  cases odd with
  | true => exact apply_odd ao bo la lb ca cb A B α β γ δ A' B' W ha hb hlA hlB hα hβ hγ hδ (h.odd rfl).1 (h.odd rfl).2 h3 h4
  | false => exact apply_even ao bo la lb ca cb A B α β γ δ A' B' W ha hb hlA hlB hα hβ hγ hδ (h.even rfl).1 (h.even rfl).2 h3 h4
end Go.Proofs.Ytbihgllfllkkaaa

/- Plain facts for the long division. No program. -/
set_option linter.unusedVariables false
namespace Go.Proofs.Ytbihgllfllkkaaa

/-- the estimate is not too great, and fits into a digit -/
theorem est_le {B n P D lp ld high dt : Nat} (hB : 0 < B) (hP : P = lp + B ^ n * high) (hlp : lp < B ^ n) (hD : D = ld + B ^ n * dt) (hld : ld < B ^ n) (hlt : P < D * B) :
    high / (dt + 1) * D ≤ P ∧ high / (dt + 1) < B := by
  have h1 : D ≤ B ^ n * (dt + 1) := by rw [Nat.mul_add]; omega
  have h2 : high / (dt + 1) * (dt + 1) ≤ high := Nat.div_mul_le_self _ _
  constructor
  · have h3 : high / (dt + 1) * D ≤ high / (dt + 1) * (B ^ n * (dt + 1)) := Nat.mul_le_mul_left _ h1
    have h4 : high / (dt + 1) * (B ^ n * (dt + 1)) = B ^ n * (high / (dt + 1) * (dt + 1)) := by
      rw [Nat.mul_left_comm]
    have h5 : B ^ n * (high / (dt + 1) * (dt + 1)) ≤ B ^ n * high := Nat.mul_le_mul_left _ h2
    omega
  · have h3 : B ^ n * high < B ^ n * ((dt + 1) * B) := by
      have : D * B ≤ B ^ n * (dt + 1) * B := Nat.mul_le_mul_right _ h1
      rw [Nat.mul_assoc] at this
      omega
    have h4 := Nat.lt_of_mul_lt_mul_left h3
    rw [Nat.div_lt_iff_lt_mul (by omega)]
    rw [Nat.mul_comm]
    exact h4

/-- the rest behind the digits that count -/
theorem post_zero {B a m : Nat} {pre seg post : List Nat} (hB : 0 < B) (ha : pre.length = a) (hm : seg.length = m) (h : val B (pre ++ seg ++ post) < B ^ (a + m)) : val B post = 0 := by
  rw [val_append, List.length_append, ha, hm] at h
  rcases Nat.eq_zero_or_pos (val B post) with h0 | h0
  · exact h0
  · have : B ^ (a + m) * 1 ≤ B ^ (a + m) * val B post := Nat.mul_le_mul_left _ h0
    omega

theorem three_val {B : Nat} (pre seg post : List Nat) (hp : val B post = 0) : val B (pre ++ seg ++ post) = val B pre + B ^ pre.length * val B seg := by
  rw [val_append, val_append, hp]; simp

/-- one subtraction of the long division -/
theorem div_sub {B N D a q t R R' S S' p Q Q' : Nat} (hR : R = p + B ^ a * S) (hR' : R' = p + B ^ a * S') (hS : S' + t * D = S) (hQ' : Q' = Q + B ^ a * t) (hN : Q * D + R = N) (hlt : q * D * B ^ a + R < D * B ^ (a + 1)) :
    Q' * D + R' = N ∧ (q + t) * D * B ^ a + R' < D * B ^ (a + 1) ∧ R' + B ^ a * (t * D) = R ∧ q + t < B := by
  have e1 : B ^ a * S = B ^ a * S' + B ^ a * (t * D) := by rw [← hS, Nat.mul_add]
  have e2 : R' + B ^ a * (t * D) = R := by omega
  have e3 : Q' * D = Q * D + B ^ a * (t * D) := by rw [hQ', Nat.add_mul, Nat.mul_assoc]
  have e4 : (q + t) * D * B ^ a = q * D * B ^ a + B ^ a * (t * D) := by
    rw [Nat.add_mul, Nat.add_mul, Nat.mul_comm (t * D)]
  refine ⟨by omega, by omega, e2, ?_⟩
  have h1 : (q + t) * D * B ^ a < D * B ^ (a + 1) := by omega
  have h2 : (q + t) * (D * B ^ a) < B * (D * B ^ a) := by
    rw [← Nat.mul_assoc]
    have : D * B ^ (a + 1) = B * (D * B ^ a) := by rw [Nat.pow_succ, ← Nat.mul_assoc, Nat.mul_comm]
    omega
  exact Nat.lt_of_mul_lt_mul_right h2

/-- one step down -/
theorem div_down {B D a R p S : Nat} (hR : R = p + B ^ (a + 1) * S) (hp : p < B ^ (a + 1)) (hS : S < D) : R < D * B ^ (a + 1) := by
  have : B ^ (a + 1) * (S + 1) ≤ B ^ (a + 1) * D := Nat.mul_le_mul_left _ hS
  rw [Nat.mul_comm D]
  rw [Nat.mul_add] at this
  omega

theorem div_start {B A b la lb s : Nat} (hs : 0 < s) (hA : A < B ^ la) (hb : B ^ (lb - 1) ≤ b) (hl : lb ≤ la) (h0 : 0 < lb) : A * s < b * s * B ^ (la - lb + 1) := by
  have h1 : B ^ la = B ^ (lb - 1) * B ^ (la - lb + 1) := by rw [← Nat.pow_add]; congr 1; omega
  have h2 : B ^ (lb - 1) * B ^ (la - lb + 1) ≤ b * B ^ (la - lb + 1) := Nat.mul_le_mul_right _ hb
  have h3 : A < b * B ^ (la - lb + 1) := by omega
  have h4 := Nat.mul_lt_mul_of_pos_right h3 hs
  have e : b * B ^ (la - lb + 1) * s = b * s * B ^ (la - lb + 1) := by rw [Nat.mul_right_comm]
  omega

theorem div_end {A b s Q R : Nat} (hs : 0 < s) (hb : 0 < b) (h : Q * (b * s) + R = A * s) (hR : R < b * s) : Q = A / b ∧ R / s = A % b := by
  have hA := Nat.div_add_mod A b
  have hm := Nat.mod_lt A hb
  have h1 : (A / b) * (b * s) + (A % b) * s = A * s := by
    rw [← Nat.mul_assoc, ← Nat.add_mul, Nat.mul_comm (A / b) b, hA]
  have h2 : (A % b) * s < b * s := Nat.mul_lt_mul_of_pos_right hm hs
  have hbs : 0 < b * s := Nat.mul_pos hb hs
  have hq : Q = A / b := by
    have e1 : (A * s) / (b * s) = Q := by
      rw [← h, Nat.mul_comm Q, Nat.mul_add_div hbs, Nat.div_eq_of_lt hR, Nat.add_zero]
    have e2 : (A * s) / (b * s) = A / b := Nat.mul_div_mul_right _ _ hs
    omega
  refine ⟨hq, ?_⟩
  subst hq
  have : R = (A % b) * s := by omega
  rw [this, Nat.mul_div_cancel _ hs]

end Go.Proofs.Ytbihgllfllkkaaa

/- estimate. -/
set_option linter.unusedVariables false
namespace Go.Proofs.Ytbihgllfllkkaaa
open Go.RowKit

def EstPost (t : Nat) (W : World) (e : Ending) (w' : World) : Prop := e = .returned (.int .u32 (t : Int)) ∧ ∃ m, w' = W.drewN m

set_option maxHeartbeats 1000000 in
theorem estimate_raw (po bo : Option Addr) (lp lb n pc bc : Nat) (seg ds : List Nat) (W : World) (hlp : lp = lb + 1) (hlb : lb = n + 1) (hp : Sl .u32 W po lp seg) (hdp : Dig B32 seg) (hb : Sl .u32 W bo lb ds) (hdb : Dig B32 ds) (hn : n ≤ 1000000000)
    (t : Nat) (ht : t = (seg[lb]?.getD 0 * B32 + seg[n]?.getD 0) / (ds[n]?.getD 0 + 1)) (htb : t < B32) :
    Calls Try.prog 94 #[.slice po lp pc, .slice bo lb bc] W (EstPost (max t 1) W) := by
  obtain ⟨hpl, pb, pf, hpo, hpc⟩ := hp
  obtain ⟨hbl, bb, bf, hbo, hbc⟩ := hb
  obtain rfl := hpo (by omega)
  obtain rfl := hbo (by omega)
  have c1 := hpc lb (by omega)
  have c2 := hpc n (by omega)
  have c3 := hbc n (by omega)
  have hx := hdp.get B32_pos lb
  have hy := hdp.get B32_pos n
  have hz := hdb.get B32_pos n
  obtain ⟨x, hxe⟩ : ∃ x, x = seg[lb]?.getD 0 := ⟨_, rfl⟩
  obtain ⟨y, hye⟩ : ∃ x, x = seg[n]?.getD 0 := ⟨_, rfl⟩
  obtain ⟨z, hze⟩ : ∃ x, x = ds[n]?.getD 0 := ⟨_, rfl⟩
  rw [← hxe] at c1 hx ht
  rw [← hye] at c2 hy ht
  rw [← hze] at c3 hz ht
  rw [B32_eq] at hx hy hz htb ht
  have HT := Lib.hid ht
  have HLB := Lib.hid hlb
  have b0 : (0 : Int) ≤ (lb : Int) := by omega
  have b1 : (1 : Int) ≤ (lb : Int) := by omega
  have b2 : (lb : Int) < (lp : Int) := by omega
  have b3 : (lb : Int) - 1 < (lp : Int) := by omega
  have b4 : (lb : Int) ≤ 2000000000 := by omega
  have b5 : (lb : Int) - 1 < (lb : Int) := by omega
  have b6 : (0 : Int) ≤ (lb : Int) - 1 := by omega
  have q1 : ((lb : Int) - 1).toNat = n := by omega
  have q3 : IntKind.i64.wrap ((lb : Int) - 1) = (lb : Int) - 1 := IntWalk.i64_in _ (by omega)
  clear hpl hbl hpo hpc hbo hbc hdp hdb hxe hye hze ht hlp hlb
  have ho : bits BinOp.or IntKind.u64 ((x : Int) * 4294967296) (y : Int) = ((x * 4294967296 + y : Nat) : Int) := or_shift' y x 32 4294967296 (by omega) (by decide) (by omega) (by omega)
  have HO := Lib.hid ho
  clear ho
  go_enter Try.func94, Try.ntmps94
  go_wp2
  go_quiet (fail)
  go_wp2
  go_ret
  refine ⟨ret_int ?_, nq, rfl⟩
  rw [HO.out, Int.tdiv_eq_ediv_of_nonneg (Int.natCast_nonneg _)]
  have e : (((x * 4294967296 + y : Nat) : Int) / ((z : Int) + 1)) = (t : Int) := by
    rw [HT.out, Int.natCast_ediv]; rfl
  rw [e, u64_wrap_nat t (by omega)]
  omega

/-- the estimate of the division of one part -/
theorem estimate_any (po bo : Option Addr) (lp lb pc bc : Nat) (seg ds : List Nat) (W : World) (hlp : lp = lb + 1) (hl0 : 0 < lb) (hp : Sl .u32 W po lp seg) (hdp : Dig B32 seg) (hb : Sl .u32 W bo lb ds) (hdb : Dig B32 ds) (hn : lb ≤ 1000000000)
    (hge : val B32 ds ≤ val B32 seg) (hlt : val B32 seg < val B32 ds * B32) :
    Calls Try.prog 94 #[.slice po lp pc, .slice bo lb bc] W fun e w' => ∃ t : Nat, e = .returned (.int .u32 (t : Int)) ∧ 0 < t ∧ t < B32 ∧ t * val B32 ds ≤ val B32 seg ∧ ∃ m, w' = W.drewN m := by
  obtain ⟨n, rfl⟩ : ∃ n, lb = n + 1 := ⟨lb - 1, by omega⟩
  have hsl := hp.len
  have hdl := hb.len
  have hP : val B32 seg = val B32 (seg.take n) + B32 ^ n * (seg[n + 1]?.getD 0 * B32 + seg[n]?.getD 0) := by
    have h1 : seg = seg.take (n + 1 + 1) := (List.take_of_length_le (by omega)).symm
    conv => lhs; rw [h1]
    rw [val_take_succ, val_take_succ, Nat.pow_succ]
    grind
  have hD : val B32 ds = val B32 (ds.take n) + B32 ^ n * ds[n]?.getD 0 := by
    have h1 : ds = ds.take (n + 1) := (List.take_of_length_le (by omega)).symm
    conv => lhs; rw [h1]
    rw [val_take_succ]
  have h1 := val_lt B32_pos (hdp.take n)
  rw [List.length_take, Nat.min_eq_left (by omega)] at h1
  have h2 := val_lt B32_pos (hdb.take n)
  rw [List.length_take, Nat.min_eq_left (by omega)] at h2
  obtain ⟨h3, h4⟩ := est_le B32_pos hP h1 hD h2 hlt
  obtain ⟨t, ht⟩ : ∃ t, t = (seg[n + 1]?.getD 0 * B32 + seg[n]?.getD 0) / (ds[n]?.getD 0 + 1) := ⟨_, rfl⟩
  rw [← ht] at h3 h4
  refine (estimate_raw po bo lp (n + 1) n pc bc seg ds W hlp rfl hp hdp hb hdb (by omega) t ht h4).mono ?_
  rintro e w' ⟨rfl, hw⟩
  refine ⟨max t 1, rfl, by omega, ?_, ?_, hw⟩
  · have : 1 < B32 := by decide
    omega
  · rcases Nat.lt_or_ge t 1 with h | h
    · rw [Nat.max_eq_right (by omega)]; omega
    · rw [Nat.max_eq_left h]; exact h3
end Go.Proofs.Ytbihgllfllkkaaa

/- divideLong, divide. -/
set_option linter.unusedVariables false
namespace Go.Proofs.Ytbihgllfllkkaaa
open Go.RowKit

/-- what the numbers of a block are worth -/
def readBlk (w : World) (g : Nat) : Nat :=
  match w.heap[g]? with
  | some (.cells c _ _) => val B32 (c.toList.map fun v => match v with | .int _ x => x.toNat | _ => 0)
  | _ => 0

theorem readBlk_of {w : World} {g e : Nat} {zs : List Nat} (h : Blk .u32 w g e zs) : readBlk w g = val B32 zs := by
  unfold readBlk
  rw [show w.heap[g]? = some (.cells (cs .u32 zs) e (0, 0)) from h]
  simp only [cs, List.map_map]
  congr 1
  have : ((fun v => match v with | Value.int _ x => x.toNat | _ => 0) ∘ fun z : Nat => Value.int IntKind.u32 ((z : Nat) : Int)) = id := by
    funext z; simp
  rw [this, List.map_id]

def LongRel (g1 g2 g3 la lq k D N : Nat) (dz : List Nat) (W : World) (av : Value) (wr : World) : Prop :=
  ∃ (i : Nat) (rs qs : List Nat), av = .int .i64 (i : Int) ∧ Blk .u32 wr g1 68 dz ∧ Blk .u32 wr g2 68 rs ∧ Blk .u32 wr g3 68 qs ∧ rs.length = la + 1 ∧ Dig B32 rs ∧ qs.length = lq ∧ Dig B32 qs ∧ i + 1 ≤ lq ∧
    val B32 qs * D + val B32 rs = N ∧ (qs[i]?.getD 0) * D * B32 ^ i + val B32 rs < D * B32 ^ (i + 1) ∧ (∀ j, j < i → qs[j]?.getD 0 = 0) ∧ Below W.heap.size W wr

set_option maxHeartbeats 1000000 in
theorem compare_big (ao bo : Option Addr) (la lb ca cb : Nat) (m n : Nat) (w : World) (ha : N32 w ao la m) (hb : N32 w bo lb n) (hla : la ≤ 2000000000) (hlb : lb ≤ 2000000000) :
    Calls Try.prog 61 #[.slice ao la ca, .slice bo lb cb] w (CmpPost m n w) := by
  obtain ⟨xs, ⟨hx, b, off, h0, hc⟩, hd, ht, hv⟩ := ha
  obtain ⟨ys, ⟨hy, b', off', h0', hc'⟩, hd', ht', hv'⟩ := hb
  by_cases hl : la = lb
  · subst hl
    have Hx := Lib.hid hx
    have Hy := Lib.hid hy
    have Hv := Lib.hid hv
    have Hv' := Lib.hid hv'
    have Hd := Lib.hid hd
    have Hd' := Lib.hid hd'
    have H0 := Lib.hid h0
    have H0' := Lib.hid h0'
    have HC := Lib.hid hc
    have HC' := Lib.hid hc'
    clear hx hy hv hv' hd hd' ht ht' h0 h0' hc hc'
    have hbb : ((la : Int) != (la : Int)) = false := by simp
    go_enter Try.func61, Try.ntmps61
    go_wp2
    go_loopw [5] (fun t wr => ∃ i : Nat, i ≤ la ∧ t = .int .i64 ((i : Int) - 1) ∧ xs.drop i = ys.drop i ∧ Drew w wr) (fun t _ => (intOf t + 1).toNat)
    case atStart => exact ⟨la, Nat.le_refl _, rfl, by rw [List.drop_of_length_le (by have := Hx.out; omega), List.drop_of_length_le (by have := Hy.out; omega)], Drew.refl _⟩
    case round =>
      obtain ⟨i, hi, rfl, hdr, hw⟩ := hrel
      have HD := Lib.hid hdr
      have HW := Lib.hid hw
      clear hdr hw
      by_cases hi0 : i = 0
      · subst hi0
        go_wp2
        go_ret
        refine ⟨ret_int ?_, HW.out⟩
        rw [cmpN_eq]
        have := HD.out
        simp at this
        rw [← Hv.out, ← Hv'.out, this]
      · obtain ⟨j, rfl⟩ : ∃ j, i = j + 1 := ⟨i - 1, by omega⟩
        have hlen : 0 < la := by omega
        obtain rfl := H0.out hlen
        obtain rfl := H0'.out hlen
        have e1 : (((j + 1 : Nat) : Int) - 1) = (j : Int) := by omega
        rw [e1]
        clear e1
        have c1 := (HW.out.cell ⟨b, off + j, none⟩).trans (HC.out j (by omega))
        have c2 := (HW.out.cell ⟨b', off' + j, none⟩).trans (HC'.out j (by omega))
        have b1 : (0 : Int) ≤ (j : Int) := by omega
        have b2 : (j : Int) < (la : Int) := by omega
        obtain ⟨x, hxe⟩ : ∃ x, x = xs[j]?.getD 0 := ⟨_, rfl⟩
        obtain ⟨y, hye⟩ : ∃ x, x = ys[j]?.getD 0 := ⟨_, rfl⟩
        rw [← hxe] at c1
        rw [← hye] at c2
        have Ex := Lib.hid hxe
        have Ey := Lib.hid hye
        clear hxe hye
        have hjx : j < xs.length := by have := Hx.out; omega
        have hxy : xs.length = ys.length := by rw [Hx.out, Hy.out]
        have HXY := Lib.hid hxy
        have HJX := Lib.hid hjx
        clear hjx hxy
        rcases Nat.lt_trichotomy x y with hlt | heq | hgt
        · have t1 : (x : Int) < (y : Int) := by omega
          go_wp2
          go_quiet (fail)
          go_wp2
          go_ret
          refine ⟨ret_int ?_, HW.out.more _⟩
          have hlt2 := hlt
          rw [Ex.out, Ey.out] at hlt2
          have := val_lt_of_part B32_pos HXY.out Hd.out HJX.out HD.out hlt2
          rw [Hv.out, Hv'.out] at this
          rw [cmpN_lt this]
        · subst heq
          go_wp2
          go_quiet (fail)
          go_wp2
          go_quiet (fail)
          go_wp2
          go_roundw
          case rel => exact ⟨j, by omega, rfl, eq_of_drop HXY.out j HJX.out HD.out (by rw [← Ex.out, ← Ey.out]), by first | exact HW.out.more _ | exact (HW.out.more _).more _⟩
          case measure => simp [intOf]
        · have t1 : (y : Int) < (x : Int) := by omega
          have t2 : ¬ (x : Int) < (y : Int) := by omega
          go_wp2
          go_quiet (fail)
          go_wp2
          go_quiet (fail)
          go_wp2
          go_ret
          refine ⟨ret_int ?_, by first | exact HW.out.more _ | exact (HW.out.more _).more _⟩
          have hlt2 := hgt
          rw [Ex.out, Ey.out] at hlt2
          have := val_lt_of_part B32_pos HXY.out.symm Hd'.out (HXY.out ▸ HJX.out) HD.out.symm hlt2
          rw [Hv.out, Hv'.out] at this
          rw [cmpN_gt this]
  · have hbb : ((la : Int) != (lb : Int)) = true := by simp; omega
    rcases Nat.lt_or_gt_of_ne hl with hlt | hgt
    · have t1 : (la : Int) < (lb : Int) := by omega
      have hvv := val_lt_of_len B32_pos hd ht' (by omega)
      rw [hv, hv'] at hvv
      rw [show CmpPost m n w = CmpPost m n w from rfl]
      have HV := Lib.hid hvv
      clear hx hy hv hv' hd hd' ht ht' h0 h0' hc hc' hvv
      go_enter Try.func61, Try.ntmps61
      go_wp2
      go_ret
      exact ⟨ret_int (cmpN_lt HV.out).symm, Drew.refl _⟩
    · have t1 : ¬ (la : Int) < (lb : Int) := by omega
      have hvv := val_lt_of_len B32_pos hd' ht (by omega)
      rw [hv, hv'] at hvv
      have HV := Lib.hid hvv
      clear hx hy hv hv' hd hd' ht ht' h0 h0' hc hc' hvv
      go_enter Try.func61, Try.ntmps61
      go_wp2
      go_ret
      exact ⟨ret_int (cmpN_gt HV.out).symm, Drew.refl _⟩

set_option maxHeartbeats 400000 in
theorem shiftRight_nil (s : Nat) (w : World) :
    Calls Try.prog 95 #[.slice none 0 0, .int .i64 (s : Int)] w fun e w' => e = .returned (.slice none 0 0) ∧ w = w' := by
  go_enter Try.func95, Try.ntmps95
  go_wp2
  go_loop [9] (fun iv => iv = .int .i64 0) (fun iv => 0)
  case atStart => rfl
  case round =>
    obtain rfl := hrel
    have HS := Lib.hid (Sl.nil .u32 w none)
    go_wp2_with fail
    refine (trim_raw _ _ _ [] _ HS.out (by omega) (by omega)).mono ?_
    rintro e w3 ⟨⟨ao', m, rfl, hm, ha', hz', ht, hzz⟩, rfl⟩
    obtain rfl : m = 0 := by omega
    obtain rfl := hz' rfl
    clear ha' hz' ht hzz
    go_wp2
    go_ret
    exact ⟨rfl, rfl⟩

theorem shift_top {n m x l s : Nat} (hn : n = m + B32 ^ l * x) (hm : m < B32 ^ l) (hs : blen x + s = 32) : n * 2 ^ s < B32 ^ (l + 1) := by
  have h1 : x + 1 ≤ 2 ^ blen x := blen_lt x
  have h2 : n + 1 ≤ B32 ^ l * (x + 1) := by rw [Nat.mul_add]; omega
  have h3 : (n + 1) * 2 ^ s ≤ B32 ^ l * (x + 1) * 2 ^ s := Nat.mul_le_mul_right _ h2
  have h4 : B32 ^ l * (x + 1) * 2 ^ s ≤ B32 ^ l * 2 ^ blen x * 2 ^ s := Nat.mul_le_mul_right _ (Nat.mul_le_mul_left _ h1)
  have h5 : B32 ^ l * 2 ^ blen x * 2 ^ s = B32 ^ (l + 1) := by
    rw [Nat.mul_assoc, ← Nat.pow_add, hs, Nat.pow_succ]; rfl
  have h6 : 0 < 2 ^ s := Nat.pow_pos (by decide)
  rw [Nat.add_mul] at h3
  omega

set_option maxHeartbeats 4000000 in
theorem divideLong_any (ao bo : Option Addr) (la lb ca cb A n : Nat) (W : World) (ha : N32 W ao la A) (hb : N32 W bo lb n) (hn : 0 < n) (hnA : n ≤ A) (hla : la ≤ 1000000000) :
    Calls Try.prog 67 #[.slice ao la ca, .slice bo lb cb] W (DivPost A n W) := by
  have hA := ha.lt
  have hlba : lb ≤ la := by
    obtain ⟨ys, h1, h2, h3, h4⟩ := hb
    have := len_le_of_lt B32_gt h3 (Nat.lt_of_le_of_lt (by rw [h4]; exact hnA) hA)
    rw [h1.len] at this; exact this
  have hb0 := hb
  obtain ⟨xs, ⟨hx, b, off, hbo, hc⟩, hd, ht, hv⟩ := hb
  have hlb0 : 0 < lb := by
    rcases Nat.eq_zero_or_pos lb with h | h
    · subst h
      obtain rfl : xs = [] := List.eq_nil_of_length_eq_zero hx
      simp [val] at hv; omega
    · exact h
  obtain ⟨l, rfl⟩ : ∃ l, lb = l + 1 := ⟨lb - 1, by omega⟩
  obtain rfl := hbo (by omega)
  have hcl := hc l (by omega)
  have hxb := hd.get B32_pos l
  have hne : xs[l]?.getD 0 ≠ 0 := by
    have := ht (by intro e; simp [e] at hx)
    rw [List.getLastD_eq_getLast?, List.getLast?_eq_getElem?, hx] at this
    simpa using this
  have hsplit : n = val B32 (xs.take l) + B32 ^ l * (xs[l]?.getD 0) := by
    rw [← hv, ← val_take_succ, List.take_of_length_le (by omega)]
  have hlow : val B32 (xs.take l) < B32 ^ l := by
    have := val_lt B32_pos (hd.take l)
    rwa [List.length_take, Nat.min_eq_left (by omega)] at this
  have hge : B32 ^ l ≤ n := by
    have := val_ge (B := B32) ht (by intro e; simp [e] at hx)
    rwa [hx, hv] at this
  obtain ⟨x, hxe⟩ : ∃ x, x = xs[l]?.getD 0 := ⟨_, rfl⟩
  rw [← hxe] at hcl hxb hne hsplit
  rw [B32_eq] at hxb
  obtain ⟨s, hs⟩ : ∃ s, blen x + s = 32 := ⟨32 - blen x, by have := (blen_le (n := x) (k := 32)).2 hxb; omega⟩
  have hs32 : s < 32 := by
    have h2 := blen_lt x
    rcases Nat.eq_zero_or_pos (blen x) with h | h
    · rw [h] at h2; simp at h2; exact absurd h2 hne
    · omega
  have HTOP := Lib.hid (shift_top hsplit hlow hs)
  have HGE := Lib.hid hge
  have HA := Lib.hid ha
  have HB := Lib.hid hb0
  have HALT := Lib.hid hA
  have HS := Lib.hid hs
  have HE := Lib.hid (lib_blen x hxb)
  have hbl : blen x ≤ 32 := by omega
  have hsi : (32 : Int) - ((blen x : Nat) : Int) = (s : Int) := by omega
  have HSI := Lib.hid hsi
  clear ha hb0 hA hx hbo hc hd ht hv hlow hsplit hge hs hne hxe hsi hbl
  have hDpos : 0 < n * 2 ^ s := Nat.mul_pos hn (Nat.pow_pos (by decide))
  obtain ⟨D, hDe⟩ : ∃ D, D = n * 2 ^ s := ⟨_, rfl⟩
  obtain ⟨N, hNe⟩ : ∃ N, N = A * 2 ^ s := ⟨_, rfl⟩
  have hstart : N < D * B32 ^ (la - (l + 1) + 1) := by rw [hDe, hNe]; exact div_start (Nat.pow_pos (by decide)) HALT.out (by simpa using HGE.out) hlba (by omega)
  have hDlt : D < B32 ^ (l + 1) := by rw [hDe]; exact HTOP.out
  rw [← hDe] at hDpos
  obtain ⟨lq, hq1, hq2⟩ : ∃ lq, lq + l ≤ la ∧ la ≤ lq + l := ⟨la - l, by omega, by omega⟩
  have HDE := Lib.hid hDe
  have HNE := Lib.hid hNe
  have HST := Lib.hid hstart
  have HDL := Lib.hid hDlt
  clear hDe hNe hstart hDlt
  go_enter Try.func67, Try.ntmps67
  go_wp2_with fail
  go_step3
  go_wp2_with (go_at_call 87; refine (Try.bits_LeadingZeros32 _ _ (by omega) (by omega)).mono ?_; rw [Int.toNat_natCast, HE.out]; rintro e w1 ⟨rfl, hw⟩; obtain rfl : W = w1 := (by first | exact hw | exact hw.symm); clear hw; rw [HSI.out])
  refine (shiftLeft_any _ _ _ n s _ W HB.out rfl hs32 (by omega)).mono ?_
  rintro e w1 ⟨rfl, zs, hz1, hzl, hzd, hzv, hb1⟩
  rw [← HDE.out] at hzv
  have HSL := Lib.hid (hz1.whole hzl)
  have HZ1 := Lib.hid hz1
  have HZL := Lib.hid hzl
  have HZD := Lib.hid hzd
  have HZV := Lib.hid hzv
  have HB1 := Lib.hid hb1
  have hg12 : W.heap.size < w1.heap.size := hz1.lt
  clear hz1 hzl hzd hzv hb1
  go_wp2_with fail
  refine (trim_raw _ _ _ zs _ HSL.out (by omega) (by omega)).mono ?_
  rintro e w2 ⟨⟨ao', k, rfl, hk, ha', hz', ht, hzz⟩, hw⟩
  obtain rfl : w1 = w2 := hw
  have hND : N32 w1 ao' k D := ⟨zs.take k, trim_sl HSL.out hk ha', HZD.out.take _, ht, by rw [val_take_of_zeros hzz, HZV.out]⟩
  have hk0 : 0 < k := by
    rcases Nat.eq_zero_or_pos k with h | h
    · have := hND.zero.2 h; omega
    · exact h
  have hkl : k ≤ l + 1 := hND.len_le HDL.out
  have hdlt : D < B32 ^ k := hND.lt
  obtain rfl := ha' hk0
  have HTK := Lib.hid ht
  have HVK : Hid (val B32 (zs.take k) = D) := by show _ = _; rw [val_take_of_zeros hzz, HZV.out]
  have HDK := Lib.hid hdlt
  clear ha' hz' ht hzz hND hdlt
  go_wp2_with fail
  refine (shiftLeft_any _ _ _ A s _ w1 (HA.out.keep HB1.out) rfl hs32 (by omega)).mono ?_
  rintro e w3 ⟨rfl, rs0, hr1, hrl, hrd, hrv, hb3⟩
  rw [← HNE.out] at hrv
  have HR1 := Lib.hid hr1
  have HRL := Lib.hid hrl
  have HRD := Lib.hid hrd
  have HRV := Lib.hid hrv
  have HB3 := Lib.hid hb3
  have hg23 : w1.heap.size < w3.heap.size := hr1.lt
  have HZ3 := Lib.hid (HZ1.out.below hb3 hg12)
  obtain ⟨g1, hg1⟩ : ∃ g, g = W.heap.size := ⟨_, rfl⟩
  obtain ⟨g2, hg2⟩ : ∃ g, g = w1.heap.size := ⟨_, rfl⟩
  obtain ⟨g3, hg3⟩ : ∃ g, g = w3.heap.size := ⟨_, rfl⟩
  have HG1 := Lib.hid hg1
  have HG2 := Lib.hid hg2
  have HG3 := Lib.hid hg3
  have hlq0 : 0 < lq := by omega
  clear hr1 hrl hrd hrv hb3 hg1 hg2 hg3
  go_wp2_with (at_make; refine wpList_mk rfl _ 29 rfl 68 .u32 4 Try.underlying29 (by kernel_rfl) _ lq rfl (by omega) (by omega) (by omega) ?_; intro w4 hQ1 hb4 hz4)
  go_step3
  go_wp2
  go_loopw [10] (fun av wr => LongRel W.heap.size w1.heap.size w3.heap.size la lq k D N zs W av wr) (fun av wr => readBlk wr w1.heap.size + (intOf av).toNat)
  case atStart =>
    have hbW : Below W.heap.size W w4 := (HB1.out.trans (HB3.out.mono HB1.out.size)).trans (hb4.mono (Nat.le_trans HB1.out.size HB3.out.size))
    refine ⟨lq - 1, rs0, _, congrArg (Value.int _) (by omega), HZ3.out.below hb4 (by omega), HR1.out.below hb4 hg23, hQ1, HRL.out, HRD.out, by simp, Dig.replicate B32_pos _, by omega, ?_, ?_, ?_, hbW⟩
    · rw [val_replicate, HRV.out]; simp
    · rw [HRV.out]
      have e : (List.replicate lq 0)[lq - 1]?.getD 0 = 0 := by rw [List.getElem?_replicate]; split <;> rfl
      rw [e]
      have h := HST.out
      rw [show la - (l + 1) + 1 = lq - 1 + 1 by omega] at h
      simpa using h
    · intro j _
      rw [List.getElem?_replicate]; split <;> rfl
  case round =>
    obtain ⟨i, rs, qs, rfl, hz, hr, hq, hrl, hrd, hql, hqd, hi, hN, hlt, hzero, hbel⟩ := hrel
    have GZ := Lib.hid hz
    have GR := Lib.hid hr
    have GQ := Lib.hid hq
    have GRL := Lib.hid hrl
    have GRD := Lib.hid hrd
    have GQL := Lib.hid hql
    have GQD := Lib.hid hqd
    have GN := Lib.hid hN
    have GLT := Lib.hid hlt
    have G0 := Lib.hid hzero
    have GB := Lib.hid hbel
    have GM := Lib.hid (readBlk_of hr)
    clear hz hr hq hrl hrd hql hqd hN hlt hzero hbel
    have hrs : rs = rs.take i ++ (rs.drop i).take (k + 1) ++ rs.drop (i + (k + 1)) := by
      rw [List.append_assoc, ← List.drop_drop, List.take_append_drop, List.take_append_drop]
    obtain ⟨pre, hpre⟩ : ∃ p, p = rs.take i := ⟨_, rfl⟩
    obtain ⟨seg, hseg⟩ : ∃ p, p = (rs.drop i).take (k + 1) := ⟨_, rfl⟩
    obtain ⟨post, hpost⟩ : ∃ p, p = rs.drop (i + (k + 1)) := ⟨_, rfl⟩
    rw [← hpre, ← hseg, ← hpost] at hrs
    have hprel : pre.length = i := by rw [hpre, List.length_take, GRL.out]; omega
    have hsegl : seg.length = k + 1 := by rw [hseg, List.length_take, List.length_drop, GRL.out]; omega
    have hdpre : Dig B32 pre := by rw [hpre]; exact GRD.out.take _
    have hdseg : Dig B32 seg := by rw [hseg]; exact (GRD.out.drop _).take _
    have hdpost : Dig B32 post := by rw [hpost]; exact GRD.out.drop _
    have hrlt : val B32 rs < D * B32 ^ (i + 1) := Nat.lt_of_le_of_lt (Nat.le_add_left _ _) GLT.out
    have hp0 : val B32 post = 0 := by
      refine post_zero B32_pos hprel hsegl ?_
      rw [← hrs]
      refine Nat.lt_of_lt_of_le hrlt ?_
      rw [show i + (k + 1) = k + (i + 1) by omega, Nat.pow_add B32 k (i + 1)]
      exact Nat.mul_le_mul_right _ (Nat.le_of_lt HDK.out)
    have hrv : val B32 rs = val B32 pre + B32 ^ i * val B32 seg := by
      rw [hrs, three_val _ _ _ hp0, hprel]
    have hPB : val B32 seg < D * B32 := by
      have h1 : B32 ^ i * val B32 seg < B32 ^ i * (D * B32) := by
        have e : D * B32 ^ (i + 1) = B32 ^ i * (D * B32) := by rw [Nat.pow_succ]; grind
        omega
      exact Nat.lt_of_mul_lt_mul_left h1
    have hprelt : val B32 pre < B32 ^ i := by have := val_lt B32_pos hdpre; rwa [hprel] at this
    have hsl : Sl .u32 wr (some ⟨w1.heap.size, i, none⟩) (i + k + 1 - i) seg := by
      have h := GR.out.sl i (k + 1) (by rw [GRL.out]; omega)
      rw [show i + k + 1 - i = k + 1 by omega, hseg]
      exact h
    have hdsl : Sl .u32 wr (some ⟨W.heap.size, 0, none⟩) k (zs.take k) := GZ.out.sl0 k (by rw [HZL.out]; omega)
    have HRS := Lib.hid hrs
    have HPREL := Lib.hid hprel
    have HSEGL := Lib.hid hsegl
    have HDPRE := Lib.hid hdpre
    have HDSEG := Lib.hid hdseg
    have HDPOST := Lib.hid hdpost
    have HRV2 := Lib.hid hrv
    have HPB := Lib.hid hPB
    have HPRELT := Lib.hid hprelt
    have HP0 := Lib.hid hp0
    have HSG := Lib.hid hsl
    have HDSL := Lib.hid hdsl
    have hik : i + k ≤ la := by omega
    clear hpre hseg hpost hrs hprel hsegl hdpre hdseg hdpost hrlt hp0 hrv hPB hprelt hsl hdsl
    go_wp2_with fail
    refine (trim_raw _ _ _ seg _ HSG.out (by omega) (by omega)).mono ?_
    rintro e w5 ⟨⟨a5, m5, rfl, hm5, ha5, hz5, ht5, hzz5⟩, hw⟩
    obtain rfl : wr = w5 := hw
    have HP := Lib.hid (show N32 wr a5 m5 (val B32 seg) from ⟨seg.take m5, trim_sl HSG.out hm5 ha5, HDSEG.out.take _, ht5, val_take_of_zeros hzz5⟩)
    have HDV := Lib.hid (show N32 wr (some ⟨W.heap.size, 0, none⟩) k D from ⟨zs.take k, HDSL.out, HZD.out.take _, HTK.out, HVK.out⟩)
    clear ha5 hz5 ht5 hzz5
    go_wp2_with fail
    refine (compare_big _ _ _ _ _ _ (val B32 seg) D wr HP.out HDV.out (by omega) (by omega)).mono ?_
    rintro e w6 ⟨rfl, j, rfl⟩
    by_cases hPD : D ≤ val B32 seg
    · obtain ⟨z, hz⟩ : ∃ z, z = cmpN (val B32 seg) D := ⟨_, rfl⟩
      rw [← hz]
      have tz : 0 ≤ z := by rw [hz]; unfold cmpN; rw [if_neg (by omega)]; split <;> decide
      have HPD := Lib.hid hPD
      clear hz hPD
      go_wp2_with fail
      refine (estimate_any _ _ _ _ _ _ seg (zs.take k) _ (by omega) hk0 (HSG.out.drewN j) HDSEG.out (HDSL.out.drewN j) (HZD.out.take _) (by omega) (by rw [HVK.out]; exact HPD.out) (by rw [HVK.out]; exact HPB.out)).mono ?_
      rintro e w7 ⟨t, rfl, ht0, htB, htD, m, rfl⟩
      rw [HVK.out] at htD
      rw [B32_eq] at htB
      have HTD := Lib.hid htD
      clear htD
      have hq0 := GQD.out.get B32_pos i
      obtain ⟨q, hqe⟩ : ∃ q, q = qs[i]?.getD 0 := ⟨_, rfl⟩
      rw [← hqe] at hq0
      rw [B32_eq] at hq0
      have HQE := Lib.hid hqe
      clear hqe
      go_wp2_with fail
      have hblk : Blk .u32 (wr.drewN (j + m)) w1.heap.size 68 (pre ++ seg ++ post) := by rw [← HRS.out]; exact GR.out
      refine (subtractProduct_any w1.heap.size 68 i (i + k + 1 - i) _ pre seg post _ k _ (zs.take k) _ t _ hblk HPREL.out.symm (by rw [HSEGL.out]; omega) HDSEG.out
        (fun w' hg => ((GZ.out.drewN (j + m)).grown hg (by simp; omega)).sl0 k (by rw [HZL.out]; omega)) (HZD.out.take _) rfl htB (by omega) (by omega) (by rw [HVK.out]; exact HTD.out)).mono ?_
      rintro e w8 ⟨rfl, hg8, hs8, seg', hB8, hl8, hd8, hv8⟩
      rw [HVK.out] at hv8
      have hq8 : Blk .u32 w8 w3.heap.size 68 qs := (GQ.out.drewN (j + m)).grown hg8 (by simp; omega)
      have hz8 : Blk .u32 w8 W.heap.size 68 zs := (GZ.out.drewN (j + m)).grown hg8 (by simp; omega)
      have hvset := val_set B32 qs i (q + t) (by rw [GQL.out]; omega)
      rw [← HQE.out] at hvset
      have hq2 : val B32 (qs.set i (q + t)) = val B32 qs + B32 ^ i * t := by rw [Nat.mul_add] at hvset; omega
      have hlt2 := GLT.out
      rw [← HQE.out] at hlt2
      have hr2 : val B32 (pre ++ seg' ++ post) = val B32 pre + B32 ^ i * val B32 seg' := by rw [three_val _ _ _ HP0.out, HPREL.out]
      obtain ⟨r1, r2, r3, r4⟩ := div_sub HRV2.out hr2 hv8 hq2 GN.out hlt2
      rw [B32_eq] at r4
      have cq := hq8.cell i (by rw [GQL.out]; omega)
      rw [← HQE.out] at cq
      have fq := hq8.frozen i
      have b1 : (i : Int) < (lq : Int) := by omega
      have b0 : (0 : Int) ≤ (i : Int) := by omega
      have HB8 := Lib.hid hB8
      have HQ8 := Lib.hid hq8
      have HZ8 := Lib.hid hz8
      have HG8 := Lib.hid hg8
      have HL8 := Lib.hid hl8
      have HD8 := Lib.hid hd8
      have R1 := Lib.hid r1
      have R2 := Lib.hid r2
      have R3 := Lib.hid r3
      have htD0 : 0 < B32 ^ i * (t * D) := Nat.mul_pos (Nat.pow_pos B32_pos) (Nat.mul_pos ht0 hDpos)
      have hlt3 : val B32 (pre ++ seg' ++ post) < val B32 rs := by omega
      have HLT3 := Lib.hid hlt3
      have hqt : (q : Int) + (t : Int) ≤ 4294967295 := by omega
      have HSZ := Lib.hid (show w3.heap.size < w8.heap.size from hq8.lt)
      clear hB8 hq8 hz8 hg8 hl8 hd8 r1 r2 r3 hvset hq2 hlt2 hr2 hv8 hblk htD0 hlt3
      go_wp2
      have hb2 : Blk .u32 (w8.setCell ⟨w3.heap.size, i, none⟩ (.int .u32 ((q : Int) + (t : Int)))) w1.heap.size 68 (pre ++ seg' ++ post) := HB8.out.of_block (Below.heap_setCell _ _ _ _ (by simp; omega))
      refine ⟨⟨i, pre ++ seg' ++ post, qs.set i (q + t), rfl, HZ8.out.of_block (Below.heap_setCell _ _ _ _ (by simp; omega)), hb2, HQ8.out.set i (q + t) _ (by push_cast; rfl), ?_, (HDPRE.out.append HD8.out).append HDPOST.out, by simpa using GQL.out, GQD.out.set i (by rw [B32_eq]; exact r4), by omega, R1.out, ?_, ?_, ?_⟩, ?_⟩
      · have h := congrArg List.length HRS.out
        rw [GRL.out] at h
        simp only [List.length_append, HSEGL.out] at h
        simp only [List.length_append, HL8.out]
        omega
      · rw [List.getElem?_set_self (by rw [GQL.out]; omega)]
        exact R2.out
      · intro j' hj'
        rw [List.getElem?_set_ne (by omega)]
        exact G0.out j' hj'
      · refine ((below_drewN1 GB.out (j + m)).grown HG8.out GB.out.size (fun k' hk' => ?_)).setCell (by simp; omega) _
        cases hk'; omega
      · rw [readBlk_of hb2, GM.out]
        have := HLT3.out
        simp only [intOf]
        omega
    · have hlt : val B32 seg < D := by omega
      rw [cmpN_lt hlt]
      have HLT := Lib.hid hlt
      clear hPD hlt
      by_cases hi0 : i = 0
      · subst hi0
        have b1 : ¬ (0 : Int) < ((0 : Nat) : Int) := by decide
        have hRD : val B32 rs < D := by
          have h1 := HRV2.out
          have h2 := HPRELT.out
          have h3 := HLT.out
          simp only [Nat.pow_zero, Nat.one_mul] at h1 h2
          omega
        have hfin := div_end (A := A) (b := n) (s := 2 ^ s) (Q := val B32 qs) (R := val B32 rs) (Nat.pow_pos (by decide)) hn (by rw [← HDE.out, ← HNE.out]; exact GN.out) (by rw [← HDE.out]; exact hRD)
        have HFIN := Lib.hid hfin
        have HSQ := Lib.hid ((GQ.out.drewN j).whole GQL.out)
        have HSR := Lib.hid ((GR.out.drewN j).whole GRL.out)
        clear hRD hfin
        go_wp2_with fail
        refine (trim_raw _ _ _ qs _ HSQ.out (by omega) (by omega)).mono ?_
        rintro e w9 ⟨⟨qo, qk, rfl, hqk, hqo, hqz, hqt, hqzz⟩, hw⟩
        obtain rfl := hw
        have HQO := Lib.hid hqo
        have HQT := Lib.hid hqt
        have HQZZ := Lib.hid hqzz
        clear hqo hqz hqt hqzz
        go_wp2_with fail
        refine (trim_raw _ _ _ rs _ HSR.out (by omega) (by omega)).mono ?_
        rintro e w9 ⟨⟨ro, rk, rfl, hrk, hro, hrz, hrt, hrzz⟩, hw⟩
        obtain rfl := hw
        by_cases hrk0 : rk = 0
        · have hr0 : val B32 rs = 0 := by
            rw [← val_take_of_zeros hrzz, hrk0]; rfl
          have HR0 := Lib.hid hr0
          obtain rfl := hrz hrk0
          subst hrk0
          clear hro hrt hrzz hr0
          go_wp2_with fail
          refine (shiftRight_nil s _).mono ?_
          rintro e w9 ⟨rfl, hw⟩
          obtain rfl := hw
          go_wp2
          rw [Exit.noGoto_ret]
          go_ret2
          refine ⟨qo, qk, qk, none, 0, 0, rfl, ?_, ?_, below_drewN1 GB.out j⟩
          · rw [← HFIN.out.1]
            exact ⟨qs.take qk, trim_sl HSQ.out hqk HQO.out, GQD.out.take _, HQT.out, val_take_of_zeros HQZZ.out⟩
          · rw [← HFIN.out.2, HR0.out, Nat.zero_div]
            exact N32.nil _ _
        · obtain rfl := hro (by omega)
          have hrv : val B32 (rs.take rk) = val B32 rs := val_take_of_zeros hrzz
          have HRV3 := Lib.hid hrv
          clear hro hrz hrt hrzz hrv
          have hblk : Blk .u32 (wr.drewN j) w1.heap.size 68 (rs.take rk ++ rs.drop rk) := by rw [List.take_append_drop]; exact GR.out
          have HBLK := Lib.hid hblk
          clear hblk
          go_wp2_with fail
          refine (shiftRight_any w1.heap.size 68 rk _ s (rs.take rk) (rs.drop rk) _ _ HBLK.out (by rw [List.length_take, GRL.out]; omega) (GRD.out.take _) rfl hs32 (by omega) (Nat.le_refl _) (by omega)).mono ?_
          rintro e w9 ⟨so, sk, rfl, hsn, hsg, hsz⟩
          have HSN := Lib.hid hsn
          have HSG2 := Lib.hid hsg
          clear hsn hsg hsz
          go_wp2
          rw [Exit.noGoto_ret]
          go_ret2
          have hq9 : Blk .u32 w9 w3.heap.size 68 qs := (GQ.out.drewN j).grown HSG2.out (by simp; omega)
          refine ⟨qo, qk, qk, so, sk, sk, rfl, ?_, ?_, ?_⟩
          · rw [← HFIN.out.1]
            exact ⟨qs.take qk, trim_sl (hq9.whole GQL.out) hqk HQO.out, GQD.out.take _, HQT.out, val_take_of_zeros HQZZ.out⟩
          · rw [← HFIN.out.2, ← HRV3.out]
            exact HSN.out
          · refine (below_drewN1 GB.out j).grown HSG2.out GB.out.size (fun k' hk' => ?_)
            cases hk'; omega
      · obtain ⟨i', rfl⟩ : ∃ i', i = i' + 1 := ⟨i - 1, by omega⟩
        have b1 : (0 : Int) < ((i' + 1 : Nat) : Int) := by omega
        go_wp2
        refine ⟨⟨i', rs, qs, rfl, GZ.out.drewN j, GR.out.drewN j, GQ.out.drewN j, GRL.out, GRD.out, GQL.out, GQD.out, by omega, GN.out, ?_, fun j' hj' => G0.out j' (by omega), below_drewN1 GB.out j⟩, ?_⟩
        · rw [G0.out i' (by omega)]
          have := div_down HRV2.out HPRELT.out HLT.out
          simpa using this
        · have e : readBlk (wr.drewN j) w1.heap.size = readBlk wr w1.heap.size := rfl
          rw [e]
          simp only [intOf]
          omega
end Go.Proofs.Ytbihgllfllkkaaa

/- reduced, NewRat, the text of a fraction. -/
set_option linter.unusedVariables false
namespace Go.Proofs.Ytbihgllfllkkaaa
open Go.RowKit

def textQ (p : Int) (q : Nat) : List UInt8 := if q = 1 then numeralZ p else numeralZ p ++ [47] ++ numeral q

theorem numeralZ_len {p : Int} {k : Nat} (h : p.natAbs < B32 ^ k) : (numeralZ p).length ≤ 32 * k + 2 := by
  have := numeral_len h
  unfold numeralZ
  split <;> simp <;> omega

theorem Z32.natAbs_lt {w : World} {neg : Bool} {ao : Option Addr} {len : Nat} {z : Int} (h : Z32 w neg ao len z) : z.natAbs < B32 ^ len := by
  obtain ⟨n, h1, rfl, _⟩ := h
  rw [sgn_natAbs]
  exact h1.lt

set_option maxHeartbeats 1000000 in
theorem ratString_any (na : Bool) (ao bo : Option Addr) (la lb ca cb : Nat) (p : Int) (q : Nat) (W : World) (h : Q32 W na ao la bo lb p q) (hla : la ≤ 1000000000) (hlb : lb ≤ 1000000000) :
    Calls Try.prog 41 #[.agg #[.bool na, .slice ao la ca, .slice bo lb cb]] W (StrPost (textQ p q) W) := by
  have hf : Fr W (W.alloc (.cells #[.bool na, .slice ao la ca, .slice bo lb cb] 52)) [(52, #[.bool na, .slice ao la ca, .slice bo lb cb])] := (Fr.nil W).alloc rfl _ _
  have HF := Lib.hid hf
  have hbl := h.bl0
  have HQ := Lib.hid (h.keep hf.below)
  by_cases h0 : lb = 0
  · have hq : q = 1 := hbl.1 h0
    have HE : Hid (textQ p q = numeralZ p) := by unfold textQ; rw [if_pos hq]; rfl
    rw [HE.out]
    subst h0
    clear hf h hbl hq
    go_enter Try.func41, Try.ntmps41
    go_wp2_with fail
    refine (string_any _ _ _ _ p _ HQ.out.1 hla).mono ?_
    rintro e w1 ⟨rfl, hb⟩
    have HB := Lib.hid hb
    clear hb
    go_wp2
    go_ret
    exact ⟨rfl, below_then HF.out.below HB.out⟩
  · have hq : q ≠ 1 := fun h => h0 (hbl.2 h)
    have hN : N32 (W.alloc (.cells #[.bool na, .slice ao la ca, .slice bo lb cb] 52)) bo lb q := by
      rcases HQ.out.2 with ⟨h2, _⟩ | ⟨h2, _⟩
      · exact absurd h2 h0
      · exact h2
    have HE : Hid (textQ p q = numeralZ p ++ [47] ++ numeral q) := by unfold textQ; rw [if_neg hq]; rfl
    rw [HE.out]
    have hl1 := numeralZ_len h.1.natAbs_lt
    have hl2 := numeral_len hN.lt
    have l1 : ¬ 9223372036854775807 < (numeralZ p).length + 1 := by omega
    have l2 : ¬ 9223372036854775807 < (numeralZ p).length + 1 + (numeral q).length := by omega
    have HN := Lib.hid hN
    have hb0 : ((lb : Int) == 0) = false := by simp; omega
    clear hf h hbl hq hN hl1 hl2
    go_enter Try.func41, Try.ntmps41
    go_wp2_with fail
    obtain ⟨W1, hW1⟩ : ∃ W1, W1 = W.alloc (.cells #[.bool na, .slice ao la ca, .slice bo lb cb] 52) := ⟨_, rfl⟩
    rw [← hW1] at HF HQ HN ⊢
    clear hW1
    have c0 : W1.cell? ⟨W.heap.size, 0, none⟩ = some (.bool na) := HF.out.cell 0 0 rfl rfl
    have c1 : W1.cell? ⟨W.heap.size, 1, none⟩ = some (.slice ao la ca) := HF.out.cell 0 1 rfl rfl
    have c2 : W1.cell? ⟨W.heap.size, 2, none⟩ = some (.slice bo lb cb) := HF.out.cell 0 2 rfl rfl
    go_region_held3 (fun w' => w'.cell? ⟨W.heap.size, 0, none⟩ = some (.bool na) ∧ w'.cell? ⟨W.heap.size, 1, none⟩ = some (.slice ao la ca) ∧ w'.cell? ⟨W.heap.size, 2, none⟩ = some (.slice bo lb cb)) (go_keep)
      (first | (go_at_call 11; refine (string_any _ _ _ _ p W1.drew (HQ.out.keep (Below.refl _ _).drew).1 hla).mono ?_; rintro e w1 ⟨rfl, hb1⟩; have HB1 := Lib.hid (below_of_drew hb1); clear hb1; have d0 : w1.cell? ⟨W.heap.size, 0, none⟩ = some (.bool na) := (HF.out.later HB1.out).cell 0 0 rfl rfl; have d1 : w1.cell? ⟨W.heap.size, 1, none⟩ = some (.slice ao la ca) := (HF.out.later HB1.out).cell 0 1 rfl rfl; have d2 : w1.cell? ⟨W.heap.size, 2, none⟩ = some (.slice bo lb cb) := (HF.out.later HB1.out).cell 0 2 rfl rfl) | (go_at_call 40; refine (writeDigits_any _ _ _ q _ (HN.out.keep HB1.out) hlb).mono ?_; rintro e w2 ⟨rfl, hb2⟩; have HB2 := Lib.hid (below_then HB1.out hb2); clear hb2; have f0 : w2.cell? ⟨W.heap.size, 0, none⟩ = some (.bool na) := (HF.out.later HB2.out).cell 0 0 rfl rfl; have f1 : w2.cell? ⟨W.heap.size, 1, none⟩ = some (.slice ao la ca) := (HF.out.later HB2.out).cell 0 1 rfl rfl; have f2 : w2.cell? ⟨W.heap.size, 2, none⟩ = some (.slice bo lb cb) := (HF.out.later HB2.out).cell 0 2 rfl rfl))
    go_wp2
    go_ret
    refine ⟨?_, below_then HF.out.below HB2.out⟩
    have h1 := bytes_append (numeralZ p) [47]
    have h2 := bytes_append (numeralZ p ++ [47]) (numeral q)
    rw [← h1] at h2
    exact congrArg (fun x => Ending.returned (Value.string x)) h2

theorem N32.one_of {w : World} {ao : Option Addr} {len n : Nat} (h : N32 w ao len n) (hn : n = 1) : len = 1 := by
  obtain ⟨xs, h1, h2, h3, h4⟩ := h
  have : xs = [1] := val_inj B32_pos h2 (Dig.cons (by decide) (Dig.nil _)) h3 (fun _ => by simp) (by rw [h4, hn]; rfl)
  rw [← h1.len, this]; rfl

theorem sgn_div (a b : Bool) (m n g : Nat) : sgn (a != b) (m / g) = sgn (a != b) (m / g) := rfl

set_option maxHeartbeats 2000000 in
theorem reduced_any (na nb : Bool) (ao bo : Option Addr) (la lb ca cb m n : Nat) (W : World) (ha : N32 W ao la m) (hb : N32 W bo lb n) (hla : la ≤ 1000000000) (hlb : lb ≤ 1000000000) (hn0 : n ≠ 0)
    (hG : GcdOk m n) (hD1 : DivOk m (Nat.gcd m n)) (hD2 : DivOk n (Nat.gcd m n)) :
    Calls Try.prog 55 #[.agg #[.bool na, .slice ao la ca], .agg #[.bool nb, .slice bo lb cb]] W (OutQ W (sgn (na != nb) (m / Nat.gcd m n)) (n / Nat.gcd m n)) := by
  have hf : Fr W (((W.alloc (.cells #[.bool na, .slice ao la ca] 31)).alloc (.cells #[.bool nb, .slice bo lb cb] 31)).alloc (.cells #[.bool false, .slice none 0 0, .slice none 0 0] 52))
      [(31, #[.bool na, .slice ao la ca]), (31, #[.bool nb, .slice bo lb cb]), (52, #[.bool false, .slice none 0 0, .slice none 0 0])] :=
    (((Fr.nil W).alloc rfl _ _).alloc (by simp) _ _).alloc (by simp) _ _
  have hgle : Nat.gcd m n ≤ n := Nat.gcd_le_right m (by omega)
  have hglt := Nat.lt_of_le_of_lt hgle hb.lt
  have HA := Lib.hid ha
  have HB := Lib.hid hb
  have HGO := Lib.hid hG
  have HD1 := Lib.hid hD1
  have HD2 := Lib.hid hD2
  have HGL := Lib.hid hglt
  have HN0 := Lib.hid hn0
  clear ha hb hG hD1 hD2 hgle hglt hn0
  go_enter Try.func55, Try.ntmps55
  go_wp2_with fail
  obtain ⟨W3, hW3⟩ : ∃ W3, W3 = ((W.alloc (.cells #[.bool na, .slice ao la ca] 31)).alloc (.cells #[.bool nb, .slice bo lb cb] 31)).alloc (.cells #[.bool false, .slice none 0 0, .slice none 0 0] 52) := ⟨_, rfl⟩
  rw [← hW3] at hf ⊢
  clear hW3
  have HF := Lib.hid hf
  clear hf
  refine (HGO.out _ _ _ _ _ _ _ (HA.out.keep HF.out.below) (HB.out.keep HF.out.below) hla hlb).mono ?_
  rintro e w1 ⟨go_, gl, gc, rfl, hg1, hb1⟩
  have hgl : gl ≤ 1000000000 := Nat.le_trans (hg1.len_le HGL.out) hlb
  have HF1 := Lib.hid (HF.out.later hb1)
  have HG1 := Lib.hid hg1
  clear hb1 hg1
  have c0 : w1.cell? ⟨W.heap.size, 1, none⟩ = some (.slice ao la ca) := HF1.out.cell 0 1 rfl rfl
  go_wp2_with fail
  refine (HD1.out _ _ _ _ _ _ _ (HA.out.keep HF1.out.below) HG1.out hla hgl).mono ?_
  rintro e w2 ⟨qo, ql, qc, ro, rl, rc, rfl, hq, hr, hb2⟩
  have HF2 := Lib.hid (HF1.out.later hb2)
  have HG2 := Lib.hid (HG1.out.keep hb2)
  have HQ2 := Lib.hid hq
  clear hb2 hq hr
  have c1 : w2.cell? ⟨W.heap.size + 1, 1, none⟩ = some (.slice bo lb cb) := HF2.out.cell 1 1 rfl rfl
  go_wp2_with fail
  refine (HD2.out _ _ _ _ _ _ _ (HB.out.keep HF2.out.below) HG2.out hlb hgl).mono ?_
  rintro e w3 ⟨so, sl, sc, tto, tl, tc, rfl, hs, ht, hb3⟩
  have hnq : n / Nat.gcd m n < B32 ^ lb := Nat.lt_of_le_of_lt (Nat.div_le_self _ _) HB.out.lt
  have hsl : sl ≤ 1000000000 := Nat.le_trans (hs.len_le hnq) hlb
  have hq0 : n / Nat.gcd m n ≠ 0 := by
    have h1 := Nat.gcd_le_right m (show 0 < n by have := HN0.out; omega)
    have h2 : 0 < Nat.gcd m n := Nat.gcd_pos_of_pos_right m (by have := HN0.out; omega)
    have := Nat.div_pos h1 h2
    omega
  have HF3 := Lib.hid (HF2.out.later hb3)
  have HQ3 := Lib.hid (HQ2.out.keep hb3)
  have HS3 := Lib.hid hs
  have HQ0 := Lib.hid hq0
  clear hb3 hs ht hq0 hnq
  go_wp2_with fail
  refine (isOne_any _ _ _ _ _ HS3.out hsl).mono ?_
  rintro e w4 ⟨rfl, rfl⟩
  have d0 : w3.cell? ⟨W.heap.size, 0, none⟩ = some (.bool na) := HF3.out.cell 0 0 rfl rfl
  have d1 : w3.cell? ⟨W.heap.size + 1, 0, none⟩ = some (.bool nb) := HF3.out.cell 1 0 rfl rfl
  by_cases h1 : n / Nat.gcd m n = 1
  · have hone : (n / Nat.gcd m n == 1) = true := by simp [h1]
    rw [hone]
    clear hone
    go_wp2_with fail
    refine (signed_any _ _ _ _ _ _ HQ3.out).mono ?_
    rintro e w5 ⟨neg, uo, ul, uc, rfl, hz, hb5⟩
    have HF5 := Lib.hid (HF3.out.later hb5)
    have HZ5 := Lib.hid hz
    clear hb5 hz
    have g0 : w5.cell? ⟨W.heap.size + 1 + 1, 0, none⟩ = some (.bool false) := HF5.out.cell 2 0 rfl rfl
    have g1 : w5.cell? ⟨W.heap.size + 1 + 1, 1, none⟩ = some (.slice none 0 0) := HF5.out.cell 2 1 rfl rfl
    have g2 : w5.cell? ⟨W.heap.size + 1 + 1, 2, none⟩ = some (.slice none 0 0) := HF5.out.cell 2 2 rfl rfl
    have g3 : w5.frozen? ⟨W.heap.size + 1 + 1, 0, none⟩ = false := HF5.out.frozen 2 0 rfl
    have g4 : w5.frozen? ⟨W.heap.size + 1 + 1, 1, none⟩ = false := HF5.out.frozen 2 1 rfl
    have g5 : w5.frozen? ⟨W.heap.size + 1 + 1, 2, none⟩ = false := HF5.out.frozen 2 2 rfl
    go_wp2
    have hQ : Q32 w5 neg uo ul none 0 (sgn (na != nb) (m / m.gcd n)) (n / m.gcd n) := ⟨HZ5.out, .inl ⟨rfl, h1⟩⟩
    obtain ⟨e0, e1, e2, hq, hbel⟩ := HF5.out.finQ (cap := uc) (bc := 0) 2 rfl hQ
    exact bodyPost_ret (v := .agg #[.bool neg, .slice uo ul uc, .slice none 0 0]) (by simp [results, Try.results55, go_sem, e0, e1, e2]) rfl ⟨neg, uo, ul, uc, none, 0, 0, rfl, hq, hbel⟩
  · have hone : (n / Nat.gcd m n == 1) = false := by simp [h1]
    rw [hone]
    clear hone
    go_wp2_with fail
    refine (signed_any _ _ _ _ _ _ HQ3.out).mono ?_
    rintro e w5 ⟨neg, uo, ul, uc, rfl, hz, hb5⟩
    have HF5 := Lib.hid (HF3.out.later hb5)
    have HZ5 := Lib.hid hz
    have HS5 := Lib.hid (HS3.out.keep hb5)
    clear hb5 hz
    have g0 : w5.cell? ⟨W.heap.size + 1 + 1, 0, none⟩ = some (.bool false) := HF5.out.cell 2 0 rfl rfl
    have g1 : w5.cell? ⟨W.heap.size + 1 + 1, 1, none⟩ = some (.slice none 0 0) := HF5.out.cell 2 1 rfl rfl
    have g2 : w5.cell? ⟨W.heap.size + 1 + 1, 2, none⟩ = some (.slice none 0 0) := HF5.out.cell 2 2 rfl rfl
    have g3 : w5.frozen? ⟨W.heap.size + 1 + 1, 0, none⟩ = false := HF5.out.frozen 2 0 rfl
    have g4 : w5.frozen? ⟨W.heap.size + 1 + 1, 1, none⟩ = false := HF5.out.frozen 2 1 rfl
    have g5 : w5.frozen? ⟨W.heap.size + 1 + 1, 2, none⟩ = false := HF5.out.frozen 2 2 rfl
    go_wp2
    have hQ : Q32 w5 neg uo ul so sl (sgn (na != nb) (m / m.gcd n)) (n / m.gcd n) := ⟨HZ5.out, .inr ⟨HS5.out, Nat.lt_of_le_of_ne (Nat.pos_of_ne_zero HQ0.out) (Ne.symm h1)⟩⟩
    obtain ⟨e0, e1, e2, hq, hbel⟩ := HF5.out.finQ (cap := uc) (bc := sc) 2 rfl hQ
    exact bodyPost_ret (v := .agg #[.bool neg, .slice uo ul uc, .slice so sl sc]) (by simp [results, Try.results55, go_sem, e0, e1, e2]) rfl ⟨neg, uo, ul, uc, so, sl, sc, rfl, hq, hbel⟩
end Go.Proofs.Ytbihgllfllkkaaa

/- NewRat, Den, withPoint, Decimal. -/
set_option linter.unusedVariables false
namespace Go.Proofs.Ytbihgllfllkkaaa
open Go.RowKit

theorem Z32.neg_eq {w : World} {neg : Bool} {ao : Option Addr} {len : Nat} {z : Int} (h : Z32 w neg ao len z) : neg = decide (z < 0) := by
  obtain ⟨n, h1, rfl, h3⟩ := h
  cases neg with
  | true => have := h3 rfl; simp only [sgn, if_true]; symm; simp; omega
  | false => simp [sgn]

theorem Z32.n32 {w : World} {neg : Bool} {ao : Option Addr} {len : Nat} {z : Int} (h : Z32 w neg ao len z) : N32 w ao len z.natAbs := by
  obtain ⟨n, h1, rfl, _⟩ := h
  rw [sgn_natAbs]; exact h1

theorem Z32.zero {w : World} {neg : Bool} {ao : Option Addr} {len : Nat} {z : Int} (h : Z32 w neg ao len z) : z = 0 ↔ len = 0 := by
  rw [← h.n32.zero]; omega

/-- x / y in lowest terms -/
def lowP (x y : Int) : Int := sgn (decide (x < 0) != decide (y < 0)) (x.natAbs / Nat.gcd x.natAbs y.natAbs)
def lowQ (x y : Int) : Nat := y.natAbs / Nat.gcd x.natAbs y.natAbs

def OutQE (W : World) (p : Int) (q : Nat) (e : Ending) (w' : World) : Prop :=
  ∃ neg ao len cap bo bl bc, e = .returned (.tuple #[.agg #[.bool neg, .slice ao len cap, .slice bo bl bc], .int .i64 0]) ∧ Q32 w' neg ao len bo bl p q ∧ Below W.heap.size W w'

set_option maxHeartbeats 1000000 in
theorem newRat_any (na nb : Bool) (ao bo : Option Addr) (la lb ca cb : Nat) (x y : Int) (W : World) (ha : Z32 W na ao la x) (hb : Z32 W nb bo lb y) (hla : la ≤ 1000000000) (hlb : lb ≤ 1000000000) (hy : y ≠ 0)
    (hG : GcdOk x.natAbs y.natAbs) (hD1 : DivOk x.natAbs (Nat.gcd x.natAbs y.natAbs)) (hD2 : DivOk y.natAbs (Nat.gcd x.natAbs y.natAbs)) :
    Calls Try.prog 23 #[.agg #[.bool na, .slice ao la ca], .agg #[.bool nb, .slice bo lb cb]] W (OutQE W (lowP x y) (lowQ x y)) := by
  have hf : Fr W (((W.alloc (.cells #[.bool na, .slice ao la ca] 31)).alloc (.cells #[.bool nb, .slice bo lb cb] 31)).alloc (.cells #[.bool false, .slice none 0 0, .slice none 0 0] 52))
      [(31, #[.bool na, .slice ao la ca]), (31, #[.bool nb, .slice bo lb cb]), (52, #[.bool false, .slice none 0 0, .slice none 0 0])] :=
    (((Fr.nil W).alloc rfl _ _).alloc (by simp) _ _).alloc (by simp) _ _
  have hp : lowP x y = sgn (na != nb) (x.natAbs / Nat.gcd x.natAbs y.natAbs) := by unfold lowP; rw [ha.neg_eq, hb.neg_eq]
  have hsg : y.sign ≠ 0 := fun h => hy (Int.sign_eq_zero_iff_zero.1 h)
  have hs2 : (y.sign == 0) = false := by simpa using hsg
  have HA := Lib.hid ha
  have HB := Lib.hid hb
  have HP := Lib.hid hp
  have HR := Lib.hid (fun w h1 h2 => reduced_any na nb ao bo la lb ca cb x.natAbs y.natAbs w h1 h2 hla hlb (by omega) hG hD1 hD2)
  clear ha hb hp hy hG hD1 hD2
  go_enter Try.func23, Try.ntmps23
  go_wp2_with fail
  obtain ⟨W3, hW3⟩ : ∃ W3, W3 = ((W.alloc (.cells #[.bool na, .slice ao la ca] 31)).alloc (.cells #[.bool nb, .slice bo lb cb] 31)).alloc (.cells #[.bool false, .slice none 0 0, .slice none 0 0] 52) := ⟨_, rfl⟩
  rw [← hW3] at hf ⊢
  clear hW3
  have HF := Lib.hid hf
  clear hf
  refine (sign_any _ _ _ _ y _ (HB.out.keep HF.out.below)).mono ?_
  rintro e w1 ⟨rfl, hb1⟩
  have HF1 := Lib.hid (HF.out.later hb1)
  clear hb1
  have c0 : w1.cell? ⟨W.heap.size, 0, none⟩ = some (.bool na) := HF1.out.cell 0 0 rfl rfl
  have c1 : w1.cell? ⟨W.heap.size, 1, none⟩ = some (.slice ao la ca) := HF1.out.cell 0 1 rfl rfl
  have c2 : w1.cell? ⟨W.heap.size + 1, 0, none⟩ = some (.bool nb) := HF1.out.cell 1 0 rfl rfl
  have c3 : w1.cell? ⟨W.heap.size + 1, 1, none⟩ = some (.slice bo lb cb) := HF1.out.cell 1 1 rfl rfl
  clear hsg
  go_wp2_with fail
  refine (HR.out w1 (HA.out.keep HF1.out.below).n32 (HB.out.keep HF1.out.below).n32).mono ?_
  rintro e w2 ⟨neg, uo, ul, uc, so, sl, sc, rfl, hq, hb2⟩
  have HF2 := Lib.hid (HF1.out.later hb2)
  have HQ := Lib.hid hq
  clear hb2 hq
  have g0 : w2.cell? ⟨W.heap.size + 1 + 1, 0, none⟩ = some (.bool false) := HF2.out.cell 2 0 rfl rfl
  have g1 : w2.cell? ⟨W.heap.size + 1 + 1, 1, none⟩ = some (.slice none 0 0) := HF2.out.cell 2 1 rfl rfl
  have g2 : w2.cell? ⟨W.heap.size + 1 + 1, 2, none⟩ = some (.slice none 0 0) := HF2.out.cell 2 2 rfl rfl
  have g3 : w2.frozen? ⟨W.heap.size + 1 + 1, 0, none⟩ = false := HF2.out.frozen 2 0 rfl
  have g4 : w2.frozen? ⟨W.heap.size + 1 + 1, 1, none⟩ = false := HF2.out.frozen 2 1 rfl
  have g5 : w2.frozen? ⟨W.heap.size + 1 + 1, 2, none⟩ = false := HF2.out.frozen 2 2 rfl
  go_wp2
  obtain ⟨e0, e1, e2, hq, hbel⟩ := HF2.out.finQ (cap := uc) (bc := sc) 2 rfl HQ.out
  exact bodyPost_ret (v := .tuple #[.agg #[.bool neg, .slice uo ul uc, .slice so sl sc], .int .i64 0]) (by simp [results, Try.results23, go_sem, e0, e1, e2]) rfl ⟨neg, uo, ul, uc, so, sl, sc, rfl, by rw [HP.out]; exact hq, hbel⟩

set_option maxHeartbeats 1000000 in
theorem den_any (na : Bool) (ao bo : Option Addr) (la lb ca cb : Nat) (p : Int) (q : Nat) (W : World) (h : Q32 W na ao la bo lb p q) (hlb : lb ≤ 1000000000) :
    Calls Try.prog 27 #[.agg #[.bool na, .slice ao la ca, .slice bo lb cb]] W (OutI W q) := by
  have hf : Fr W ((W.alloc (.cells #[.bool na, .slice ao la ca, .slice bo lb cb] 52)).alloc (.cells #[.bool false, .slice none 0 0] 31))
      [(52, #[.bool na, .slice ao la ca, .slice bo lb cb]), (31, #[.bool false, .slice none 0 0])] :=
    ((Fr.nil W).alloc rfl _ _).alloc (by simp) _ _
  have hbl := h.bl0
  by_cases h0 : lb = 0
  · have hq : q = 1 := hbl.1 h0
    subst h0 hq
    clear h hbl
    go_enter Try.func27, Try.ntmps27
    go_wp2_with fail
    obtain ⟨W3, hW3⟩ : ∃ W3, W3 = (W.alloc (.cells #[.bool na, .slice ao la ca, .slice bo 0 cb] 52)).alloc (.cells #[.bool false, .slice none 0 0] 31) := ⟨_, rfl⟩
    rw [← hW3] at hf ⊢
    clear hW3
    have HF := Lib.hid hf
    clear hf
    refine (new_any 1 _ (by omega) (by omega)).mono ?_
    rintro e w1 ⟨neg, uo, ul, uc, rfl, hz, hb1⟩
    have HF1 := Lib.hid (HF.out.later hb1)
    have HZ := Lib.hid hz
    clear hb1 hz
    have g0 : w1.cell? ⟨W.heap.size + 1, 0, none⟩ = some (.bool false) := HF1.out.cell 1 0 rfl rfl
    have g1 : w1.cell? ⟨W.heap.size + 1, 1, none⟩ = some (.slice none 0 0) := HF1.out.cell 1 1 rfl rfl
    have g3 : w1.frozen? ⟨W.heap.size + 1, 0, none⟩ = false := HF1.out.frozen 1 0 rfl
    have g4 : w1.frozen? ⟨W.heap.size + 1, 1, none⟩ = false := HF1.out.frozen 1 1 rfl
    go_wp2
    obtain ⟨e0, e1, hz, hbel, _⟩ := HF1.out.finI (cap := uc) 1 rfl HZ.out
    exact bodyPost_ret (v := .agg #[.bool neg, .slice uo ul uc]) (by simp [results, Try.results27, go_sem, e0, e1]) rfl ⟨neg, uo, ul, uc, rfl, hz, hbel⟩
  · have hN : N32 W bo lb q := by
      rcases h.2 with ⟨h2, _⟩ | ⟨h2, _⟩
      · exact absurd h2 h0
      · exact h2
    have HN := Lib.hid hN
    have hb0 : ((lb : Int) == 0) = false := by simp; omega
    clear h hbl hN
    go_enter Try.func27, Try.ntmps27
    go_wp2_with fail
    obtain ⟨W3, hW3⟩ : ∃ W3, W3 = (W.alloc (.cells #[.bool na, .slice ao la ca, .slice bo lb cb] 52)).alloc (.cells #[.bool false, .slice none 0 0] 31) := ⟨_, rfl⟩
    rw [← hW3] at hf ⊢
    clear hW3
    have HF := Lib.hid hf
    clear hf
    refine (duplicate_n _ _ _ q _ (HN.out.keep HF.out.below) hlb).mono ?_
    rintro e w1 ⟨do_, dc, rfl, hd, hb1⟩
    have HF1 := Lib.hid (HF.out.later hb1)
    have HD := Lib.hid hd
    clear hb1 hd
    go_wp2_with fail
    refine (signed_any _ _ _ _ _ _ HD.out).mono ?_
    rintro e w2 ⟨neg, uo, ul, uc, rfl, hz, hb2⟩
    have HF2 := Lib.hid (HF1.out.later hb2)
    have HZ := Lib.hid hz
    clear hb2 hz
    have g0 : w2.cell? ⟨W.heap.size + 1, 0, none⟩ = some (.bool false) := HF2.out.cell 1 0 rfl rfl
    have g1 : w2.cell? ⟨W.heap.size + 1, 1, none⟩ = some (.slice none 0 0) := HF2.out.cell 1 1 rfl rfl
    have g3 : w2.frozen? ⟨W.heap.size + 1, 0, none⟩ = false := HF2.out.frozen 1 0 rfl
    have g4 : w2.frozen? ⟨W.heap.size + 1, 1, none⟩ = false := HF2.out.frozen 1 1 rfl
    go_wp2
    obtain ⟨e0, e1, hz, hbel, _⟩ := HF2.out.finI (cap := uc) 1 rfl HZ.out
    exact bodyPost_ret (v := .agg #[.bool neg, .slice uo ul uc]) (by simp [results, Try.results27, go_sem, e0, e1]) rfl ⟨neg, uo, ul, uc, rfl, hz, hbel⟩

theorem bytes_extract (l : List UInt8) (a b : Nat) : (⟨l.toArray⟩ : ByteArray).extract a b = ⟨((l.drop a).take (b - a)).toArray⟩ := by
  apply ByteArray.ext
  rw [ByteArray.data_extract]
  simp

/-- a point before the last k bytes -/
def pointed (l : List UInt8) (k : Nat) : List UInt8 := if k = 0 then l else l.take (l.length - k) ++ [46] ++ l.drop (l.length - k)

set_option maxHeartbeats 1000000 in
theorem withPoint_any (l : List UInt8) (K : Int) (k : Nat) (W : World) (hK : K = (k : Int)) (hk : k = 0 ∨ k < l.length) (hl : l.length ≤ 1000000000000) :
    Calls Try.prog 63 #[.string ⟨l.toArray⟩, .int .i64 K] W (fun e w' => e = .returned (.string ⟨(pointed l k).toArray⟩) ∧ Drew W w') := by
  subst hK
  by_cases h0 : k = 0
  · subst h0
    have HE : Hid (pointed l 0 = l) := by unfold pointed; rw [if_pos rfl]; rfl
    rw [HE.out]
    go_enter Try.func63, Try.ntmps63
    go_wp2
    go_ret
    exact ⟨rfl, Drew.refl _⟩
  · have HE : Hid (pointed l k = l.take (l.length - k) ++ [46] ++ l.drop (l.length - k)) := by unfold pointed; rw [if_neg h0]; rfl
    rw [HE.out]
    have hkl : k < l.length := by omega
    have b0 : ((k : Int) == 0) = false := by simp; omega
    have b1 : ¬ ((l.length : Int) ≤ (k : Int)) := by omega
    go_enter Try.func63, Try.ntmps63
    go_wp2
    obtain ⟨j, hj⟩ : ∃ j, j = l.length - k := ⟨_, rfl⟩
    have ej : ((l.length : Int) - (k : Int)) = (j : Int) := by omega
    rw [ej]
    have c1 : (0 : Int) ≤ (j : Int) := by omega
    have c2 : (j : Int) ≤ (l.length : Int) := by omega
    have c3 : j ≤ l.length := by omega
    have HJ := Lib.hid hj
    clear ej hj b1
    go_region
    go_wp2
    go_ret
    refine ⟨congrArg (fun x => Ending.returned (Value.string x)) ?_, ⟨1, rfl⟩⟩
    rw [bytes_extract, bytes_extract]
    have h1 := bytes_append (List.take (j - 0) (List.drop 0 l)) [46]
    have h2 := bytes_append (List.take (j - 0) (List.drop 0 l) ++ [46]) (List.take (l.length - j) (List.drop j l))
    rw [← h1] at h2
    refine h2.trans ?_
    rw [← HJ.out, List.drop_zero, Nat.sub_zero, List.take_of_length_le (l := List.drop j l) (by simp)]
end Go.Proofs.Ytbihgllfllkkaaa

/- divide, for all numbers. -/
set_option linter.unusedVariables false
namespace Go.Proofs.Ytbihgllfllkkaaa
open Go.RowKit

set_option maxHeartbeats 1000000 in
theorem divide_ok (m n : Nat) (hn : 0 < n) : DivOk m n := by
  intro ao bo la lb ca cb W ha hb hla hlb
  by_cases h1 : lb = 1
  · have hlt := hb.lt
    rw [h1, Nat.pow_one] at hlt
    exact divide_easy m n hn hlt ao bo la lb ca cb W ha hb hla hlb
  · have hb0 : ((lb : Int) == 1) = false := by simp; omega
    have HA := Lib.hid ha
    have HB := Lib.hid hb
    clear ha hb h1
    by_cases hmn : m < n
    · have HM := Lib.hid hmn
      go_enter Try.func36, Try.ntmps36
      go_wp2_with fail
      refine (compare_any _ _ _ _ _ _ m n W HA.out HB.out hla hlb).mono ?_
      rintro e w1 ⟨rfl, j, rfl⟩
      rw [cmpN_lt HM.out]
      have HA1 := Lib.hid (HA.out.drewN j)
      clear hmn
      go_wp2_with fail
      refine (duplicate_n _ _ _ m _ HA1.out hla).mono ?_
      rintro e w2 ⟨do_, dc, rfl, hd, hb1⟩
      have HD := Lib.hid hd
      have HB1 := Lib.hid hb1
      clear hd hb1
      go_wp2
      go_ret2
      refine ⟨none, 0, 0, do_, la, dc, rfl, ?_, ?_, ?_⟩
      · rw [Nat.div_eq_of_lt HM.out]; exact N32.nil _ _
      · rw [Nat.mod_eq_of_lt HM.out]; exact HD.out
      · exact (below_drewN1 (Below.refl _ W) j).trans HB1.out
    · obtain ⟨z, hz⟩ : ∃ z, z = cmpN m n := ⟨_, rfl⟩
      have tz : 0 ≤ z := by rw [hz]; unfold cmpN; rw [if_neg (by omega)]; split <;> decide
      have HZ := Lib.hid hz
      have hnm : n ≤ m := by omega
      clear hz hmn
      go_enter Try.func36, Try.ntmps36
      go_wp2_with fail
      refine (compare_any _ _ _ _ _ _ m n W HA.out HB.out hla hlb).mono ?_
      rintro e w1 ⟨rfl, j, rfl⟩
      rw [← HZ.out]
      go_wp2_with fail
      refine (divideLong_any _ _ _ _ _ _ m n _ (HA.out.drewN j) (HB.out.drewN j) hn hnm hla).mono ?_
      rintro e w2 ⟨qo, ql, qc, ro, rl, rc, rfl, hq, hr, hb1⟩
      have HQ := Lib.hid hq
      have HR := Lib.hid hr
      have HB1 := Lib.hid hb1
      clear hq hr hb1
      go_wp2
      go_ret2
      exact ⟨qo, ql, qc, ro, rl, rc, rfl, HQ.out, HR.out, (below_drewN1 (Below.refl _ W) j).trans HB1.out⟩
end Go.Proofs.Ytbihgllfllkkaaa
