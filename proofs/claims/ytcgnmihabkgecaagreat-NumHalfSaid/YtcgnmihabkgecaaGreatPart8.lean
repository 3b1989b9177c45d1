/- Part 8 of the contracts: LehD, LehE, LehF, Law1, IntB, Par, Read, Parse. -/
import Derived.Deep.CutRange
import Derived.Test.YtcgnmihabkgecaaGreatPart7

/- foresee. -/
set_option linter.unusedVariables false
namespace Go.Proofs.YtcgnmihabkgecaaGreat
open Go.RowKit

def ForeOut (A B : Nat) (W : World) (e : Ending) (w' : World) : Prop :=
  ∃ (α β γ δ : Nat) (odd : Bool), e = .returned (.agg #[.int .u64 (α : Int), .int .u64 (β : Int), .int .u64 (γ : Int), .int .u64 (δ : Int), .bool odd]) ∧ (β = 0 ∨ Fore A B α β γ δ odd) ∧ Below W.heap.size W w'

def ForeRel (A B : Nat) (W : World) (av bv cv dv : Value) (wr : World) : Prop :=
  ∃ (a b α β na nb la lb : Nat) (odd : Bool), av = .int .u64 (a : Int) ∧ bv = .int .u64 (b : Int) ∧ cv = .int .u64 (la : Int) ∧ dv = .int .u64 (lb : Int) ∧
    Fr W wr [(100, #[.int .u64 0, .int .u64 0, .int .u64 0, .int .u64 0, .bool false]), (100, #[.int .u64 (α : Int), .int .u64 (β : Int), .int .u64 (na : Int), .int .u64 (nb : Int), .bool odd])] ∧
    ForeInv A B a b na nb la lb odd ∧ (β = 0 ∨ Fore A B α β na nb odd)

set_option maxRecDepth 8000 in
set_option maxHeartbeats 2000000 in
theorem foresee_any (A B : Nat) (X Y : Int) (W : World) (hX : X = (A : Int)) (hY : Y = (B : Int)) (hA : A < 18446744073709551616) (hBA : B ≤ A) :
    Calls Tryz.prog 77 #[.int .u64 X, .int .u64 Y] W (ForeOut A B W) := by
  subst hX hY
  have hf : Fr W ((W.alloc (.cells #[.int .u64 0, .int .u64 0, .int .u64 0, .int .u64 0, .bool false] 100)).alloc (.cells #[.int .u64 0, .int .u64 0, .int .u64 1, .int .u64 0, .bool true] 100))
      [(100, #[.int .u64 0, .int .u64 0, .int .u64 0, .int .u64 0, .bool false]), (100, #[.int .u64 0, .int .u64 0, .int .u64 1, .int .u64 0, .bool true])] :=
    ((Fr.nil W).alloc rfl _ _).alloc (by simp) _ _
  have HF := Lib.hid hf
  clear hf
  go_enter Tryz.func77, Tryz.ntmps77
  go_wp2
  go_loopw [0, 1, 6, 7] (fun av bv cv dv wr => ForeRel A B W av bv cv dv wr) (fun av bv cv dv _ => (intOf bv).toNat)
  case atStart =>
    exact ⟨A, B, 0, 0, 1, 0, 0, 1, true, rfl, rfl, rfl, rfl, HF.out, ForeInv.start hBA, .inl rfl⟩
  case round =>
    obtain ⟨a, b, α, β, na, nb, la, lb, odd, rfl, rfl, rfl, rfl, hf, hi, ho⟩ := hrel
    have GF := Lib.hid hf
    have GI := Lib.hid hi
    have GO := Lib.hid ho
    have hba : b ≤ a := hi.2.2.1
    have hlb1 : 1 ≤ lb := hi.2.2.2.2.1
    have c0 : wr.cell? ⟨W.heap.size + 1, 0, none⟩ = some (.int .u64 (α : Int)) := hf.cell 1 0 rfl rfl
    have c1 : wr.cell? ⟨W.heap.size + 1, 1, none⟩ = some (.int .u64 (β : Int)) := hf.cell 1 1 rfl rfl
    have c2 : wr.cell? ⟨W.heap.size + 1, 2, none⟩ = some (.int .u64 (na : Int)) := hf.cell 1 2 rfl rfl
    have c3 : wr.cell? ⟨W.heap.size + 1, 3, none⟩ = some (.int .u64 (nb : Int)) := hf.cell 1 3 rfl rfl
    have c4 : wr.cell? ⟨W.heap.size + 1, 4, none⟩ = some (.bool odd) := hf.cell 1 4 rfl rfl
    have f0 : wr.frozen? ⟨W.heap.size + 1, 0, none⟩ = false := hf.frozen 1 0 rfl
    have f1 : wr.frozen? ⟨W.heap.size + 1, 1, none⟩ = false := hf.frozen 1 1 rfl
    have f2 : wr.frozen? ⟨W.heap.size + 1, 2, none⟩ = false := hf.frozen 1 2 rfl
    have f3 : wr.frozen? ⟨W.heap.size + 1, 3, none⟩ = false := hf.frozen 1 3 rfl
    have f4 : wr.frozen? ⟨W.heap.size + 1, 4, none⟩ = false := hf.frozen 1 4 rfl
    by_cases h1 : lb ≤ b
    · obtain ⟨k1, k2, k3, k4, k5, k6, k7, k8, k9, k10⟩ := hi.bounds h1
      obtain ⟨q, hq⟩ : ∃ q, q = a / b := ⟨_, rfl⟩
      obtain ⟨r, hr⟩ : ∃ r, r = a % b := ⟨_, rfl⟩
      rw [← hq] at k2 k3 k4 k5
      have hb0 : 0 < b := by omega
      have t1 : (lb : Int) ≤ (b : Int) := by omega
      have tq : (a : Int).tdiv (b : Int) = (q : Int) := by rw [hq]; exact (Int.ofNat_tdiv _ _).symm
      have tr : (a : Int).tmod (b : Int) = (r : Int) := by rw [hr]; exact (Int.ofNat_tmod _ _).symm
      have tq2 : (a : Int) / (b : Int) = (q : Int) := by rw [hq]; exact (Int.natCast_ediv _ _).symm
      have tr2 : (a : Int) % (b : Int) = (r : Int) := by rw [hr]; exact (Int.natCast_emod _ _).symm
      have hrb : r < b := by rw [hr]; exact Nat.mod_lt _ hb0
      have hqa : q ≤ a := by rw [hq]; exact Nat.div_le_self _ _
      have tw : IntKind.u64.wrap (q : Int) = (q : Int) := u64_wrap_nat q (by omega)
      obtain ⟨s, hs⟩ : ∃ s : Nat, s = q * la := ⟨_, rfl⟩
      obtain ⟨t, ht⟩ : ∃ t : Nat, t = q * lb := ⟨_, rfl⟩
      have hs2 : (q : Int) * (la : Int) = (s : Int) := by rw [hs, Int.natCast_mul]
      have ht2 : (q : Int) * (lb : Int) = (t : Int) := by rw [ht, Int.natCast_mul]
      rw [← ht] at k2 k4
      rw [← hs] at k3 k5
      have HQ := Lib.hid hq
      have HR := Lib.hid hr
      have HS := Lib.hid hs
      have HT := Lib.hid ht
      clear hf hi ho hq hr hs ht
      by_cases h2 : nb + lb ≤ a - b
      · have t2 : (nb : Int) + (lb : Int) ≤ (a : Int) - (b : Int) := by omega
        have t3 : (0 : Int) < (b : Int) := by omega
        go_wp2
        go_quiet (fail)
        go_wp2
        refine ⟨?_, by simp [intOf]; omega⟩
        have hn := GI.out.next hb0
        have hfo : Hid (α = α) := rfl
        rw [← HQ.out, ← HR.out, ← HS.out, ← HT.out] at hn
        have hF := ((((((GF.out.later (below_drewN1 (Below.refl _ wr) nq)).set 1 0 rfl (.int .u64 (na : Int))).set 1 2 rfl (.int .u64 (la : Int))).set 1 1 rfl (.int .u64 (nb : Int))).set 1 3 rfl (.int .u64 (lb : Int))).set 1 4 rfl (.bool (!odd)))
        refine ⟨b, r, na, nb, la, lb, na + s, nb + t, !odd, rfl, rfl, by rw [Int.natCast_add], by rw [Int.natCast_add], hF, hn, ?_⟩
        by_cases hnb : nb = 0
        · exact .inl hnb
        · exact .inr (GI.out.fore hA h1 h2 hnb)
      · have t2 : ¬ (nb : Int) + (lb : Int) ≤ (a : Int) - (b : Int) := by omega
        have g0 : wr.cell? ⟨W.heap.size, 0, none⟩ = some (.int .u64 0) := GF.out.cell 0 0 rfl rfl
        have k0f : wr.frozen? ⟨W.heap.size, 0, none⟩ = false := GF.out.frozen 0 0 rfl
        have g1 : wr.cell? ⟨W.heap.size, 1, none⟩ = some (.int .u64 0) := GF.out.cell 0 1 rfl rfl
        have k1f : wr.frozen? ⟨W.heap.size, 1, none⟩ = false := GF.out.frozen 0 1 rfl
        have g2 : wr.cell? ⟨W.heap.size, 2, none⟩ = some (.int .u64 0) := GF.out.cell 0 2 rfl rfl
        have k2f : wr.frozen? ⟨W.heap.size, 2, none⟩ = false := GF.out.frozen 0 2 rfl
        have g3 : wr.cell? ⟨W.heap.size, 3, none⟩ = some (.int .u64 0) := GF.out.cell 0 3 rfl rfl
        have k3f : wr.frozen? ⟨W.heap.size, 3, none⟩ = false := GF.out.frozen 0 3 rfl
        have g4 : wr.cell? ⟨W.heap.size, 4, none⟩ = some (.bool false) := GF.out.cell 0 4 rfl rfl
        have k4f : wr.frozen? ⟨W.heap.size, 4, none⟩ = false := GF.out.frozen 0 4 rfl
        go_wp2
        have hF := ((((GF.out.set 0 0 rfl (.int .u64 (α : Int))).set 0 1 rfl (.int .u64 (β : Int))).set 0 2 rfl (.int .u64 (na : Int))).set 0 3 rfl (.int .u64 (nb : Int))).set 0 4 rfl (.bool odd)
        have e0 := hF.cell 0 0 rfl rfl
        have e1 := hF.cell 0 1 rfl rfl
        have e2 := hF.cell 0 2 rfl rfl
        have e3 := hF.cell 0 3 rfl rfl
        have e4 := hF.cell 0 4 rfl rfl
        exact bodyPost_ret (v := .agg #[.int .u64 (α : Int), .int .u64 (β : Int), .int .u64 (na : Int), .int .u64 (nb : Int), .bool odd]) (by simp only [Nat.add_zero] at e0 e1 e2 e3 e4; simp [results, Tryz.results77, go_sem, e0, e1, e2, e3, e4]) rfl ⟨α, β, na, nb, odd, rfl, GO.out, hF.below⟩
    · have t1 : ¬ (lb : Int) ≤ (b : Int) := by omega
      clear hf hi ho
      have g0 : wr.cell? ⟨W.heap.size, 0, none⟩ = some (.int .u64 0) := GF.out.cell 0 0 rfl rfl
      have k0f : wr.frozen? ⟨W.heap.size, 0, none⟩ = false := GF.out.frozen 0 0 rfl
      have g1 : wr.cell? ⟨W.heap.size, 1, none⟩ = some (.int .u64 0) := GF.out.cell 0 1 rfl rfl
      have k1f : wr.frozen? ⟨W.heap.size, 1, none⟩ = false := GF.out.frozen 0 1 rfl
      have g2 : wr.cell? ⟨W.heap.size, 2, none⟩ = some (.int .u64 0) := GF.out.cell 0 2 rfl rfl
      have k2f : wr.frozen? ⟨W.heap.size, 2, none⟩ = false := GF.out.frozen 0 2 rfl
      have g3 : wr.cell? ⟨W.heap.size, 3, none⟩ = some (.int .u64 0) := GF.out.cell 0 3 rfl rfl
      have k3f : wr.frozen? ⟨W.heap.size, 3, none⟩ = false := GF.out.frozen 0 3 rfl
      have g4 : wr.cell? ⟨W.heap.size, 4, none⟩ = some (.bool false) := GF.out.cell 0 4 rfl rfl
      have k4f : wr.frozen? ⟨W.heap.size, 4, none⟩ = false := GF.out.frozen 0 4 rfl
      go_wp2
      have hF := ((((GF.out.set 0 0 rfl (.int .u64 (α : Int))).set 0 1 rfl (.int .u64 (β : Int))).set 0 2 rfl (.int .u64 (na : Int))).set 0 3 rfl (.int .u64 (nb : Int))).set 0 4 rfl (.bool odd)
      have e0 := hF.cell 0 0 rfl rfl
      have e1 := hF.cell 0 1 rfl rfl
      have e2 := hF.cell 0 2 rfl rfl
      have e3 := hF.cell 0 3 rfl rfl
      have e4 := hF.cell 0 4 rfl rfl
      exact bodyPost_ret (v := .agg #[.int .u64 (α : Int), .int .u64 (β : Int), .int .u64 (na : Int), .int .u64 (nb : Int), .bool odd]) (by simp only [Nat.add_zero] at e0 e1 e2 e3 e4; simp [results, Tryz.results77, go_sem, e0, e1, e2, e3, e4]) rfl ⟨α, β, na, nb, odd, rfl, GO.out, hF.below⟩
end Go.Proofs.YtcgnmihabkgecaaGreat

/- (num.steps).apply. -/
set_option linter.unusedVariables false
namespace Go.Proofs.YtcgnmihabkgecaaGreat
open Go.RowKit

def ApplyPost (A B : Nat) (W : World) (e : Ending) (w' : World) : Prop :=
  ∃ ao la ca bo lb cb, e = .returned (.tuple #[.slice ao la ca, .slice bo lb cb]) ∧ N32 w' ao la A ∧ N32 w' bo lb B ∧ Below W.heap.size W w'

set_option maxRecDepth 8000 in
set_option maxHeartbeats 4000000 in
theorem apply_odd (ao bo : Option Addr) (la lb ca cb A B α β γ δ A' B' : Nat) (W : World) (ha : N32 W ao la A) (hb : N32 W bo lb B) (hlA : la ≤ 1000000000) (hlB : lb ≤ 1000000000)
    (hα : α < 4294967296) (hβ : β < 4294967296) (hγ : γ < 4294967296) (hδ : δ < 4294967296) (h1 : β * B = α * A + A') (h2 : γ * A = δ * B + B') (h3 : A' ≤ A) (h4 : B' ≤ A) :
    Calls Tryz.prog 79 #[.agg #[.int .u64 (α : Int), .int .u64 (β : Int), .int .u64 (γ : Int), .int .u64 (δ : Int), .bool true], .slice ao la ca, .slice bo lb cb] W (ApplyPost A' B' W) := by
  have hf : Fr W (W.alloc (.cells #[.int .u64 (α : Int), .int .u64 (β : Int), .int .u64 (γ : Int), .int .u64 (δ : Int), .bool true] 100)) [(100, #[.int .u64 (α : Int), .int .u64 (β : Int), .int .u64 (γ : Int), .int .u64 (δ : Int), .bool true])] := (Fr.nil W).alloc rfl _ _
  have HF := Lib.hid hf
  have HA := Lib.hid (ha.keep hf.below)
  have HB := Lib.hid (hb.keep hf.below)
  have H1 := Lib.hid h1
  have H2 := Lib.hid h2
  clear ha hb h1 h2 hf
  go_enter Tryz.func79, Tryz.ntmps79
  go_wp2_with fail
  obtain ⟨W1, hW1⟩ : ∃ W1, W1 = W.alloc (.cells #[.int .u64 (α : Int), .int .u64 (β : Int), .int .u64 (γ : Int), .int .u64 (δ : Int), .bool true] 100) := ⟨_, rfl⟩
  rw [← hW1] at HF HA HB ⊢
  clear hW1
  have c0 : W1.cell? ⟨W.heap.size, 0, none⟩ = some (.int .u64 (α : Int)) := HF.out.cell 0 0 rfl rfl
  have c1 : W1.cell? ⟨W.heap.size, 1, none⟩ = some (.int .u64 (β : Int)) := HF.out.cell 0 1 rfl rfl
  have c2 : W1.cell? ⟨W.heap.size, 2, none⟩ = some (.int .u64 (γ : Int)) := HF.out.cell 0 2 rfl rfl
  have c3 : W1.cell? ⟨W.heap.size, 3, none⟩ = some (.int .u64 (δ : Int)) := HF.out.cell 0 3 rfl rfl
  have c4 : W1.cell? ⟨W.heap.size, 4, none⟩ = some (.bool true) := HF.out.cell 0 4 rfl rfl
  go_region_held3 (fun w' => w'.cell? ⟨W.heap.size, 0, none⟩ = some (.int .u64 (α : Int)) ∧ w'.cell? ⟨W.heap.size, 1, none⟩ = some (.int .u64 (β : Int)) ∧ w'.cell? ⟨W.heap.size, 2, none⟩ = some (.int .u64 (γ : Int)) ∧ w'.cell? ⟨W.heap.size, 3, none⟩ = some (.int .u64 (δ : Int)) ∧ w'.cell? ⟨W.heap.size, 4, none⟩ = some (.bool true)) (go_keep)
    (first | (go_at_call 108; refine (combine_any _ _ _ _ _ _ A γ B δ B' _ _ w1 (HA.out.keep HB1.out) (HB.out.keep HB1.out) hlA hlB rfl rfl hγ hδ H2.out (.inl h4)).mono ?_; rintro e w2 ⟨o2, l2, c2_, rfl, hr2, hb2⟩; have HB2 := Lib.hid hb2; have HR2 := Lib.hid hr2; have HR12 := Lib.hid (HR1.out.keep hb2); have HF2 := Lib.hid (HF1.out.later hb2); clear hr2 hb2; have d20 : w2.cell? ⟨W.heap.size, 0, none⟩ = some (.int .u64 (α : Int)) := HF2.out.cell 0 0 rfl rfl; have d21 : w2.cell? ⟨W.heap.size, 1, none⟩ = some (.int .u64 (β : Int)) := HF2.out.cell 0 1 rfl rfl; have d22 : w2.cell? ⟨W.heap.size, 2, none⟩ = some (.int .u64 (γ : Int)) := HF2.out.cell 0 2 rfl rfl; have d23 : w2.cell? ⟨W.heap.size, 3, none⟩ = some (.int .u64 (δ : Int)) := HF2.out.cell 0 3 rfl rfl; have d24 : w2.cell? ⟨W.heap.size, 4, none⟩ = some (.bool true) := HF2.out.cell 0 4 rfl rfl) | (go_at_call 108; refine (combine_any _ _ _ _ _ _ B β A α A' _ _ W1.drew (HB.out.keep (Below.refl _ _).drew) (HA.out.keep (Below.refl _ _).drew) hlB hlA rfl rfl hβ hα H1.out (.inr h3)).mono ?_; rintro e w1 ⟨o1, l1, c1_, rfl, hr1, hb1⟩; have HB1 := Lib.hid (below_of_drew hb1); have HR1 := Lib.hid hr1; have HF1 := Lib.hid (HF.out.later HB1.out); clear hr1 hb1; have d10 : w1.cell? ⟨W.heap.size, 0, none⟩ = some (.int .u64 (α : Int)) := HF1.out.cell 0 0 rfl rfl; have d11 : w1.cell? ⟨W.heap.size, 1, none⟩ = some (.int .u64 (β : Int)) := HF1.out.cell 0 1 rfl rfl; have d12 : w1.cell? ⟨W.heap.size, 2, none⟩ = some (.int .u64 (γ : Int)) := HF1.out.cell 0 2 rfl rfl; have d13 : w1.cell? ⟨W.heap.size, 3, none⟩ = some (.int .u64 (δ : Int)) := HF1.out.cell 0 3 rfl rfl; have d14 : w1.cell? ⟨W.heap.size, 4, none⟩ = some (.bool true) := HF1.out.cell 0 4 rfl rfl))
  go_wp2
  go_ret2
  exact ⟨o1, l1, c1_, o2, l2, c2_, rfl, HR12.out, HR2.out, HF2.out.below⟩

set_option maxRecDepth 8000 in
set_option maxHeartbeats 4000000 in
theorem apply_even (ao bo : Option Addr) (la lb ca cb A B α β γ δ A' B' : Nat) (W : World) (ha : N32 W ao la A) (hb : N32 W bo lb B) (hlA : la ≤ 1000000000) (hlB : lb ≤ 1000000000)
    (hα : α < 4294967296) (hβ : β < 4294967296) (hγ : γ < 4294967296) (hδ : δ < 4294967296) (h1 : α * A = β * B + A') (h2 : δ * B = γ * A + B') (h3 : A' ≤ A) (h4 : B' ≤ A) :
    Calls Tryz.prog 79 #[.agg #[.int .u64 (α : Int), .int .u64 (β : Int), .int .u64 (γ : Int), .int .u64 (δ : Int), .bool false], .slice ao la ca, .slice bo lb cb] W (ApplyPost A' B' W) := by
  have hf : Fr W (W.alloc (.cells #[.int .u64 (α : Int), .int .u64 (β : Int), .int .u64 (γ : Int), .int .u64 (δ : Int), .bool false] 100)) [(100, #[.int .u64 (α : Int), .int .u64 (β : Int), .int .u64 (γ : Int), .int .u64 (δ : Int), .bool false])] := (Fr.nil W).alloc rfl _ _
  have HF := Lib.hid hf
  have HA := Lib.hid (ha.keep hf.below)
  have HB := Lib.hid (hb.keep hf.below)
  have H1 := Lib.hid h1
  have H2 := Lib.hid h2
  clear ha hb h1 h2 hf
  go_enter Tryz.func79, Tryz.ntmps79
  go_wp2_with fail
  obtain ⟨W1, hW1⟩ : ∃ W1, W1 = W.alloc (.cells #[.int .u64 (α : Int), .int .u64 (β : Int), .int .u64 (γ : Int), .int .u64 (δ : Int), .bool false] 100) := ⟨_, rfl⟩
  rw [← hW1] at HF HA HB ⊢
  clear hW1
  have c0 : W1.cell? ⟨W.heap.size, 0, none⟩ = some (.int .u64 (α : Int)) := HF.out.cell 0 0 rfl rfl
  have c1 : W1.cell? ⟨W.heap.size, 1, none⟩ = some (.int .u64 (β : Int)) := HF.out.cell 0 1 rfl rfl
  have c2 : W1.cell? ⟨W.heap.size, 2, none⟩ = some (.int .u64 (γ : Int)) := HF.out.cell 0 2 rfl rfl
  have c3 : W1.cell? ⟨W.heap.size, 3, none⟩ = some (.int .u64 (δ : Int)) := HF.out.cell 0 3 rfl rfl
  have c4 : W1.cell? ⟨W.heap.size, 4, none⟩ = some (.bool false) := HF.out.cell 0 4 rfl rfl
  go_region_held3 (fun w' => w'.cell? ⟨W.heap.size, 0, none⟩ = some (.int .u64 (α : Int)) ∧ w'.cell? ⟨W.heap.size, 1, none⟩ = some (.int .u64 (β : Int)) ∧ w'.cell? ⟨W.heap.size, 2, none⟩ = some (.int .u64 (γ : Int)) ∧ w'.cell? ⟨W.heap.size, 3, none⟩ = some (.int .u64 (δ : Int)) ∧ w'.cell? ⟨W.heap.size, 4, none⟩ = some (.bool false)) (go_keep)
    (first | (go_at_call 108; refine (combine_any _ _ _ _ _ _ B δ A γ B' _ _ w1 (HB.out.keep HB1.out) (HA.out.keep HB1.out) hlB hlA rfl rfl hδ hγ H2.out (.inr h4)).mono ?_; rintro e w2 ⟨o2, l2, c2_, rfl, hr2, hb2⟩; have HB2 := Lib.hid hb2; have HR2 := Lib.hid hr2; have HR12 := Lib.hid (HR1.out.keep hb2); have HF2 := Lib.hid (HF1.out.later hb2); clear hr2 hb2; have d20 : w2.cell? ⟨W.heap.size, 0, none⟩ = some (.int .u64 (α : Int)) := HF2.out.cell 0 0 rfl rfl; have d21 : w2.cell? ⟨W.heap.size, 1, none⟩ = some (.int .u64 (β : Int)) := HF2.out.cell 0 1 rfl rfl; have d22 : w2.cell? ⟨W.heap.size, 2, none⟩ = some (.int .u64 (γ : Int)) := HF2.out.cell 0 2 rfl rfl; have d23 : w2.cell? ⟨W.heap.size, 3, none⟩ = some (.int .u64 (δ : Int)) := HF2.out.cell 0 3 rfl rfl; have d24 : w2.cell? ⟨W.heap.size, 4, none⟩ = some (.bool false) := HF2.out.cell 0 4 rfl rfl) | (go_at_call 108; refine (combine_any _ _ _ _ _ _ A α B β A' _ _ W1.drew (HA.out.keep (Below.refl _ _).drew) (HB.out.keep (Below.refl _ _).drew) hlA hlB rfl rfl hα hβ H1.out (.inl h3)).mono ?_; rintro e w1 ⟨o1, l1, c1_, rfl, hr1, hb1⟩; have HB1 := Lib.hid (below_of_drew hb1); have HR1 := Lib.hid hr1; have HF1 := Lib.hid (HF.out.later HB1.out); clear hr1 hb1; have d10 : w1.cell? ⟨W.heap.size, 0, none⟩ = some (.int .u64 (α : Int)) := HF1.out.cell 0 0 rfl rfl; have d11 : w1.cell? ⟨W.heap.size, 1, none⟩ = some (.int .u64 (β : Int)) := HF1.out.cell 0 1 rfl rfl; have d12 : w1.cell? ⟨W.heap.size, 2, none⟩ = some (.int .u64 (γ : Int)) := HF1.out.cell 0 2 rfl rfl; have d13 : w1.cell? ⟨W.heap.size, 3, none⟩ = some (.int .u64 (δ : Int)) := HF1.out.cell 0 3 rfl rfl; have d14 : w1.cell? ⟨W.heap.size, 4, none⟩ = some (.bool false) := HF1.out.cell 0 4 rfl rfl))
  go_wp2
  go_ret2
  exact ⟨o1, l1, c1_, o2, l2, c2_, rfl, HR12.out, HR2.out, HF2.out.below⟩

theorem apply_any (ao bo : Option Addr) (la lb ca cb A B α β γ δ A' B' : Nat) (odd : Bool) (W : World) (ha : N32 W ao la A) (hb : N32 W bo lb B) (hlA : la ≤ 1000000000) (hlB : lb ≤ 1000000000)
    (hα : α < 4294967296) (hβ : β < 4294967296) (hγ : γ < 4294967296) (hδ : δ < 4294967296) (h : Stepped A B α β γ δ odd A' B') (h3 : A' ≤ A) (h4 : B' ≤ A) :
    Calls Tryz.prog 79 #[.agg #[.int .u64 (α : Int), .int .u64 (β : Int), .int .u64 (γ : Int), .int .u64 (δ : Int), .bool odd], .slice ao la ca, .slice bo lb cb] W (ApplyPost A' B' W) := by
  cases odd with
  | true => exact apply_odd ao bo la lb ca cb A B α β γ δ A' B' W ha hb hlA hlB hα hβ hγ hδ (h.odd rfl).1 (h.odd rfl).2 h3 h4
  | false => exact apply_even ao bo la lb ca cb A B α β γ δ A' B' W ha hb hlA hlB hα hβ hγ hδ (h.even rfl).1 (h.even rfl).2 h3 h4
end Go.Proofs.YtcgnmihabkgecaaGreat

/- commonDivisor, for all numbers. -/
set_option linter.unusedVariables false
namespace Go.Proofs.YtcgnmihabkgecaaGreat
open Go.RowKit

theorem readNat_n {w : World} {ao : Option Addr} {len cap n : Nat} (h : N32 w ao len n) : readNat w (.slice ao len cap) = n := by
  obtain ⟨xs, hs, hd, ht, hv⟩ := h
  rw [readNat_of hs, hv]

theorem cmpN_neg {m n : Nat} : cmpN m n < 0 ↔ m < n := by
  unfold cmpN
  by_cases h : m < n
  · simp [h]
  · simp only [h, iff_false, if_false]
    split <;> omega

theorem blen_top {n low : Nat} (h : blen n = low + 64) : n / 2 ^ low < 18446744073709551616 := by
  have h1 := blen_lt n
  rw [h, Nat.pow_add] at h1
  rw [Nat.div_lt_iff_lt_mul (Nat.pow_pos (by decide)), Nat.mul_comm]
  exact h1

def GcdRel (L G : Nat) (W : World) (av bv : Value) (wr : World) : Prop :=
  ∃ (ao bo : Option Addr) (la lb ca cb A B : Nat), av = .slice ao la ca ∧ bv = .slice bo lb cb ∧ N32 wr ao la A ∧ N32 wr bo lb B ∧ B ≤ A ∧ A < B32 ^ L ∧ Nat.gcd A B = G ∧ Below W.heap.size W wr

set_option maxRecDepth 8000 in
set_option maxHeartbeats 4000000 in
theorem gcd_ok (m n : Nat) : GcdOk m n := by
  intro ao bo la lb ca cb W ha hb hla hlb
  obtain ⟨L, hLe⟩ : ∃ L, L = max la lb := ⟨_, rfl⟩
  have hL : L ≤ 1000000000 := by omega
  have hmL : m < B32 ^ L := Nat.lt_of_lt_of_le ha.lt (Nat.pow_le_pow_right B32_pos (by omega))
  have hnL : n < B32 ^ L := Nat.lt_of_lt_of_le hb.lt (Nat.pow_le_pow_right B32_pos (by omega))
  have HML := Lib.hid hmL
  have HNL := Lib.hid hnL
  have HA := Lib.hid ha
  have HB := Lib.hid hb
  obtain ⟨G, hG⟩ : ∃ G, G = Nat.gcd m n := ⟨_, rfl⟩
  have HG := Lib.hid hG
  rw [← hG]
  clear ha hb hmL hnL hLe hG
  go_enter Tryz.func34, Tryz.ntmps34
  go_wp2_with fail
  refine (duplicate_n _ _ _ m _ HA.out hla).mono ?_
  rintro e w1 ⟨ao1, ca1, rfl, ha1, hb1⟩
  have HA1 := Lib.hid ha1
  have HW1 := Lib.hid hb1
  clear ha1 hb1
  go_wp2_with fail
  refine (duplicate_n _ _ _ n _ (HB.out.keep HW1.out) hlb).mono ?_
  rintro e w2 ⟨bo2, cb2, rfl, hb2, hw2⟩
  have HA2 := Lib.hid (HA1.out.keep hw2)
  have HB2 := Lib.hid hb2
  have HW2 := Lib.hid (below_then HW1.out hw2)
  clear hb2 hw2
  go_wp2_with fail
  refine (compare_any _ _ _ _ _ _ m n _ HA2.out HB2.out hla hlb).mono ?_
  rintro e w3 ⟨rfl, hd3⟩
  have HA3 := Lib.hid (HA2.out.keep hd3.below)
  have HB3 := Lib.hid (HB2.out.keep hd3.below)
  have HW3 := Lib.hid (HW2.out.trans (hd3.below))
  clear hd3
  obtain ⟨cc, hcc⟩ : ∃ c, c = cmpN m n := ⟨_, rfl⟩
  rw [← hcc]
  have HC := Lib.hid hcc
  clear hcc
  go_upto_if 16 with fail
  go_cut [0, 1] from 13 to 18 (fun av bv wx => GcdRel L G W av bv wx)
  case first =>
    by_cases hmn : m < n
    · have t1 : cc < 0 := by rw [HC.out]; exact cmpN_neg.2 hmn
      go_wp2_with fail
      go_meet
      case rel => exact ⟨bo2, ao1, lb, la, cb2, ca1, n, m, rfl, rfl, HB3.out, HA3.out, by omega, HNL.out, by rw [HG.out, Nat.gcd_comm], HW3.out⟩
    · have t1 : ¬ cc < 0 := by rw [HC.out]; exact fun h => hmn (cmpN_neg.1 h)
      go_wp2_with fail
      go_meet
      case rel => exact ⟨ao1, bo2, la, lb, ca1, cb2, m, n, rfl, rfl, HA3.out, HB3.out, by omega, HML.out, HG.out.symm, HW3.out⟩
  case rest =>
    clear HA HB HA1 HA2 HB2 HW1 HW2 HA3 HB3 HW3 HC HG HML HNL
    go_wp2_with fail
    go_loopw [0, 1] (fun av bv wr => GcdRel L G W av bv wr) (fun av bv wr => readNat wr av + readNat wr bv)
    case atStart => exact hcut
    case round =>
      obtain ⟨ao, bo, la, lb, ca, cb, A, B, rfl, rfl, ha, hb, hBA, hAL, hG, hw⟩ := hrel
      have hla : la ≤ 1000000000 := Nat.le_trans (ha.len_le hAL) hL
      have hlb : lb ≤ 1000000000 := Nat.le_trans (hb.len_le (Nat.lt_of_le_of_lt hBA hAL)) hL
      have HA := Lib.hid ha
      have HB := Lib.hid hb
      have HAL := Lib.hid hAL
      have HG := Lib.hid hG
      have HW := Lib.hid hw
      clear ha hb hAL hG hw
      by_cases hl0 : lb = 0
      · have hB0 : B = 0 := HB.out.zero.2 hl0
        subst hl0
        have HR : Hid (G = A) := by show _ = _; rw [← HG.out, hB0, Nat.gcd_zero_right]
        clear hB0
        go_wp2
        go_ret
        exact ⟨ao, la, ca, rfl, by rw [HR.out]; exact HA.out, HW.out⟩
      · have b1 : (0 : Int) < (lb : Int) := by omega
        have b2 : ((lb : Int) == 0) = false := by simp; omega
        have hB0 : 0 < B := by
          rcases Nat.eq_zero_or_pos B with h | h
          · exact absurd (HB.out.zero.1 h) hl0
          · exact h
        by_cases h64 : blen A ≤ 64
        · have t1 : ¬ (64 : Int) < (blen A : Int) := by omega
          have hA64 : A < 18446744073709551616 := blen_le.1 h64
          have hla2 : la ≤ 2 := HA.out.len_le (small2 hA64)
          have hlb2 : lb ≤ 2 := HB.out.len_le (small2 (Nat.lt_of_le_of_lt hBA hA64))
          clear h64
          go_wp2_with fail
          refine (bitLength_any _ _ _ A _ HA.out hla).mono ?_
          rintro e w4 ⟨rfl, rfl⟩
          go_wp2_with fail
          refine (toWord_any _ _ _ A _ HA.out hla2).mono ?_
          rintro e w5 ⟨rfl, rfl⟩
          go_wp2_with fail
          refine (toWord_any _ _ _ B _ HB.out hlb2).mono ?_
          rintro e w6 ⟨rfl, rfl⟩
          go_wp2_with fail
          refine (commonWord_any _ _ A B _ rfl rfl hA64 (Nat.lt_of_le_of_lt hBA hA64)).mono ?_
          rintro e w7 ⟨rfl, hd7⟩
          go_wp2_with fail
          refine (fromWord_any _ (Nat.gcd A B) _ rfl (Nat.le_trans (Nat.gcd_le_right A hB0) (by omega))).mono ?_
          rintro e w8 ⟨ro, rl, rc, rfl, hr, hb8⟩
          go_wp2
          go_ret
          exact ⟨ro, rl, rc, rfl, by rw [← HG.out]; exact hr, below_then (HW.out.trans hd7.below) hb8⟩
        · obtain ⟨low, hlow⟩ : ∃ low, blen A = low + 64 := ⟨blen A - 64, by omega⟩
          have t1 : (64 : Int) < (blen A : Int) := by omega
          have t2 : (blen A : Int) - 64 = (low : Int) := by omega
          have hlw : low ≤ 100000000000 := by
            have h1 := HA.out.lt
            have h2 : blen A ≤ 32 * la := by
              refine blen_le.2 ?_
              have : B32 ^ la = 2 ^ (32 * la) := by rw [Nat.pow_mul]; rfl
              rwa [← this]
            omega
          have hbA : blen A ≤ 100000000064 := by omega
          have hAt := blen_top hlow
          have hBt : B / 2 ^ low ≤ A / 2 ^ low := Nat.div_le_div_right hBA
          have HAT := Lib.hid hAt
          have HBT := Lib.hid hBt
          clear hlow h64 hAt hBt
          go_wp2_with fail
          refine (bitLength_any _ _ _ A _ HA.out hla).mono ?_
          rintro e w4 ⟨rfl, rfl⟩
          go_wp2_with fail
          refine (bitLength_any _ _ _ A _ HA.out hla).mono ?_
          rintro e w5 ⟨rfl, rfl⟩
          go_wp2_with fail
          refine (window_any _ _ _ A low _ _ HA.out (by first | exact t2 | rfl) hla hlw).mono ?_
          rintro e w6 ⟨rfl, hd6⟩
          rw [Nat.mod_eq_of_lt HAT.out]
          have HA6 := Lib.hid (HA.out.keep hd6.below)
          have HB6 := Lib.hid (HB.out.keep hd6.below)
          have HW6 := Lib.hid (HW.out.trans hd6.below)
          clear hd6
          go_wp2_with fail
          refine (window_any _ _ _ B low _ _ HB6.out (by first | exact t2 | rfl) hlb hlw).mono ?_
          rintro e w7 ⟨rfl, hd7⟩
          rw [Nat.mod_eq_of_lt (Nat.lt_of_le_of_lt HBT.out HAT.out)]
          have HA7 := Lib.hid (HA6.out.keep hd7.below)
          have HB7 := Lib.hid (HB6.out.keep hd7.below)
          have HW7 := Lib.hid (HW6.out.trans hd7.below)
          clear hd7
          go_wp2_with fail
          refine (foresee_any (A / 2 ^ low) (B / 2 ^ low) _ _ _ rfl rfl HAT.out HBT.out).mono ?_
          rintro e w8 ⟨α, β, γ, δ, odd, rfl, hfo, hb8⟩
          have HA8 := Lib.hid (HA7.out.keep hb8)
          have HB8 := Lib.hid (HB7.out.keep hb8)
          have HW8 := Lib.hid (below_then HW7.out hb8)
          have HFO := Lib.hid hfo
          clear hb8 hfo
          have HKA := Lib.hid (readNat_n (cap := ca) HA.out)
          have HKB := Lib.hid (readNat_n (cap := cb) HB.out)
          have HA9 := Lib.hid (HA8.out.keep (box_below w8 100 #[.int .u64 (α : Int), .int .u64 (β : Int), .int .u64 (γ : Int), .int .u64 (δ : Int), .bool odd]))
          have HB9 := Lib.hid (HB8.out.keep (box_below w8 100 #[.int .u64 (α : Int), .int .u64 (β : Int), .int .u64 (γ : Int), .int .u64 (δ : Int), .bool odd]))
          have HW9 := Lib.hid (below_then HW8.out (box_below w8 100 #[.int .u64 (α : Int), .int .u64 (β : Int), .int .u64 (γ : Int), .int .u64 (δ : Int), .bool odd]))
          clear HA6 HB6 HW6 HA7 HB7 HW7 HA8 HB8 HW8
          by_cases hβ : β = 0
          · subst hβ
            go_wp2_with fail
            refine (divide_ok A B hB0 _ _ _ _ _ _ _ HA9.out HB9.out hla hlb).mono ?_
            rintro e w9 ⟨qo, ql, qc, ro, rl, rc, rfl, hq9, hr9, hb9⟩
            have HR10 := Lib.hid hr9
            have HB10 := Lib.hid (HB9.out.keep hb9)
            have HW10 := Lib.hid (below_then HW9.out hb9)
            clear hq9 hr9 hb9
            go_wp2_with fail
            go_roundw
            case rel => exact ⟨bo, ro, lb, rl, cb, rc, B, A % B, rfl, rfl, HB10.out, HR10.out, Nat.le_of_lt (Nat.mod_lt _ hB0), Nat.lt_of_le_of_lt hBA HAL.out, by rw [← HG.out, Nat.gcd_comm A B, Nat.gcd_rec B A, Nat.gcd_comm], HW10.out⟩
            case measure => rw [readNat_n HB10.out, readNat_n HR10.out, HKA.out, HKB.out]; have := Nat.mod_lt A hB0; omega
          · have hβ0 : ((β : Int) == 0) = false := by simp; omega
            have hfo := HFO.out.resolve_left hβ
            obtain ⟨A', B', hst⟩ := Fore.stepped (Nat.pow_pos (n := low) (show 0 < 2 by decide)) hfo
            obtain ⟨_, _, _, _, _, _, k1, k2, k3, k4, k5, k6, _⟩ := hfo
            have hle := hst.le (by omega) k5 k2
            have HST := Lib.hid hst
            clear hst hβ
            go_wp2_with fail
            refine (apply_any _ _ _ _ _ _ A B α β γ δ A' B' odd _ HA9.out HB9.out hla hlb (by omega) (by omega) (by omega) k6 HST.out hle.1 hle.2.1).mono ?_
            rintro e w9 ⟨ao9, la9, ca9, bo9, lb9, cb9, rfl, ha9, hb9, hbel9⟩
            have HA10 := Lib.hid ha9
            have HB10 := Lib.hid hb9
            have HW10 := Lib.hid (below_then HW9.out hbel9)
            clear ha9 hb9 hbel9
            go_wp2_with fail
            go_roundw
            case rel => exact ⟨ao9, bo9, la9, lb9, ca9, cb9, A', B', rfl, rfl, HA10.out, HB10.out, Nat.le_of_lt HST.out.lt, Nat.lt_of_le_of_lt hle.1 HAL.out, HST.out.gcd.trans HG.out, HW10.out⟩
            case measure => rw [readNat_n HA10.out, readNat_n HB10.out, HKA.out, HKB.out]; omega
end Go.Proofs.YtcgnmihabkgecaaGreat

/- The specification's Text; the laws' helpers is, awake. -/
set_option linter.unusedVariables false
namespace Go.Proofs.YtcgnmihabkgecaaGreat
open Go.RowKit

set_option maxHeartbeats 800000 in
theorem text16_any (neg : Bool) (ao : Option Addr) (len cap : Nat) (z : Int) (W : World) (h : Z16 W neg ao len z) (hl : len ≤ 1000000000) :
    Calls Tryz.prog 90 #[.agg #[.bool neg, .slice ao len cap]] W (StrPost (numeralZ z) W) := by
  obtain ⟨n, hn, rfl, hp⟩ := h
  have HN := Lib.hid (hn.keep (box_below W 33 #[.bool neg, .slice ao len cap]))
  have HP := Lib.hid hp
  have hnl2 : ¬ 9223372036854775807 < 1 + (numeral n).length := by
    have h1 := hn.lt
    have h2 : n < B32 ^ len := Nat.lt_of_lt_of_le h1 (Nat.pow_le_pow_left (by decide) _)
    have := numeral_len h2
    omega
  clear hn hp
  cases neg with
  | true =>
    have HE := Lib.hid (numeralZ_neg (HP.out rfl))
    rw [HE.out]
    go_enter Tryz.func90, Tryz.ntmps90
    go_wp2_with fail
    refine (text_any _ _ _ n _ HN.out hl).mono ?_
    rintro e w1 ⟨rfl, hb⟩
    have HB := Lib.hid hb
    clear hb
    go_wp2
    go_ret
    refine ⟨?_, below_then (box_below _ _ _) HB.out⟩
    have := bytes_append [45] (numeral n)
    exact congrArg (fun x => Ending.returned (Value.string x)) this
  | false =>
    have HE := Lib.hid (numeralZ_pos n)
    rw [HE.out]
    go_enter Tryz.func90, Tryz.ntmps90
    go_wp2_with fail
    refine (text_any _ _ _ n _ HN.out hl).mono ?_
    rintro e w1 ⟨rfl, hb⟩
    have HB := Lib.hid hb
    clear hb
    go_wp2
    go_ret
    exact ⟨rfl, below_then (box_below _ _ _) HB.out⟩

/-- the program computes a few plain results -/
def AwakePost (W : World) (e : Ending) (w' : World) : Prop := e = .returned (.bool true) ∧ Below W.heap.size W w'

theorem text_m4 : numeralZ (-7 / 2) = [45, 52] := by decide +kernel
theorem text_1 : numeralZ (-7 % 2) = [49] := by decide +kernel
theorem text_72 : textQ (lowP (-7) 2) (lowQ (-7) 2) = [45, 55, 47, 50] := by decide +kernel
theorem text_350 : decText (lowP (-7) 2) (lowQ (-7) 2) 2 = [45, 51, 46, 53, 48] := by decide +kernel
theorem low_7 : lowQ (-7) 2 = 2 := by decide +kernel
theorem low_7p : ((lowP (-7) 2).natAbs * 10 ^ 2) = 700 := by decide +kernel
theorem gcd_72 : Nat.gcd (Int.natAbs (-7)) (Int.natAbs 2) = 1 := by decide +kernel
theorem near_7 : (numeral (nearest 700 2)).length = 3 := by decide +kernel

set_option maxHeartbeats 2000000 in
theorem awake_any (W : World) : Calls Tryz.prog 7 #[] W (AwakePost W) := by
  go_enter Tryz.func7, Tryz.ntmps7
  go_wp2_with fail
  refine (new_any (-7) _ (by omega) (by omega)).mono ?_
  rintro e w1 ⟨s1, o1, l1, c1, rfl, hz1, hb1⟩
  have HB1 := Lib.hid hb1
  have HZ1 := Lib.hid hz1
  clear hb1 hz1
  go_wp2_with fail
  refine (new_any 2 _ (by omega) (by omega)).mono ?_
  rintro e w2 ⟨s2, o2, l2, c2, rfl, hz2, hb2⟩
  have HB2 := Lib.hid (below_then HB1.out hb2)
  have HX := Lib.hid (HZ1.out.keep hb2)
  have HY := Lib.hid hz2
  have hlx : l1 ≤ 1 := HX.out.n32.len_le (by decide)
  have hly : l2 ≤ 1 := HY.out.n32.len_le (by decide)
  clear hb2 hz2
  have hfa : Fr w2 ((w2.alloc (.cells #[.bool s1, .slice o1 l1 c1] 25)).alloc (.cells #[.bool s2, .slice o2 l2 c2] 25))
      [(25, #[.bool s1, .slice o1 l1 c1]), (25, #[.bool s2, .slice o2 l2 c2])] := ((Fr.nil w2).alloc rfl _ _).alloc (by simp) _ _
  have HFA := Lib.hid hfa
  clear hfa
  go_wp2_with fail
  refine (div_any _ _ _ _ _ _ _ _ (-7) 2 _ (HX.out.keep HFA.out.below) (HY.out.keep HFA.out.below) (by omega) (by omega) (by decide) (divide_easy _ _ (by decide) (by decide))).mono ?_
  rintro e w3 ⟨s3, o3, l3, c3, s4, o4, l4, c4, rfl, hq, hr, hb3⟩
  have HF3 := Lib.hid (HFA.out.later hb3)
  have HX3 := Lib.hid ((HX.out.keep HFA.out.below).keep hb3)
  have HY3 := Lib.hid ((HY.out.keep HFA.out.below).keep hb3)
  have HQ := Lib.hid hq
  have HR := Lib.hid hr
  clear hq hr hb3 HX HY HFA
  have hfq : Fr w3 ((w3.alloc (.cells #[.bool s3, .slice o3 l3 c3] 25)).alloc (.cells #[.bool s4, .slice o4 l4 c4] 25))
      [(25, #[.bool s3, .slice o3 l3 c3]), (25, #[.bool s4, .slice o4 l4 c4])] := ((Fr.nil w3).alloc rfl _ _).alloc (by simp) _ _
  have HFQ := Lib.hid hfq
  have HFA := Lib.hid (HF3.out.later hfq.below)
  clear hfq HF3
  have a0 : ((w3.alloc (.cells #[.bool s3, .slice o3 l3 c3] 25)).alloc (.cells #[.bool s4, .slice o4 l4 c4] 25)).cell? ⟨w2.heap.size, 0, none⟩ = some (.bool s1) := HFA.out.cell 0 0 rfl rfl
  have a1 : ((w3.alloc (.cells #[.bool s3, .slice o3 l3 c3] 25)).alloc (.cells #[.bool s4, .slice o4 l4 c4] 25)).cell? ⟨w2.heap.size, 1, none⟩ = some (.slice o1 l1 c1) := HFA.out.cell 0 1 rfl rfl
  have a2 : ((w3.alloc (.cells #[.bool s3, .slice o3 l3 c3] 25)).alloc (.cells #[.bool s4, .slice o4 l4 c4] 25)).cell? ⟨w2.heap.size + 1, 0, none⟩ = some (.bool s2) := HFA.out.cell 1 0 rfl rfl
  have a3 : ((w3.alloc (.cells #[.bool s3, .slice o3 l3 c3] 25)).alloc (.cells #[.bool s4, .slice o4 l4 c4] 25)).cell? ⟨w2.heap.size + 1, 1, none⟩ = some (.slice o2 l2 c2) := HFA.out.cell 1 1 rfl rfl
  go_wp2_with fail
  refine (newRat_any _ _ _ _ _ _ _ _ (-7) 2 _ (HX3.out.keep HFQ.out.below) (HY3.out.keep HFQ.out.below) (by omega) (by omega) (by decide) (gcd_easy _ _ (by decide) (by decide))
    (by rw [gcd_72]; exact divide_easy _ _ (by decide) (by decide)) (by rw [gcd_72]; exact divide_easy _ _ (by decide) (by decide))).mono ?_
  rintro e w4 ⟨s5, o5, l5, c5, o6, l6, c6, rfl, hf, hb4⟩
  have HFQ4 := Lib.hid (HFQ.out.later hb4)
  have HFA4 := Lib.hid (HFA.out.later hb4)
  have HQ4 := Lib.hid ((HQ.out.keep HFQ.out.below).keep hb4)
  have HR4 := Lib.hid ((HR.out.keep HFQ.out.below).keep hb4)
  have HF := Lib.hid hf
  clear hf hb4 HX3 HY3 HFQ HFA HQ HR a0 a1 a2 a3
  have hff : Fr w4 (w4.alloc (.cells #[.bool s5, .slice o5 l5 c5, .slice o6 l6 c6] 27)) [(27, #[.bool s5, .slice o5 l5 c5, .slice o6 l6 c6])] := (Fr.nil w4).alloc rfl _ _
  have HFF := Lib.hid hff
  clear hff
  have hl5 : l5 ≤ 1 := HF.out.1.n32.len_le (by decide +kernel)
  have hl6 : l6 ≤ 1 := by
    rcases HF.out.2 with h | h
    · omega
    · exact h.1.len_le (by decide +kernel)
  go_wp2_with fail
  have hdo : DivOk ((lowP (-7) 2).natAbs * 10 ^ 2) (lowQ (-7) 2) := by rw [low_7p, low_7]; exact divide_easy _ _ (by decide) (by decide)
  refine (decimal_any _ _ _ _ _ _ _ (lowP (-7) 2) (lowQ (-7) 2) 2 2 _ (HF.out.keep HFF.out.below) (by omega) (by omega) (by rw [low_7]; decide) rfl (by decide) hdo (.inr (by rw [low_7p, low_7, near_7]; decide))).mono ?_
  rintro e w5 ⟨rfl, hb5⟩
  rw [text_350]
  have HFF5 := Lib.hid (HFF.out.later hb5)
  have HFQ5 := Lib.hid ((HFQ4.out.later HFF.out.below).later hb5)
  have HFA5 := Lib.hid ((HFA4.out.later HFF.out.below).later hb5)
  have HQ5 := Lib.hid ((HQ4.out.keep HFF.out.below).keep hb5)
  have HR5 := Lib.hid ((HR4.out.keep HFF.out.below).keep hb5)
  have HG5 := Lib.hid ((HF.out.keep HFF.out.below).keep hb5)
  clear hb5 HFF HFQ4 HFA4 HQ4 HR4 HF hdo
  have b0 : w5.cell? ⟨w3.heap.size, 0, none⟩ = some (.bool s3) := HFQ5.out.cell 0 0 rfl rfl
  have b1 : w5.cell? ⟨w3.heap.size, 1, none⟩ = some (.slice o3 l3 c3) := HFQ5.out.cell 0 1 rfl rfl
  have b2 : w5.cell? ⟨w3.heap.size + 1, 0, none⟩ = some (.bool s4) := HFQ5.out.cell 1 0 rfl rfl
  have b3 : w5.cell? ⟨w3.heap.size + 1, 1, none⟩ = some (.slice o4 l4 c4) := HFQ5.out.cell 1 1 rfl rfl
  have b4 : w5.cell? ⟨w4.heap.size, 0, none⟩ = some (.bool s5) := HFF5.out.cell 0 0 rfl rfl
  have b5 : w5.cell? ⟨w4.heap.size, 1, none⟩ = some (.slice o5 l5 c5) := HFF5.out.cell 0 1 rfl rfl
  have b6 : w5.cell? ⟨w4.heap.size, 2, none⟩ = some (.slice o6 l6 c6) := HFF5.out.cell 0 2 rfl rfl
  have hl3 : l3 ≤ 1 := HQ5.out.n32.len_le (by decide +kernel)
  have hl4 : l4 ≤ 1 := HR5.out.n32.len_le (by decide +kernel)
  go_wp2_with fail
  refine (string_any _ _ _ _ (-7 / 2) _ HQ5.out (by omega)).mono ?_
  rintro e w6 ⟨rfl, hb6⟩
  rw [text_m4]
  have HFF6 := Lib.hid (HFF5.out.later hb6)
  have HFQ6 := Lib.hid (HFQ5.out.later hb6)
  have HFA6 := Lib.hid (HFA5.out.later hb6)
  have HR6 := Lib.hid (HR5.out.keep hb6)
  have HG6 := Lib.hid (HG5.out.keep hb6)
  clear hb6 b0 b1 b2 b3 b4 b5 b6 HFF5 HFQ5 HFA5 HQ5 HR5 HG5
  have b2 : w6.cell? ⟨w3.heap.size + 1, 0, none⟩ = some (.bool s4) := HFQ6.out.cell 1 0 rfl rfl
  have b3 : w6.cell? ⟨w3.heap.size + 1, 1, none⟩ = some (.slice o4 l4 c4) := HFQ6.out.cell 1 1 rfl rfl
  go_wp2_with fail
  refine (string_any _ _ _ _ (-7 % 2) _ HR6.out (by omega)).mono ?_
  rintro e w7 ⟨rfl, hb7⟩
  rw [text_1]
  have HFF7 := Lib.hid (HFF6.out.later hb7)
  have HFA7 := Lib.hid (HFA6.out.later hb7)
  have HG7 := Lib.hid (HG6.out.keep hb7)
  clear hb7 b2 b3 HFF6 HFQ6 HFA6 HR6 HG6
  have b4 : w7.cell? ⟨w4.heap.size, 0, none⟩ = some (.bool s5) := HFF7.out.cell 0 0 rfl rfl
  have b5 : w7.cell? ⟨w4.heap.size, 1, none⟩ = some (.slice o5 l5 c5) := HFF7.out.cell 0 1 rfl rfl
  have b6 : w7.cell? ⟨w4.heap.size, 2, none⟩ = some (.slice o6 l6 c6) := HFF7.out.cell 0 2 rfl rfl
  go_wp2_with fail
  refine (ratString_any _ _ _ _ _ _ _ _ _ _ HG7.out (by omega) (by omega)).mono ?_
  rintro e w8 ⟨rfl, hb8⟩
  rw [text_72]
  have HB8 := Lib.hid (below_then HB2.out (HFA7.out.below.trans (hb8.mono HFA7.out.below.size)))
  clear hb8 b4 b5 b6 HFF7 HFA7 HG7
  go_wp2_with fail
  go_ret
  exact ⟨rfl, HB8.out⟩

end Go.Proofs.YtcgnmihabkgecaaGreat

/- Sub, Cmp. -/
set_option linter.unusedVariables false
namespace Go.Proofs.YtcgnmihabkgecaaGreat
open Go.RowKit

/-- the same with one shape of the ending -/
def OutF1 (W : World) (z : Int) (e : Ending) (w' : World) : Prop :=
  ∃ neg ao len cap er z', e = .returned (.tuple #[.agg #[.bool neg, .slice ao len cap], .int .i64 er]) ∧ Z32 w' neg ao len z' ∧ Below W.heap.size W w' ∧
    ((Fits z ∧ er = 0 ∧ z' = z) ∨ (¬ Fits z ∧ er = 3 ∧ neg = false ∧ ao = none ∧ len = 0 ∧ cap = 0))

theorem OutF.one {W w' : World} {z : Int} {e : Ending} (h : OutF W z e w') : OutF1 W z e w' := by
  rcases h with ⟨h, neg, ao, len, cap, rfl, hz, hb⟩ | ⟨h, rfl, hb⟩
  · exact ⟨neg, ao, len, cap, 0, z, rfl, hz, hb, .inl ⟨h, rfl, rfl⟩⟩
  · exact ⟨false, none, 0, 0, 3, 0, rfl, Z32.nil _, hb, .inr ⟨h, rfl, rfl, rfl, rfl, rfl⟩⟩

theorem OutF1.two {W w' : World} {z : Int} {e : Ending} (h : OutF1 W z e w') : OutF W z e w' := by
  obtain ⟨neg, ao, len, cap, er, z', rfl, hz, hb, ⟨h, rfl, rfl⟩ | ⟨h, rfl, rfl, rfl, rfl, rfl⟩⟩ := h
  · exact .inl ⟨h, neg, ao, len, cap, rfl, hz, hb⟩
  · exact .inr ⟨h, rfl, hb⟩

theorem cmpN_sub (m n : Nat) : cmpN m n = ((m : Int) - (n : Int)).sign := by
  rcases Nat.lt_trichotomy m n with h | h | h
  · rw [cmpN_lt h, Int.sign_eq_neg_one_of_neg (by omega)]
  · rw [cmpN_eq h, h]; simp
  · rw [cmpN_gt h, Int.sign_eq_one_of_pos (by omega)]

set_option maxHeartbeats 1000000 in
theorem cmpI_any (na nb : Bool) (ao bo : Option Addr) (la lb ca cb : Nat) (x y : Int) (W : World) (ha : Z32 W na ao la x) (hb : Z32 W nb bo lb y) (hla : la ≤ 1000000000) (hlb : lb ≤ 1000000000) :
    Calls Tryz.prog 61 #[.agg #[.bool na, .slice ao la ca], .agg #[.bool nb, .slice bo lb cb]] W (fun e w' => e = .returned (.int .i64 (x - y).sign) ∧ Below W.heap.size W w') := by
  have hf : Fr W ((W.alloc (.cells #[.bool na, .slice ao la ca] 25)).alloc (.cells #[.bool nb, .slice bo lb cb] 25))
      [(25, #[.bool na, .slice ao la ca]), (25, #[.bool nb, .slice bo lb cb])] := ((Fr.nil W).alloc rfl _ _).alloc (by simp) _ _
  obtain ⟨m, hm, rfl, hpm⟩ := ha
  obtain ⟨n, hn, rfl, hpn⟩ := hb
  have HM := Lib.hid (hm.keep hf.below)
  have HN := Lib.hid (hn.keep hf.below)
  have HF := Lib.hid hf
  have HPM := Lib.hid hpm
  have HPN := Lib.hid hpn
  clear hm hn hf hpm hpn
  cases na <;> cases nb
  · have HE : Hid ((sgn false m - sgn false n).sign = cmpN m n) := by show _ = _; rw [cmpN_sub]; congr 1 <;> (simp [sgn]; omega)
    rw [HE.out]
    go_enter Tryz.func61, Tryz.ntmps61
    go_wp2_with fail
    refine (compare_any _ _ _ _ _ _ m n _ HM.out HN.out hla hlb).mono ?_
    rintro e w1 ⟨rfl, hd⟩
    have HF1 := Lib.hid (HF.out.later hd.below)
    clear hd
    go_wp2
    go_ret
    exact ⟨rfl, HF1.out.below⟩
  · have HE : Hid ((sgn false m - sgn true n).sign = 1) := by show _ = _; have := HPN.out rfl; rw [Int.sign_eq_one_of_pos]; simp [sgn]; omega
    rw [HE.out]
    go_enter Tryz.func61, Tryz.ntmps61
    go_wp2
    go_ret
    exact ⟨rfl, HF.out.below⟩
  · have HE : Hid ((sgn true m - sgn false n).sign = -1) := by show _ = _; have := HPM.out rfl; rw [Int.sign_eq_neg_one_of_neg]; simp [sgn]; omega
    rw [HE.out]
    go_enter Tryz.func61, Tryz.ntmps61
    go_wp2
    go_ret
    exact ⟨rfl, HF.out.below⟩
  · have HE : Hid ((sgn true m - sgn true n).sign = cmpN n m) := by show _ = _; rw [cmpN_sub]; congr 1 <;> (simp [sgn]; omega)
    rw [HE.out]
    go_enter Tryz.func61, Tryz.ntmps61
    go_wp2_with fail
    refine (compare_any _ _ _ _ _ _ n m _ HN.out HM.out hlb hla).mono ?_
    rintro e w1 ⟨rfl, hd⟩
    have HF1 := Lib.hid (HF.out.later hd.below)
    clear hd
    go_wp2
    go_ret
    exact ⟨rfl, HF1.out.below⟩
end Go.Proofs.YtcgnmihabkgecaaGreat

/- Texts: hasDigits, isPositive, isNumeral. -/
set_option linter.unusedVariables false
namespace Go.Proofs.YtcgnmihabkgecaaGreat
open Go.RowKit Go.Proofs

def isDig (c : UInt8) : Bool := decide (48 ≤ c.toNat) && decide (c.toNat ≤ 57)
def hasDigs (xs : List UInt8) : Bool := xs.all isDig && decide (xs ≠ [])

theorem all_take_succ {xs : List UInt8} {i : Nat} (hi : i < xs.length) (h : (xs.take i).all isDig = true) (hd : isDig xs[i] = true) : (xs.take (i + 1)).all isDig = true := by
  rw [List.take_succ_eq_append_getElem hi, List.all_append, h]
  simp [hd]

theorem hasDigs_false {xs : List UInt8} {i : Nat} (hi : i < xs.length) (hd : isDig xs[i] = false) : hasDigs xs = false := by
  unfold hasDigs
  rw [Bool.and_eq_false_iff]
  left
  rw [List.all_eq_false]
  exact ⟨xs[i], List.getElem_mem hi, by simp [hd]⟩

theorem str_size (xs : List UInt8) : (⟨xs.toArray⟩ : ByteArray).size = xs.length := by simp [ByteArray.size]
theorem str_get (xs : List UInt8) (i : Nat) (hi : i < xs.length) (h : i < (⟨xs.toArray⟩ : ByteArray).size) : (⟨xs.toArray⟩ : ByteArray)[i]'h = xs[i] := rfl

set_option maxHeartbeats 400000 in
theorem hasDigits_any (xs : List UInt8) (w : World) (hl : xs.length ≤ 1000000000) :
    Calls Tryz.prog 44 #[.string ⟨xs.toArray⟩] w fun e w' => e = .returned (.bool (hasDigs xs)) ∧ w = w' := by
  go_enter Tryz.func44, Tryz.ntmps44
  go_wp2
  go_loop [3] (fun t => ∃ i : Nat, i ≤ xs.length ∧ t = .int .i64 i ∧ (xs.take i).all isDig = true) (fun t => xs.length - (intOf t).toNat)
  case atStart => exact ⟨0, by omega, rfl, by simp⟩
  case round =>
    obtain ⟨i, hi, rfl, hall⟩ := hrel
    have HA := Lib.hid hall
    clear hall
    by_cases hil : i < xs.length
    · have t1 : (i : Int) < (xs.length : Int) := by omega
      have hs : i < (⟨xs.toArray⟩ : ByteArray).size := by rw [str_size]; exact hil
      obtain ⟨c, hc⟩ : ∃ c : Nat, c = xs[i].toNat := ⟨_, rfl⟩
      have hc2 : ((⟨xs.toArray⟩ : ByteArray)[i]'hs).toNat = c := hc.symm
      have HC := Lib.hid hc
      clear hc
      by_cases h1 : c < 48
      · have t2 : ¬ (48 : Int) ≤ ((((⟨xs.toArray⟩ : ByteArray)[i]'hs).toNat : Nat) : Int) := by rw [hc2]; omega
        have HX : Hid (hasDigs xs = false) := hasDigs_false hil (by unfold isDig; rw [← HC.out]; simp; omega)
        clear hc2
        go_wp2
        go_ret
        exact ⟨ret_bool HX.out.symm, rfl⟩
      · have t2 : (48 : Int) ≤ ((((⟨xs.toArray⟩ : ByteArray)[i]'hs).toNat : Nat) : Int) := by rw [hc2]; omega
        by_cases h2 : c ≤ 57
        · have t3 : ((((⟨xs.toArray⟩ : ByteArray)[i]'hs).toNat : Nat) : Int) ≤ 57 := by rw [hc2]; omega
          have HX : Hid (isDig xs[i] = true) := by show _ = _; unfold isDig; rw [← HC.out]; simp; omega
          clear hc2
          go_wp2
          go_round
          case rel => exact ⟨i + 1, by omega, by go_num, all_take_succ hil HA.out HX.out⟩
          case measure => simp [intOf]; omega
        · have t3 : ¬ ((((⟨xs.toArray⟩ : ByteArray)[i]'hs).toNat : Nat) : Int) ≤ 57 := by rw [hc2]; omega
          have HX : Hid (hasDigs xs = false) := hasDigs_false hil (by unfold isDig; rw [← HC.out]; simp; omega)
          clear hc2
          go_wp2
          go_ret
          exact ⟨ret_bool HX.out.symm, rfl⟩
    · have t1 : ¬ (i : Int) < (xs.length : Int) := by omega
      have HX : Hid (xs.all isDig = true) := by
        show _ = _
        have := HA.out
        rwa [List.take_of_length_le (by omega)] at this
      go_wp2
      go_ret
      refine ⟨ret_bool ?_, rfl⟩
      unfold hasDigs
      rw [HX.out]
      cases xs <;> simp

def isPos (xs : List UInt8) : Bool := hasDigs xs && decide (xs.head? ≠ some 48)

theorem hasDigs_ne {xs : List UInt8} (h : hasDigs xs = true) : xs ≠ [] := by
  unfold hasDigs at h
  simp at h
  exact h.2

set_option maxHeartbeats 400000 in
theorem isPositive_any (xs : List UInt8) (w : World) (hl : xs.length ≤ 1000000000) :
    Calls Tryz.prog 31 #[.string ⟨xs.toArray⟩] w fun e w' => e = .returned (.bool (isPos xs)) ∧ w = w' := by
  cases h : hasDigs xs with
  | false =>
    have HE : Hid (isPos xs = false) := by show _ = _; unfold isPos; rw [h]; rfl
    rw [HE.out]
    go_enter Tryz.func31, Tryz.ntmps31
    go_wp2_with fail
    refine (hasDigits_any xs _ hl).mono ?_
    rw [h]
    rintro e w1 ⟨rfl, rfl⟩
    clear h
    go_wp2
    go_ret
    exact ⟨rfl, rfl⟩
  | true =>
    obtain ⟨x, t, rfl⟩ : ∃ x t, xs = x :: t := by
      cases xs with
      | nil => exact absurd rfl (hasDigs_ne h)
      | cons x t => exact ⟨x, t, rfl⟩
    go_enter Tryz.func31, Tryz.ntmps31
    go_wp2_with fail
    refine (hasDigits_any _ _ hl).mono ?_
    rw [h]
    rintro e w1 ⟨rfl, rfl⟩
    have H := Lib.hid h
    clear h
    go_wp2
    go_ret
    refine ⟨ret_bool ?_, rfl⟩
    unfold isPos
    rw [H.out]
    show (((x.toNat : Nat) : Int) != 48) = _
    by_cases hx : x = 48
    · subst hx; rfl
    · have : x.toNat ≠ 48 := fun h => hx (UInt8.toNat_inj.1 h)
      simp [hx]
      omega

def isNum (xs : List UInt8) : Bool := decide (xs = [48]) || isPos (Lib.trimPrefix xs [45])

set_option maxHeartbeats 400000 in
theorem isNumeral_any (xs : List UInt8) (w : World) (hl : xs.length ≤ 1000000000) :
    Calls Tryz.prog 30 #[.string ⟨xs.toArray⟩] w fun e w' => e = .returned (.bool (isNum xs)) ∧ w = w' := by
  by_cases h0 : xs = [48]
  · subst h0
    go_enter Tryz.func30, Tryz.ntmps30
    go_wp2
    go_ret
    exact ⟨rfl, rfl⟩
  · have HE : Hid (isNum xs = isPos (Lib.trimPrefix xs [45])) := by show _ = _; unfold isNum; rw [decide_eq_false h0]; rfl
    rw [HE.out]
    have hle := Lib.trimPrefix_le xs [45]
    go_enter Tryz.func30, Tryz.ntmps30
    go_wp2_with fail
    refine (Tryz.strings_TrimPrefix _ _ _).mono ?_
    rintro e w1 ⟨rfl, rfl⟩
    go_wp2_with fail
    refine (isPositive_any (Lib.trimPrefix xs [45]) _ (by omega)).mono ?_
    rintro e w1 ⟨rfl, rfl⟩
    have H0 := Lib.hid h0
    clear h0
    go_wp2
    go_ret
    refine ⟨ret_bool ?_, rfl⟩
    have : (xs == [48]) = false := by simpa using H0.out
    rw [this, Bool.false_or]
end Go.Proofs.YtcgnmihabkgecaaGreat

/- readDigits. -/
set_option linter.unusedVariables false
namespace Go.Proofs.YtcgnmihabkgecaaGreat
open Go.RowKit Go.Proofs

/-- the number of a row of decimal digits, the highest one first -/
def dec (xs : List UInt8) : Nat := xs.foldl (fun a c => 10 * a + (c.toNat - 48)) 0

theorem foldl_dec (xs : List UInt8) (a : Nat) : xs.foldl (fun a c => 10 * a + (c.toNat - 48)) a = a * 10 ^ xs.length + dec xs := by
  induction xs generalizing a with
  | nil => simp [dec]
  | cons x xs ih =>
    unfold dec
    simp only [List.foldl_cons, List.length_cons]
    rw [ih, ih (10 * 0 + (x.toNat - 48)), Nat.pow_succ]
    grind

theorem dec_append (xs ys : List UInt8) : dec (xs ++ ys) = dec xs * 10 ^ ys.length + dec ys := by
  unfold dec
  rw [List.foldl_append, foldl_dec]
  rfl

theorem dec_snoc (xs : List UInt8) (c : UInt8) : dec (xs ++ [c]) = 10 * dec xs + (c.toNat - 48) := by
  rw [dec_append]; simp [dec, Nat.mul_comm]

theorem dec_lt {xs : List UInt8} (h : xs.all isDig = true) : dec xs < 10 ^ xs.length := by
  obtain ⟨zs, rfl⟩ : ∃ zs, xs = zs.reverse := ⟨xs.reverse, by simp⟩
  induction zs with
  | nil => simp [dec]
  | cons c zs ih =>
    rw [List.reverse_cons] at h ⊢
    rw [List.all_append, Bool.and_eq_true] at h
    have h2 := h.2
    simp [isDig] at h2
    rw [dec_snoc, List.length_append, List.length_singleton, Nat.pow_succ]
    have := ih h.1
    omega

theorem dec_take_succ {xs : List UInt8} {i : Nat} (hi : i < xs.length) : dec (xs.take (i + 1)) = 10 * dec (xs.take i) + (xs[i].toNat - 48) := by
  rw [List.take_succ_eq_append_getElem hi, dec_snoc]

theorem pow10_le {i : Nat} (h : i ≤ 8) : 10 ^ i ≤ 100000000 := Nat.pow_le_pow_right (by decide) h

theorem str_drop (ys : List UInt8) (i : Nat) : (⟨ys.toArray⟩ : ByteArray).extract i ys.length = ⟨(ys.drop i).toArray⟩ := by
  apply ByteArray.ext
  rw [ByteArray.data_extract]
  simp
  rw [List.take_of_length_le (by simp)]

def strLen : Value → Nat
  | .string s => s.size
  | _ => 0

def RdRel (xs : List UInt8) (W : World) (sv dv : Value) (wr : World) : Prop :=
  ∃ (p n : Nat) (zs : List Nat), sv = .string ⟨(xs.drop p).toArray⟩ ∧ p ≤ xs.length ∧ Own .u32 wr W.heap.size 91 dv n zs ∧ Dig B32 zs ∧ Top zs ∧ n ≤ p ∧ val B32 zs = dec (xs.take p) ∧ Below W.heap.size W wr

set_option maxHeartbeats 1000000 in
theorem readDigits_any (xs : List UInt8) (W : World) (hl : xs.length ≤ 100000000) (hd : xs.all isDig = true) :
    Calls Tryz.prog 45 #[.string ⟨xs.toArray⟩] W (Out32 W (dec xs)) := by
  have HD := Lib.hid hd
  clear hd
  go_enter Tryz.func45, Tryz.ntmps45
  go_wp2
  go_loopw [0, 3] (fun sv dv wr => RdRel xs W sv dv wr) (fun sv _ _ => strLen sv)
  case atStart => exact ⟨0, 0, [], by simp, by omega, Own.nil _ _ _ _, Dig.nil _, Top.nil, by omega, rfl, Below.refl _ _⟩
  case round =>
    obtain ⟨p, n, zs, rfl, hp, hown, hdz, ht, hn, hv, hbel⟩ := hrel
    have HO := Lib.hid hown
    have HZ := Lib.hid hdz
    have HT := Lib.hid ht
    have HV := Lib.hid hv
    have HB := Lib.hid hbel
    clear hown hdz ht hv hbel
    obtain ⟨ys, hys⟩ : ∃ ys, ys = xs.drop p := ⟨_, rfl⟩
    rw [← hys]
    have hyl : ys.length = xs.length - p := by rw [hys]; simp
    have HYL := Lib.hid hyl
    have HYS := Lib.hid hys
    clear hys hyl
    have hyb : ys.length ≤ 100000000 := by have := HYL.out; omega
    have HDY : Hid (ys.all isDig = true) := by
      show _ = _
      have h := HD.out
      rw [← List.take_append_drop p xs, List.all_append, Bool.and_eq_true] at h
      rw [HYS.out]; exact h.2
    by_cases h0 : ys.length = 0
    · have hpl : p = xs.length := by have := HYL.out; omega
      have HPL := Lib.hid hpl
      clear hpl
      have t1 : ¬ (0 : Int) < (ys.length : Int) := by omega
      obtain ⟨ao, cap, rfl, hlc, hcm, hsl⟩ := HO.out.sl
      have HS := Lib.hid hsl
      clear hsl
      go_wp2
      go_ret
      exact ⟨ao, n, cap, rfl, ⟨zs, HS.out, HZ.out, HT.out, by rw [HV.out, HPL.out, List.take_length]⟩, HB.out⟩
    · have t1 : (0 : Int) < (ys.length : Int) := by omega
      obtain ⟨s, hs⟩ : ∃ s : Nat, s = (ys.length - 1) % 9 + 1 := ⟨_, rfl⟩
      have e1 : ((ys.length : Int) - 1) % 9 + 1 = (s : Int) := by omega
      have hs9 : s ≤ 9 := by omega
      have hs1 : 1 ≤ s := by omega
      have hsy : s ≤ ys.length := by omega
      have HE1 := Lib.hid e1
      clear e1 hs
      go_wp2_with fail
      rw [HE1.out]
      go_loop [5, 6, 17] (fun gv bv iv => ∃ i : Nat, i ≤ s ∧ iv = .int .i64 (i : Int) ∧ gv = .int .u32 ((dec (ys.take i) : Nat) : Int) ∧ bv = .int .u32 ((10 ^ i : Nat) : Int)) (fun gv bv iv => s - (intOf iv).toNat)
      case atStart => exact ⟨0, by omega, rfl, rfl, rfl⟩
      case round =>
        obtain ⟨i, hi, rfl, rfl, rfl⟩ := hrel
        obtain ⟨b, hb⟩ : ∃ b, b = 10 ^ i := ⟨_, rfl⟩
        obtain ⟨g, hg⟩ : ∃ g, g = dec (ys.take i) := ⟨_, rfl⟩
        have hgb : g < b := by
          have h := HDY.out
          rw [← List.take_append_drop i ys, List.all_append, Bool.and_eq_true] at h
          have := dec_lt h.1
          rw [List.length_take, Nat.min_eq_left (by omega)] at this
          omega
        rw [← hb, ← hg]
        by_cases hil : i = s
        · subst hil
          have t2 : ¬ (i : Int) < (i : Int) := by omega
          have hb0 : 0 < b := by rw [hb]; exact Nat.pow_pos (by decide)
          have hb9 : b ≤ 1000000000 := by rw [hb]; exact (Nat.pow_le_pow_right (by decide) hs9 : 10 ^ i ≤ 10 ^ 9)
          have HBE := Lib.hid hb
          have HGE := Lib.hid hg
          have hnn : n ≤ 1000000000 := by omega
          clear hb hg
          have t6 : (0 : Int) ≤ (i : Int) := by omega
          have t7 : (i : Int) ≤ (ys.length : Int) := by omega
          go_wp2_with fail
          refine (scale_any W.heap.size n _ zs _ _ b g _ HO.out HZ.out HT.out rfl rfl hb0 (by omega) (by omega) hnn HB.out.size).mono ?_
          rintro e w1 ⟨v', m, zs', rfl, hown', hd', hm, hv', ht', hb'⟩
          have J1 := Lib.hid hown'
          have J2 := Lib.hid hd'
          have J3 := Lib.hid hv'
          have J4 := Lib.hid ht'
          have J5 := Lib.hid hb'
          clear hown' hd' hv' ht' hb'
          go_wp2
          rw [str_drop]
          have hi1 : 1 ≤ i := by omega
          refine ⟨⟨p + i, m, zs', ?_, by have := HYL.out; omega, J1.out, J2.out, J4.out, by omega, ?_, HB.out.trans J5.out⟩, ?_⟩
          · rw [HYS.out, List.drop_drop]
          · rw [J3.out, List.take_add, dec_append, HV.out, HGE.out, ← HYS.out, HBE.out, List.length_take, Nat.min_eq_left (by omega), Nat.mul_comm]
          · simp only [strLen, str_size, List.length_drop]
            omega
        · have t2 : (i : Int) < (s : Int) := by omega
          have hb8 : b ≤ 100000000 := by rw [hb]; exact pow10_le (by omega)
          have hiy : i < ys.length := by omega
          have hss : i < (⟨ys.toArray⟩ : ByteArray).size := by rw [str_size]; exact hiy
          have t3 : (i : Int) < (ys.length : Int) := by omega
          have hdg : isDig ys[i] = true := List.all_eq_true.1 HDY.out _ (List.getElem_mem hiy)
          have hdg2 : 48 ≤ ys[i].toNat ∧ ys[i].toNat ≤ 57 := by simpa [isDig] using hdg
          obtain ⟨c, hc⟩ : ∃ c : Nat, c = ys[i].toNat := ⟨_, rfl⟩
          have hc2 : ((⟨ys.toArray⟩ : ByteArray)[i]'hss).toNat = c := hc.symm
          rw [← hc] at hdg2
          have HN : Hid (dec (ys.take (i + 1)) = 10 * g + (c - 48)) := by show _ = _; rw [dec_take_succ hiy, ← hg, ← hc]
          have HBI : Hid (10 ^ (i + 1) = 10 * b) := by show _ = _; rw [Nat.pow_succ, ← hb]; omega
          have t4 : (48 : Int) ≤ ((((⟨ys.toArray⟩ : ByteArray)[i]'hss).toNat : Nat) : Int) := by rw [hc2]; omega
          have t5 : ((((⟨ys.toArray⟩ : ByteArray)[i]'hss).toNat : Nat) : Int) ≤ 57 := by rw [hc2]; omega
          have HC2 := Lib.hid hc2
          clear hb hg hdg hc hc2
          go_wp2
          go_round
          case rel =>
            rw [HC2.out]
            exact ⟨i + 1, by omega, by go_num, by rw [HN.out]; exact congrArg (Value.int _) (by omega), by rw [HBI.out]; exact congrArg (Value.int _) (by omega)⟩
          case measure => simp [intOf]; omega
end Go.Proofs.YtcgnmihabkgecaaGreat

/- readNumeral, Parse. -/
set_option linter.unusedVariables false
namespace Go.Proofs.YtcgnmihabkgecaaGreat
open Go.RowKit Go.Proofs

def bare (xs : List UInt8) : List UInt8 := Lib.trimPrefix xs [45]
/-- the integer of a numeral -/
def numZ (xs : List UInt8) : Int := sgn (Lib.hasPrefix xs [45]) (dec (bare xs))

theorem dec_cons (x : UInt8) (t : List UInt8) : dec (x :: t) = (x.toNat - 48) * 10 ^ t.length + dec t := by
  show (t.foldl (fun a c => 10 * a + (c.toNat - 48)) (10 * 0 + (x.toNat - 48))) = _
  rw [foldl_dec]; simp

theorem isNum_digits {xs : List UInt8} (h : isNum xs = true) : (bare xs).all isDig = true := by
  unfold isNum at h
  rw [Bool.or_eq_true] at h
  rcases h with h | h
  · have : xs = [48] := by simpa using h
    subst this; rfl
  · unfold isPos at h
    rw [Bool.and_eq_true] at h
    have h1 := h.1
    unfold hasDigs at h1
    rw [Bool.and_eq_true] at h1
    exact h1.1

theorem big_pow (n k : Nat) (hn : n = 4933) (h : n ≤ k) : 2 ^ 16384 ≤ 10 ^ k := by
  have h1 : 10 ^ n ≤ 10 ^ k := Nat.pow_le_pow_right (by decide) h
  have h2 : 2 ^ 16384 ≤ 10 ^ n := by subst hn; decide +kernel
  exact Nat.le_trans h2 h1

theorem isNum_long {xs : List UInt8} (h : isNum xs = true) (hl : 4933 < (bare xs).length) : ¬ Fits (numZ xs) := by
  unfold isNum at h
  rw [Bool.or_eq_true] at h
  rcases h with h | h
  · have : xs = [48] := by simpa using h
    subst this
    exact absurd hl (by decide)
  · unfold isPos at h
    rw [Bool.and_eq_true] at h
    have h1 := h.1
    unfold hasDigs at h1
    rw [Bool.and_eq_true] at h1
    have h2 := h.2
    unfold Fits numZ
    rw [sgn_natAbs]
    change (bare xs).all isDig = true ∧ _ at h1
    change decide ((bare xs).head? ≠ some 48) = true at h2
    cases hb : bare xs with
    | nil => rw [hb] at hl; simp at hl
    | cons x t =>
      rw [hb] at h1 h2 hl
      have h3 := h1.1
      rw [List.all_cons, Bool.and_eq_true] at h3
      have h4 : 48 ≤ x.toNat ∧ x.toNat ≤ 57 := by simpa [isDig] using h3.1
      have h5 : x ≠ 48 := by simpa using h2
      have h6 : x.toNat ≠ 48 := fun e => h5 (UInt8.toNat_inj.1 e)
      have h10 : 4933 ≤ t.length := by rw [List.length_cons] at hl; omega
      intro hbl
      have hlt := blen_le.1 hbl
      rw [dec_cons] at hlt
      have h7 : 1 * 10 ^ t.length ≤ (x.toNat - 48) * 10 ^ t.length := Nat.mul_le_mul_right _ (by omega)
      have h8 := big_pow 4933 t.length rfl h10
      have : (2 ^ 16384 : Nat) < 2 ^ 16384 := Nat.lt_of_le_of_lt (Nat.le_trans h8 (by omega)) hlt
      exact Nat.lt_irrefl _ this

theorem dec_len {xs : List UInt8} (h : xs.all isDig = true) : dec xs < B32 ^ xs.length := Nat.lt_of_lt_of_le (dec_lt h) (Nat.pow_le_pow_left (by decide) _)

theorem cut_any (xs : List UInt8) (W : World) :
    Calls Tryz.prog 43 #[.string ⟨xs.toArray⟩, .string ⟨#[45]⟩] W fun e w' => e = .returned (.tuple #[.string ⟨(bare xs).toArray⟩, .bool (Lib.hasPrefix xs [45])]) ∧ w' = W := Tryz.strings_CutPrefix _ _ _

set_option maxHeartbeats 1000000 in
theorem readNumeral_any (xs : List UInt8) (W : World) (hl : xs.length ≤ 100000000) (hn : isNum xs = true) :
    Calls Tryz.prog 32 #[.string ⟨xs.toArray⟩] W (OutF W (numZ xs)) := by
  have hf : Fr W (W.alloc (.cells #[.bool false, .slice none 0 0] 25)) [(25, #[.bool false, .slice none 0 0])] := (Fr.nil W).alloc rfl _ _
  have HF := Lib.hid hf
  have HDG := Lib.hid (isNum_digits hn)
  have HLG := Lib.hid (fun h => isNum_long hn h)
  have hble : (bare xs).length ≤ xs.length := Lib.trimPrefix_le xs [45]
  obtain ⟨ys, hys⟩ : ∃ ys, ys = bare xs := ⟨_, rfl⟩
  obtain ⟨s, hs⟩ : ∃ s, s = Lib.hasPrefix xs [45] := ⟨_, rfl⟩
  have hz : numZ xs = sgn s (dec ys) := by unfold numZ; rw [hs, hys]
  rw [← hys] at HDG HLG hble
  rw [hz] at HLG ⊢
  have HS := Lib.hid hs
  have HYS := Lib.hid hys
  clear hf hn hz hs hys
  go_enter Tryz.func32, Tryz.ntmps32
  go_wp2_with fail
  refine (cut_any xs _).mono ?_
  rintro e w1 ⟨rfl, rfl⟩
  rw [← HYS.out, ← HS.out]
  by_cases hlong : 4933 < ys.length
  · have t1 : (4933 : Int) < (ys.length : Int) := by omega
    have HX := Lib.hid (HLG.out hlong)
    clear hlong
    go_wp2
    exact bodyPost_ret (v := .tuple #[.agg #[.bool false, .slice none 0 0], .int .i64 3]) (by simp [results, Tryz.results32, go_sem]) rfl (.inr ⟨HX.out, rfl, HF.out.below⟩)
  · have t1 : ¬ (4933 : Int) < (ys.length : Int) := by omega
    go_wp2_with fail
    refine (readDigits_any ys _ (by omega) HDG.out).mono ?_
    rintro e w1 ⟨ro, rl, rc, rfl, hr, hb1⟩
    have HF1 := Lib.hid (HF.out.later hb1)
    have HR := Lib.hid hr
    have hrl : rl ≤ 1000000000 := Nat.le_trans (hr.len_le (dec_len HDG.out)) (by omega)
    clear hr hb1
    go_wp2_with fail
    refine (signed_any s _ _ _ (dec ys) _ HR.out).mono ?_
    rintro e w2 ⟨s2, so, sl, sc, rfl, hz2, hb2⟩
    have HF2 := Lib.hid (HF1.out.later hb2)
    have HZ2 := Lib.hid hz2
    have hsl : sl ≤ 1000000000 := by
      have h1 := hz2.n32
      rw [sgn_natAbs] at h1
      exact Nat.le_trans (h1.len_le (dec_len HDG.out)) (by omega)
    clear hz2 hb2
    go_wp2_with fail
    refine ((fitting_any _ _ _ _ (sgn s (dec ys)) _ HZ2.out hsl).mono fun e w h => h.one).mono ?_
    rintro e w3 ⟨neg, fo, fl, fc, er, z', rfl, hz, hb3, hx⟩
    have HF3 := Lib.hid (HF2.out.later hb3)
    have HZ := Lib.hid hz
    have HX := Lib.hid hx
    clear hb3 hz hx
    have g0 : w3.cell? ⟨W.heap.size, 0, none⟩ = some (.bool false) := HF3.out.cell 0 0 rfl rfl
    have g1 : w3.cell? ⟨W.heap.size, 1, none⟩ = some (.slice none 0 0) := HF3.out.cell 0 1 rfl rfl
    have g2 : w3.frozen? ⟨W.heap.size, 0, none⟩ = false := HF3.out.frozen 0 0 rfl
    have g3 : w3.frozen? ⟨W.heap.size, 1, none⟩ = false := HF3.out.frozen 0 1 rfl
    go_wp2
    obtain ⟨e0, e1, hz, hbel, _⟩ := HF3.out.finI (cap := fc) 0 rfl HZ.out
    exact bodyPost_ret (v := .tuple #[.agg #[.bool neg, .slice fo fl fc], .int .i64 er]) (by simp only [Nat.add_zero] at e0 e1; simp [results, Tryz.results32, go_sem, e0, e1]) rfl (OutF1.two ⟨neg, fo, fl, fc, er, z', rfl, hz, hbel, HX.out⟩)

/-- what Parse answers: the integer, or 0 and the error of a text that is no numeral -/
def ParsePost (xs : List UInt8) (W : World) (e : Ending) (w' : World) : Prop :=
  (isNum xs = true ∧ OutF W (numZ xs) e w') ∨ (isNum xs = false ∧ e = .returned (.tuple #[.agg #[.bool false, .slice none 0 0], .int .i64 4]) ∧ Below W.heap.size W w')

set_option maxHeartbeats 1000000 in
theorem parse_any (xs : List UInt8) (W : World) (hl : xs.length ≤ 100000000) :
    Calls Tryz.prog 123 #[.string ⟨xs.toArray⟩] W (ParsePost xs W) := by
  have hf : Fr W (W.alloc (.cells #[.bool false, .slice none 0 0] 25)) [(25, #[.bool false, .slice none 0 0])] := (Fr.nil W).alloc rfl _ _
  have HF := Lib.hid hf
  clear hf
  go_enter Tryz.func123, Tryz.ntmps123
  go_wp2_with fail
  refine (isNumeral_any xs _ (by omega)).mono ?_
  rintro e w1 ⟨rfl, rfl⟩
  cases hn : isNum xs with
  | false =>
    have HX := Lib.hid hn
    clear hn
    go_wp2
    exact bodyPost_ret (v := .tuple #[.agg #[.bool false, .slice none 0 0], .int .i64 4]) (by simp [results, Tryz.results123, go_sem]) rfl (.inr ⟨HX.out, rfl, HF.out.below⟩)
  | true =>
    have HX := Lib.hid hn
    clear hn
    go_wp2_with fail
    refine ((readNumeral_any xs _ hl HX.out).mono fun e w h => h.one).mono ?_
    rintro e w3 ⟨neg, fo, fl, fc, er, z', rfl, hz, hb3, hx⟩
    have HF3 := Lib.hid (HF.out.later hb3)
    have HZ := Lib.hid hz
    have HY := Lib.hid hx
    clear hb3 hz hx
    have g0 : w3.cell? ⟨W.heap.size, 0, none⟩ = some (.bool false) := HF3.out.cell 0 0 rfl rfl
    have g1 : w3.cell? ⟨W.heap.size, 1, none⟩ = some (.slice none 0 0) := HF3.out.cell 0 1 rfl rfl
    have g2 : w3.frozen? ⟨W.heap.size, 0, none⟩ = false := HF3.out.frozen 0 0 rfl
    have g3 : w3.frozen? ⟨W.heap.size, 1, none⟩ = false := HF3.out.frozen 0 1 rfl
    go_wp2
    obtain ⟨e0, e1, hz, hbel, _⟩ := HF3.out.finI (cap := fc) 0 rfl HZ.out
    exact bodyPost_ret (v := .tuple #[.agg #[.bool neg, .slice fo fl fc], .int .i64 er]) (by simp only [Nat.add_zero] at e0 e1; simp [results, Tryz.results123, go_sem, e0, e1]) rfl (.inl ⟨HX.out, OutF1.two ⟨neg, fo, fl, fc, er, z', rfl, hz, hbel, HY.out⟩⟩)
end Go.Proofs.YtcgnmihabkgecaaGreat
