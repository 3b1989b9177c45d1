/- Part 9 of the contracts: LehB, LehC, LehD, LehE, LehF, Law1, IntB, Par. -/
import Derived.IntWalk
import Derived.Deep.CutRange
import Derived.Test.YtbihgllfllkkaaaGreatPart8

/- combine, window. -/
set_option linter.unusedVariables false
namespace Go.Proofs.YtbihgllfllkkaaaGreat
open Go.RowKit

def CombRel (n f g : Nat) (xs ys : List Nat) (W : World) (cv dv wv iv : Value) (wr : World) : Prop :=
  ∃ (c d w i : Nat) (zs : List Nat), cv = .int .u64 (c : Int) ∧ dv = .int .u64 (d : Int) ∧ wv = .int .u64 (w : Int) ∧ iv = .int .i64 (i : Int) ∧ Blk .u32 wr W.heap.size 107 zs ∧ zs.length = n ∧ Dig B32 zs ∧ i ≤ n ∧ c ≤ f ∧ d ≤ g ∧ w ≤ 1 ∧
    val B32 zs + c * B32 ^ i + g * val B32 (ys.take i) = f * val B32 (xs.take i) + (d + w) * B32 ^ i ∧ (∀ j, i ≤ j → zs[j]?.getD 0 = 0) ∧ Below W.heap.size W wr

theorem u64_wrap_mod (z : Int) : IntKind.u64.wrap z = z % 18446744073709551616 := by
  simp [IntKind.wrap, IntKind.bits, IntKind.signed]

/-- one digit of a difference, with the borrow -/
theorem comb_digit (a b w : Nat) (ha : a < 4294967296) (hb : b < 4294967296) (hw : w ≤ 1) : ∃ nw w' : Nat, nw < 4294967296 ∧ w' ≤ 1 ∧ nw + b + w = a + w' * 4294967296 ∧
    IntKind.u64.wrap (IntKind.u64.wrap ((a : Int) - (b : Int)) - (w : Int)) % 4294967296 = (nw : Int) ∧ IntKind.u64.wrap (IntKind.u64.wrap ((a : Int) - (b : Int)) - (w : Int)) / 9223372036854775808 = (w' : Int) := by
  rw [u64_wrap_mod, u64_wrap_mod]
  by_cases h : a < b + w
  · exact ⟨a + 4294967296 - b - w, 1, by omega, by omega, by omega, by omega, by omega⟩
  · exact ⟨a - b - w, 0, by omega, by omega, by omega, by omega, by omega⟩

set_option maxRecDepth 8000 in
set_option maxHeartbeats 2000000 in
theorem combine_raw (ao bo : Option Addr) (la lb ca cb n f g D : Nat) (xs ys : List Nat) (F G : Int) (W : World) (ha : Sl .u32 W ao la xs) (hb : Sl .u32 W bo lb ys) (hda : Dig B32 xs) (hdb : Dig B32 ys) (hla : la ≤ 1000000000) (hlb : lb ≤ 1000000000) (hn : n = max la lb)
    (hF : F = (f : Int)) (hG : G = (g : Int)) (hf : f < 4294967296) (hg : g < 4294967296) (hD : f * val B32 xs = g * val B32 ys + D) (hDl : D < B32 ^ n) :
    Calls Tryz.prog 139 #[.slice ao la ca, .int .u64 F, .slice bo lb cb, .int .u64 G] W (Out32 W D) := by
  subst hF hG
  have HA := Lib.hid ha
  have HB := Lib.hid hb
  have HDA := Lib.hid hda
  have HDB := Lib.hid hdb
  have HD := Lib.hid hD
  have HDL := Lib.hid hDl
  have HN := Lib.hid hn
  have hn1 : max (la : Int) (lb : Int) = (n : Int) := by omega
  have hn2 : n ≤ 1000000000 := by omega
  have HG := Lib.hid (Nat.le_refl W.heap.size)
  clear ha hb hda hdb hD hDl hn
  go_enter Tryz.func139, Tryz.ntmps139
  go_wp2_with (at_make; refine wpList_mk rfl _ 29 rfl 107 .u32 4 Tryz.underlying29 (by kernel_rfl) _ n rfl (by omega) (by omega) (by omega) ?_; intro w1 hB1 hb1 hz1)
  go_loopw [10, 11, 12, 23] (fun cv dv wv iv wr => CombRel n f g xs ys W cv dv wv iv wr) (fun cv dv wv iv _ => n - (intOf iv).toNat)
  case atStart =>
    refine ⟨0, 0, 0, 0, _, rfl, rfl, rfl, rfl, hB1, by simp, Dig.replicate B32_pos _, by omega, by omega, by omega, by omega, ?_, ?_, hb1⟩
    · rw [val_replicate]; simp [val]
    · intro j hj; rw [List.getElem?_replicate]; split <;> rfl
  case round =>
    obtain ⟨c, d, w, i, zs, rfl, rfl, rfl, rfl, hB, hzl, hdz, hi, hc, hd, hw1, hv, h0, hbel⟩ := hrel
    have HZ := Lib.hid hB
    have HL := Lib.hid hzl
    have HDZ := Lib.hid hdz
    have HVV := Lib.hid hv
    have H0 := Lib.hid h0
    have HW := Lib.hid hbel
    clear hB hzl hdz hv h0 hbel
    by_cases hil : i < n
    · have hx := HDA.out.get B32_pos i
      have hy := HDB.out.get B32_pos i
      obtain ⟨x, hxe⟩ : ∃ x, x = xs[i]?.getD 0 := ⟨_, rfl⟩
      obtain ⟨y, hye⟩ : ∃ x, x = ys[i]?.getD 0 := ⟨_, rfl⟩
      rw [← hxe] at hx
      rw [← hye] at hy
      rw [B32_eq] at hx hy
      have HX := Lib.hid hxe
      have HY := Lib.hid hye
      obtain ⟨s, hs⟩ : ∃ s : Nat, s = x * f := ⟨_, rfl⟩
      obtain ⟨t, ht⟩ : ∃ t : Nat, t = y * g := ⟨_, rfl⟩
      have hs2 : (x : Int) * (f : Int) = (s : Int) := by rw [hs, Int.natCast_mul]
      have ht2 : (y : Int) * (g : Int) = (t : Int) := by rw [ht, Int.natCast_mul]
      have hs3 : s ≤ 18446744065119617025 := by rw [hs]; exact Nat.mul_le_mul (by omega : x ≤ 4294967295) (by omega : f ≤ 4294967295)
      have ht3 : t ≤ 18446744065119617025 := by rw [ht]; exact Nat.mul_le_mul (by omega : y ≤ 4294967295) (by omega : g ≤ 4294967295)
      have HS := Lib.hid hs
      have HT := Lib.hid ht
      clear hxe hye hs ht
      have b0 : (0 : Int) ≤ (i : Int) := by omega
      have b1 : (i : Int) < (n : Int) := by omega
      have cz1 := HZ.out.cell i (by rw [HL.out]; exact hil)
      have fz1 := HZ.out.frozen i
      have HAr := Lib.hid (HA.out.keep HW.out)
      have HBr := Lib.hid (HB.out.keep HW.out)
      go_wp2_with fail
      refine (digit_any _ _ _ xs _ i _ HAr.out rfl).mono ?_
      rw [← HX.out]
      rintro e w2 ⟨rfl, rfl⟩
      go_wp2_with fail
      refine (digit_any _ _ _ ys _ i _ HBr.out rfl).mono ?_
      rw [← HY.out]
      rintro e w2 ⟨rfl, rfl⟩
      go_wp2_with fail
      refine ⟨?_, by simp [intOf]; omega⟩
      obtain ⟨nw, w', hn1, hw2, hnw, hv1, hv2⟩ := comb_digit ((c + s) % 4294967296) ((d + t) % 4294967296) w (Nat.mod_lt _ (by decide)) (Nat.mod_lt _ (by decide)) hw1
      rw [Int.natCast_emod, Int.natCast_emod, Int.natCast_add, Int.natCast_add] at hv1 hv2
      have hv1' : IntKind.u64.wrap (IntKind.u64.wrap (((c : Int) + (s : Int)) % 4294967296 - ((d : Int) + (t : Int)) % 4294967296) - (w : Int)) % 4294967296 = (nw : Int) := hv1
      have hv2' : IntKind.u64.wrap (IntKind.u64.wrap (((c : Int) + (s : Int)) % 4294967296 - ((d : Int) + (t : Int)) % 4294967296) - (w : Int)) / 9223372036854775808 = (w' : Int) := hv2
      rw [hv1', hv2']
      have h00 := H0.out i (Nat.le_refl _)
      have hst := comb_step (B := B32) (w' := w') (nw := nw) (by rw [HL.out]; exact hil) h00 HVV.out (by rw [← HX.out, ← HY.out, ← HS.out, ← HT.out, B32_eq]; exact hnw)
      rw [← HX.out, ← HY.out, ← HS.out, ← HT.out] at hst
      have hc2 : (c + s) / B32 ≤ f := by rw [HS.out]; exact comb_carry B32_pos hc (by rw [B32_eq]; exact hx)
      have hd2 : (d + t) / B32 ≤ g := by rw [HT.out]; exact comb_carry B32_pos hd (by rw [B32_eq]; exact hy)
      refine ⟨(c + s) / B32, (d + t) / B32, w', i + 1, zs.set i nw, ?_, ?_, rfl, by go_num, HZ.out.set _ _ _ rfl, by simpa using HL.out, HDZ.out.set _ (by rw [B32_eq]; exact hn1), by omega, hc2, hd2, hw2, hst, ?_, HW.out.setCell (Nat.le_refl _) _⟩
      · exact congrArg (Value.int _) (by rw [B32_eq]; omega)
      · exact congrArg (Value.int _) (by rw [B32_eq]; omega)
      · intro j hj
        rw [List.getElem?_set_ne (by omega)]
        exact H0.out j (by omega)
    · obtain rfl : i = n := by omega
      have HSL := Lib.hid (HZ.out.whole HL.out)
      go_wp2_with fail
      refine (trim_raw _ _ _ _ _ HSL.out (Nat.le_refl _) (by omega)).mono ?_
      rintro e w3 ⟨⟨ao', m, rfl, hm, ha', hz', ht, hzz⟩, rfl⟩
      have HT := Lib.hid ht
      have HZZ := Lib.hid hzz
      have HAA := Lib.hid ha'
      clear ht hzz ha' hz'
      go_wp2
      go_ret
      refine ⟨ao', m, m, rfl, ⟨zs.take m, trim_sl HSL.out hm HAA.out, HDZ.out.take _, HT.out, ?_⟩, HW.out⟩
      rw [val_take_of_zeros HZZ.out]
      have hlx := HA.out.len
      have hly := HB.out.len
      have hnn := HN.out
      have hv := HVV.out
      rw [List.take_of_length_le (by omega), List.take_of_length_le (by omega)] at hv
      have hvl := val_lt B32_pos HDZ.out
      rw [HL.out] at hvl
      exact comb_end hv HD.out HDL.out hvl

theorem combine_any (ao bo : Option Addr) (la lb ca cb x f y g D : Nat) (F G : Int) (W : World) (ha : N32 W ao la x) (hb : N32 W bo lb y) (hla : la ≤ 1000000000) (hlb : lb ≤ 1000000000)
    (hF : F = (f : Int)) (hG : G = (g : Int)) (hf : f < 4294967296) (hg : g < 4294967296) (hD : f * x = g * y + D) (hDl : D ≤ x ∨ D ≤ y) :
    Calls Tryz.prog 139 #[.slice ao la ca, .int .u64 F, .slice bo lb cb, .int .u64 G] W (Out32 W D) := by
  have hx := ha.lt
  have hy := hb.lt
  have h1 : B32 ^ la ≤ B32 ^ max la lb := Nat.pow_le_pow_right B32_pos (by omega)
  have h2 : B32 ^ lb ≤ B32 ^ max la lb := Nat.pow_le_pow_right B32_pos (by omega)
  obtain ⟨xs, ha, hda, hta, hva⟩ := ha
  obtain ⟨ys, hb, hdb, htb, hvb⟩ := hb
  exact combine_raw ao bo la lb ca cb _ f g D xs ys F G W ha hb hda hdb hla hlb rfl hF hG hf hg (by rw [hva, hvb]; exact hD) (by omega)
end Go.Proofs.YtbihgllfllkkaaaGreat

/- window. -/
set_option linter.unusedVariables false
namespace Go.Proofs.YtbihgllfllkkaaaGreat
open Go.RowKit

theorem win_bits {p x s k : Nat} (hp : p < 18446744073709551616) (hs : s ≤ 64) (hk : k = 64 - s) :
    bits BinOp.or IntKind.u64 ((p : Int) / 2 ^ s) (IntKind.u64.wrap ((x : Int) * 2 ^ k)) = ((p / 2 ^ s + x % 2 ^ s * 2 ^ k : Nat) : Int) := by
  have h64 : 2 ^ s * 2 ^ k = 18446744073709551616 := by rw [hk]; exact pow64_split hs
  have hm : 0 < 2 ^ s := Nat.pow_pos (by decide)
  have e1 : (p : Int) / 2 ^ s = ((p / 2 ^ s : Nat) : Int) := by rw [Int.natCast_ediv, Int.natCast_pow]; rfl
  have e2 : IntKind.u64.wrap ((x : Int) * 2 ^ k) = ((x % 2 ^ s : Nat) : Int) * ((2 ^ k : Nat) : Int) := by
    have h1 : (x : Int) * 2 ^ k = ((x * 2 ^ k : Nat) : Int) := by push_cast; rfl
    have h2 : x * 2 ^ k % 18446744073709551616 = x % 2 ^ s * 2 ^ k := by rw [← h64, Nat.mul_mod_mul_right]
    rw [u64_wrap_mod, h1, ← Int.natCast_mul, ← h2]
    exact (Int.natCast_emod _ _).symm
  rw [e1, e2]
  have hlt : p / 2 ^ s < 2 ^ k := by rw [Nat.div_lt_iff_lt_mul hm, Nat.mul_comm, h64]; exact hp
  have hx : x % 2 ^ s * 2 ^ k < 18446744073709551616 := by
    rw [← h64]; exact Nat.mul_lt_mul_of_pos_right (Nat.mod_lt _ hm) (Nat.pow_pos (by decide))
  exact or_shift (p / 2 ^ s) (x % 2 ^ s) k (2 ^ k) hlt rfl hx (Nat.lt_of_le_of_lt (Nat.div_le_self _ _) hp)

set_option maxRecDepth 8000 in
set_option maxHeartbeats 2000000 in
theorem window_any (ao : Option Addr) (la ca n low : Nat) (I : Int) (W : World) (h : N32 W ao la n) (hI : I = (low : Int)) (hla : la ≤ 1000000000) (hlow : low ≤ 100000000000) :
    Calls Tryz.prog 121 #[.slice ao la ca, .int .i64 I] W (fun e w' => e = .returned (.int .u64 ((n / 2 ^ low % 18446744073709551616 : Nat) : Int)) ∧ Drew W w') := by
  subst hI
  obtain ⟨xs, hs, hd, ht, hv⟩ := h
  obtain ⟨i, hi⟩ : ∃ i, i = low / 32 := ⟨_, rfl⟩
  obtain ⟨s, hss⟩ : ∃ s, s = low % 32 := ⟨_, rfl⟩
  have hs32 : s < 32 := by omega
  have hlo : low = 32 * i + s := by omega
  have hx0 := hd.get B32_pos i
  have hx1 := hd.get B32_pos (i + 1)
  have hx2 := hd.get B32_pos (i + 2)
  have hwin := win_val hd i s hs32
  rw [← hlo, hv] at hwin
  obtain ⟨x0, e0⟩ : ∃ x, x = xs[i]?.getD 0 := ⟨_, rfl⟩
  obtain ⟨x1, e1⟩ : ∃ x, x = xs[i + 1]?.getD 0 := ⟨_, rfl⟩
  obtain ⟨x2, e2⟩ : ∃ x, x = xs[i + 2]?.getD 0 := ⟨_, rfl⟩
  rw [← e0, ← e1, ← e2] at hwin
  rw [← e0, B32_eq] at hx0
  rw [← e1, B32_eq] at hx1
  rw [← e2, B32_eq] at hx2
  have H := Lib.hid hs
  have E0 := Lib.hid e0
  have E1 := Lib.hid e1
  have E2 := Lib.hid e2
  have HW := Lib.hid hwin
  have t1 : (low : Int).tdiv 32 = (i : Int) := by rw [Int.tdiv_eq_ediv_of_nonneg (Int.natCast_nonneg _)]; omega
  have t2 : (low : Int).tmod 32 = (s : Int) := by rw [Int.tmod_eq_emod_of_nonneg (Int.natCast_nonneg _)]; omega
  have t3 : (low : Int) / 32 = (i : Int) := by omega
  have t4 : (low : Int) % 32 = (s : Int) := by omega
  obtain ⟨k, hk⟩ : ∃ k, k = 64 - s := ⟨_, rfl⟩
  have hk0 : 32 < k := by omega
  have hk1 : k ≤ 64 := by omega
  have t5 : (64 : Int) - (s : Int) = (k : Int) := by omega
  have HK := Lib.hid hk
  have s0 : (0 : Int) ≤ (s : Int) := by omega
  have s1 : (s : Int) < 32 := by omega
  clear hs hd ht hv e0 e1 e2 hwin hi hss hlo hk
  have ho : bits BinOp.or IntKind.u64 (x0 : Int) ((x1 : Int) * 4294967296) = ((x0 + x1 * 4294967296 : Nat) : Int) := or_shift x0 x1 32 4294967296 (by omega) (by decide) (by omega) (by omega)
  obtain ⟨p, hp⟩ : ∃ p, p = x0 + x1 * 4294967296 := ⟨_, rfl⟩
  rw [← hp] at ho
  have hp2 : p < 18446744073709551616 := by omega
  have HP := Lib.hid hp
  clear hp
  go_enter Tryz.func121, Tryz.ntmps121
  go_wp2_with fail
  refine (digit_any _ _ _ xs _ i _ H.out rfl).mono ?_
  rw [← E0.out]
  rintro e w2 ⟨rfl, rfl⟩
  go_wp2_with fail
  refine (digit_any _ _ _ xs _ (i + 1) _ H.out (by omega)).mono ?_
  rw [← E1.out]
  rintro e w2 ⟨rfl, rfl⟩
  go_wp2_with fail
  go_quiet ((go_at_call 131; exact digit_quiet _ _ _ xs _ (i + 2) x2 _ _ H.out (by omega) E2.out))
  go_wp2
  go_ret
  refine ⟨ret_int ?_, ⟨nq, rfl⟩⟩
  rw [win_bits hp2 (by omega) HK.out, HW.out, HP.out, HK.out]
end Go.Proofs.YtbihgllfllkkaaaGreat

/- foresee. -/
set_option linter.unusedVariables false
namespace Go.Proofs.YtbihgllfllkkaaaGreat
open Go.RowKit

def ForeOut (A B : Nat) (W : World) (e : Ending) (w' : World) : Prop :=
  ∃ (α β γ δ : Nat) (odd : Bool), e = .returned (.agg #[.int .u64 (α : Int), .int .u64 (β : Int), .int .u64 (γ : Int), .int .u64 (δ : Int), .bool odd]) ∧ (β = 0 ∨ Fore A B α β γ δ odd) ∧ Below W.heap.size W w'

def ForeRel (A B : Nat) (W : World) (av bv cv dv : Value) (wr : World) : Prop :=
  ∃ (a b α β na nb la lb : Nat) (odd : Bool), av = .int .u64 (a : Int) ∧ bv = .int .u64 (b : Int) ∧ cv = .int .u64 (la : Int) ∧ dv = .int .u64 (lb : Int) ∧
    Fr W wr [(129, #[.int .u64 0, .int .u64 0, .int .u64 0, .int .u64 0, .bool false]), (129, #[.int .u64 (α : Int), .int .u64 (β : Int), .int .u64 (na : Int), .int .u64 (nb : Int), .bool odd])] ∧
    ForeInv A B a b na nb la lb odd ∧ (β = 0 ∨ Fore A B α β na nb odd)

set_option maxRecDepth 8000 in
set_option maxHeartbeats 2000000 in
theorem foresee_any (A B : Nat) (X Y : Int) (W : World) (hX : X = (A : Int)) (hY : Y = (B : Int)) (hA : A < 18446744073709551616) (hBA : B ≤ A) :
    Calls Tryz.prog 120 #[.int .u64 X, .int .u64 Y] W (ForeOut A B W) := by
  subst hX hY
  have hf : Fr W ((W.alloc (.cells #[.int .u64 0, .int .u64 0, .int .u64 0, .int .u64 0, .bool false] 129)).alloc (.cells #[.int .u64 0, .int .u64 0, .int .u64 1, .int .u64 0, .bool true] 129))
      [(129, #[.int .u64 0, .int .u64 0, .int .u64 0, .int .u64 0, .bool false]), (129, #[.int .u64 0, .int .u64 0, .int .u64 1, .int .u64 0, .bool true])] :=
    ((Fr.nil W).alloc rfl _ _).alloc (by simp) _ _
  have HF := Lib.hid hf
  clear hf
  go_enter Tryz.func120, Tryz.ntmps120
  go_wp2
  go_loopw [0, 1, 6, 7] (fun av bv cv dv wr => ForeRel A B W av bv cv dv wr) (fun av bv cv dv _ => (intOf bv).toNat)
  case atStart =>
    exact ⟨A, B, 0, 0, 1, 0, 0, 1, true, rfl, rfl, rfl, rfl, HF.out, ForeInv.start hBA, .inl rfl⟩
  case round =>
    obtain ⟨a, b, α, β, na, nb, la, lb, odd, rfl, rfl, rfl, rfl, hf, hi, ho⟩ := hrel
    have GF := Lib.hid hf
    have GI := Lib.hid hi
    have GO := Lib.hid ho
    have hba : b ≤ a := hi.2.2.1
    have hlb1 : 1 ≤ lb := hi.2.2.2.2.1
    have c0 : wr.cell? ⟨W.heap.size + 1, 0, none⟩ = some (.int .u64 (α : Int)) := hf.cell 1 0 rfl rfl
    have c1 : wr.cell? ⟨W.heap.size + 1, 1, none⟩ = some (.int .u64 (β : Int)) := hf.cell 1 1 rfl rfl
    have c2 : wr.cell? ⟨W.heap.size + 1, 2, none⟩ = some (.int .u64 (na : Int)) := hf.cell 1 2 rfl rfl
    have c3 : wr.cell? ⟨W.heap.size + 1, 3, none⟩ = some (.int .u64 (nb : Int)) := hf.cell 1 3 rfl rfl
    have c4 : wr.cell? ⟨W.heap.size + 1, 4, none⟩ = some (.bool odd) := hf.cell 1 4 rfl rfl
    have f0 : wr.frozen? ⟨W.heap.size + 1, 0, none⟩ = false := hf.frozen 1 0 rfl
    have f1 : wr.frozen? ⟨W.heap.size + 1, 1, none⟩ = false := hf.frozen 1 1 rfl
    have f2 : wr.frozen? ⟨W.heap.size + 1, 2, none⟩ = false := hf.frozen 1 2 rfl
    have f3 : wr.frozen? ⟨W.heap.size + 1, 3, none⟩ = false := hf.frozen 1 3 rfl
    have f4 : wr.frozen? ⟨W.heap.size + 1, 4, none⟩ = false := hf.frozen 1 4 rfl
    by_cases h1 : lb ≤ b
    · obtain ⟨k1, k2, k3, k4, k5, k6, k7, k8, k9, k10⟩ := hi.bounds h1
      obtain ⟨q, hq⟩ : ∃ q, q = a / b := ⟨_, rfl⟩
      obtain ⟨r, hr⟩ : ∃ r, r = a % b := ⟨_, rfl⟩
      rw [← hq] at k2 k3 k4 k5
      have hb0 : 0 < b := by omega
      have t1 : (lb : Int) ≤ (b : Int) := by omega
      have tq : (a : Int).tdiv (b : Int) = (q : Int) := by rw [hq]; exact (Int.ofNat_tdiv _ _).symm
      have tr : (a : Int).tmod (b : Int) = (r : Int) := by rw [hr]; exact (Int.ofNat_tmod _ _).symm
      have tq2 : (a : Int) / (b : Int) = (q : Int) := by rw [hq]; exact (Int.natCast_ediv _ _).symm
      have tr2 : (a : Int) % (b : Int) = (r : Int) := by rw [hr]; exact (Int.natCast_emod _ _).symm
      have hrb : r < b := by rw [hr]; exact Nat.mod_lt _ hb0
      have hqa : q ≤ a := by rw [hq]; exact Nat.div_le_self _ _
      have tw : IntKind.u64.wrap (q : Int) = (q : Int) := u64_wrap_nat q (by omega)
      obtain ⟨s, hs⟩ : ∃ s : Nat, s = q * la := ⟨_, rfl⟩
      obtain ⟨t, ht⟩ : ∃ t : Nat, t = q * lb := ⟨_, rfl⟩
      have hs2 : (q : Int) * (la : Int) = (s : Int) := by rw [hs, Int.natCast_mul]
      have ht2 : (q : Int) * (lb : Int) = (t : Int) := by rw [ht, Int.natCast_mul]
      rw [← ht] at k2 k4
      rw [← hs] at k3 k5
      have HQ := Lib.hid hq
      have HR := Lib.hid hr
      have HS := Lib.hid hs
      have HT := Lib.hid ht
      clear hf hi ho hq hr hs ht
      by_cases h2 : nb + lb ≤ a - b
      · have t2 : (nb : Int) + (lb : Int) ≤ (a : Int) - (b : Int) := by omega
        have t3 : (0 : Int) < (b : Int) := by omega
        go_wp2
        go_quiet (fail)
        go_wp2
        refine ⟨?_, by simp [intOf]; omega⟩
        have hn := GI.out.next hb0
        have hfo : Hid (α = α) := rfl
        rw [← HQ.out, ← HR.out, ← HS.out, ← HT.out] at hn
        have hF := ((((((GF.out.later (below_drewN1 (Below.refl _ wr) nq)).set 1 0 rfl (.int .u64 (na : Int))).set 1 2 rfl (.int .u64 (la : Int))).set 1 1 rfl (.int .u64 (nb : Int))).set 1 3 rfl (.int .u64 (lb : Int))).set 1 4 rfl (.bool (!odd)))
        refine ⟨b, r, na, nb, la, lb, na + s, nb + t, !odd, rfl, rfl, by rw [Int.natCast_add], by rw [Int.natCast_add], hF, hn, ?_⟩
        by_cases hnb : nb = 0
        · exact .inl hnb
        · exact .inr (GI.out.fore hA h1 h2 hnb)
      · have t2 : ¬ (nb : Int) + (lb : Int) ≤ (a : Int) - (b : Int) := by omega
        have g0 : wr.cell? ⟨W.heap.size, 0, none⟩ = some (.int .u64 0) := GF.out.cell 0 0 rfl rfl
        have k0f : wr.frozen? ⟨W.heap.size, 0, none⟩ = false := GF.out.frozen 0 0 rfl
        have g1 : wr.cell? ⟨W.heap.size, 1, none⟩ = some (.int .u64 0) := GF.out.cell 0 1 rfl rfl
        have k1f : wr.frozen? ⟨W.heap.size, 1, none⟩ = false := GF.out.frozen 0 1 rfl
        have g2 : wr.cell? ⟨W.heap.size, 2, none⟩ = some (.int .u64 0) := GF.out.cell 0 2 rfl rfl
        have k2f : wr.frozen? ⟨W.heap.size, 2, none⟩ = false := GF.out.frozen 0 2 rfl
        have g3 : wr.cell? ⟨W.heap.size, 3, none⟩ = some (.int .u64 0) := GF.out.cell 0 3 rfl rfl
        have k3f : wr.frozen? ⟨W.heap.size, 3, none⟩ = false := GF.out.frozen 0 3 rfl
        have g4 : wr.cell? ⟨W.heap.size, 4, none⟩ = some (.bool false) := GF.out.cell 0 4 rfl rfl
        have k4f : wr.frozen? ⟨W.heap.size, 4, none⟩ = false := GF.out.frozen 0 4 rfl
        go_wp2
        have hF := ((((GF.out.set 0 0 rfl (.int .u64 (α : Int))).set 0 1 rfl (.int .u64 (β : Int))).set 0 2 rfl (.int .u64 (na : Int))).set 0 3 rfl (.int .u64 (nb : Int))).set 0 4 rfl (.bool odd)
        have e0 := hF.cell 0 0 rfl rfl
        have e1 := hF.cell 0 1 rfl rfl
        have e2 := hF.cell 0 2 rfl rfl
        have e3 := hF.cell 0 3 rfl rfl
        have e4 := hF.cell 0 4 rfl rfl
        exact bodyPost_ret (v := .agg #[.int .u64 (α : Int), .int .u64 (β : Int), .int .u64 (na : Int), .int .u64 (nb : Int), .bool odd]) (by simp only [Nat.add_zero] at e0 e1 e2 e3 e4; simp [results, Tryz.results120, go_sem, e0, e1, e2, e3, e4]) rfl ⟨α, β, na, nb, odd, rfl, GO.out, hF.below⟩
    · have t1 : ¬ (lb : Int) ≤ (b : Int) := by omega
      clear hf hi ho
      have g0 : wr.cell? ⟨W.heap.size, 0, none⟩ = some (.int .u64 0) := GF.out.cell 0 0 rfl rfl
      have k0f : wr.frozen? ⟨W.heap.size, 0, none⟩ = false := GF.out.frozen 0 0 rfl
      have g1 : wr.cell? ⟨W.heap.size, 1, none⟩ = some (.int .u64 0) := GF.out.cell 0 1 rfl rfl
      have k1f : wr.frozen? ⟨W.heap.size, 1, none⟩ = false := GF.out.frozen 0 1 rfl
      have g2 : wr.cell? ⟨W.heap.size, 2, none⟩ = some (.int .u64 0) := GF.out.cell 0 2 rfl rfl
      have k2f : wr.frozen? ⟨W.heap.size, 2, none⟩ = false := GF.out.frozen 0 2 rfl
      have g3 : wr.cell? ⟨W.heap.size, 3, none⟩ = some (.int .u64 0) := GF.out.cell 0 3 rfl rfl
      have k3f : wr.frozen? ⟨W.heap.size, 3, none⟩ = false := GF.out.frozen 0 3 rfl
      have g4 : wr.cell? ⟨W.heap.size, 4, none⟩ = some (.bool false) := GF.out.cell 0 4 rfl rfl
      have k4f : wr.frozen? ⟨W.heap.size, 4, none⟩ = false := GF.out.frozen 0 4 rfl
      go_wp2
      have hF := ((((GF.out.set 0 0 rfl (.int .u64 (α : Int))).set 0 1 rfl (.int .u64 (β : Int))).set 0 2 rfl (.int .u64 (na : Int))).set 0 3 rfl (.int .u64 (nb : Int))).set 0 4 rfl (.bool odd)
      have e0 := hF.cell 0 0 rfl rfl
      have e1 := hF.cell 0 1 rfl rfl
      have e2 := hF.cell 0 2 rfl rfl
      have e3 := hF.cell 0 3 rfl rfl
      have e4 := hF.cell 0 4 rfl rfl
      exact bodyPost_ret (v := .agg #[.int .u64 (α : Int), .int .u64 (β : Int), .int .u64 (na : Int), .int .u64 (nb : Int), .bool odd]) (by simp only [Nat.add_zero] at e0 e1 e2 e3 e4; simp [results, Tryz.results120, go_sem, e0, e1, e2, e3, e4]) rfl ⟨α, β, na, nb, odd, rfl, GO.out, hF.below⟩
end Go.Proofs.YtbihgllfllkkaaaGreat

/- (num.steps).apply. -/
set_option linter.unusedVariables false
namespace Go.Proofs.YtbihgllfllkkaaaGreat
open Go.RowKit

def ApplyPost (A B : Nat) (W : World) (e : Ending) (w' : World) : Prop :=
  ∃ ao la ca bo lb cb, e = .returned (.tuple #[.slice ao la ca, .slice bo lb cb]) ∧ N32 w' ao la A ∧ N32 w' bo lb B ∧ Below W.heap.size W w'

set_option maxRecDepth 8000 in
set_option maxHeartbeats 4000000 in
theorem apply_odd (ao bo : Option Addr) (la lb ca cb A B α β γ δ A' B' : Nat) (W : World) (ha : N32 W ao la A) (hb : N32 W bo lb B) (hlA : la ≤ 1000000000) (hlB : lb ≤ 1000000000)
    (hα : α < 4294967296) (hβ : β < 4294967296) (hγ : γ < 4294967296) (hδ : δ < 4294967296) (h1 : β * B = α * A + A') (h2 : γ * A = δ * B + B') (h3 : A' ≤ A) (h4 : B' ≤ A) :
    Calls Tryz.prog 122 #[.agg #[.int .u64 (α : Int), .int .u64 (β : Int), .int .u64 (γ : Int), .int .u64 (δ : Int), .bool true], .slice ao la ca, .slice bo lb cb] W (ApplyPost A' B' W) := by
  have hf : Fr W (W.alloc (.cells #[.int .u64 (α : Int), .int .u64 (β : Int), .int .u64 (γ : Int), .int .u64 (δ : Int), .bool true] 129)) [(129, #[.int .u64 (α : Int), .int .u64 (β : Int), .int .u64 (γ : Int), .int .u64 (δ : Int), .bool true])] := (Fr.nil W).alloc rfl _ _
  have HF := Lib.hid hf
  have HA := Lib.hid (ha.keep hf.below)
  have HB := Lib.hid (hb.keep hf.below)
  have H1 := Lib.hid h1
  have H2 := Lib.hid h2
  clear ha hb h1 h2 hf
  go_enter Tryz.func122, Tryz.ntmps122
  go_wp2_with fail
  obtain ⟨W1, hW1⟩ : ∃ W1, W1 = W.alloc (.cells #[.int .u64 (α : Int), .int .u64 (β : Int), .int .u64 (γ : Int), .int .u64 (δ : Int), .bool true] 129) := ⟨_, rfl⟩
  rw [← hW1] at HF HA HB ⊢
  clear hW1
  have c0 : W1.cell? ⟨W.heap.size, 0, none⟩ = some (.int .u64 (α : Int)) := HF.out.cell 0 0 rfl rfl
  have c1 : W1.cell? ⟨W.heap.size, 1, none⟩ = some (.int .u64 (β : Int)) := HF.out.cell 0 1 rfl rfl
  have c2 : W1.cell? ⟨W.heap.size, 2, none⟩ = some (.int .u64 (γ : Int)) := HF.out.cell 0 2 rfl rfl
  have c3 : W1.cell? ⟨W.heap.size, 3, none⟩ = some (.int .u64 (δ : Int)) := HF.out.cell 0 3 rfl rfl
  have c4 : W1.cell? ⟨W.heap.size, 4, none⟩ = some (.bool true) := HF.out.cell 0 4 rfl rfl
  go_region_held3 (fun w' => w'.cell? ⟨W.heap.size, 0, none⟩ = some (.int .u64 (α : Int)) ∧ w'.cell? ⟨W.heap.size, 1, none⟩ = some (.int .u64 (β : Int)) ∧ w'.cell? ⟨W.heap.size, 2, none⟩ = some (.int .u64 (γ : Int)) ∧ w'.cell? ⟨W.heap.size, 3, none⟩ = some (.int .u64 (δ : Int)) ∧ w'.cell? ⟨W.heap.size, 4, none⟩ = some (.bool true)) (go_keep)
    (first | (go_at_call 139; refine (combine_any _ _ _ _ _ _ A γ B δ B' _ _ w1 (HA.out.keep HB1.out) (HB.out.keep HB1.out) hlA hlB rfl rfl hγ hδ H2.out (.inl h4)).mono ?_; rintro e w2 ⟨o2, l2, c2_, rfl, hr2, hb2⟩; have HB2 := Lib.hid hb2; have HR2 := Lib.hid hr2; have HR12 := Lib.hid (HR1.out.keep hb2); have HF2 := Lib.hid (HF1.out.later hb2); clear hr2 hb2; have d20 : w2.cell? ⟨W.heap.size, 0, none⟩ = some (.int .u64 (α : Int)) := HF2.out.cell 0 0 rfl rfl; have d21 : w2.cell? ⟨W.heap.size, 1, none⟩ = some (.int .u64 (β : Int)) := HF2.out.cell 0 1 rfl rfl; have d22 : w2.cell? ⟨W.heap.size, 2, none⟩ = some (.int .u64 (γ : Int)) := HF2.out.cell 0 2 rfl rfl; have d23 : w2.cell? ⟨W.heap.size, 3, none⟩ = some (.int .u64 (δ : Int)) := HF2.out.cell 0 3 rfl rfl; have d24 : w2.cell? ⟨W.heap.size, 4, none⟩ = some (.bool true) := HF2.out.cell 0 4 rfl rfl) | (go_at_call 139; refine (combine_any _ _ _ _ _ _ B β A α A' _ _ W1.drew (HB.out.keep (Below.refl _ _).drew) (HA.out.keep (Below.refl _ _).drew) hlB hlA rfl rfl hβ hα H1.out (.inr h3)).mono ?_; rintro e w1 ⟨o1, l1, c1_, rfl, hr1, hb1⟩; have HB1 := Lib.hid (below_of_drew hb1); have HR1 := Lib.hid hr1; have HF1 := Lib.hid (HF.out.later HB1.out); clear hr1 hb1; have d10 : w1.cell? ⟨W.heap.size, 0, none⟩ = some (.int .u64 (α : Int)) := HF1.out.cell 0 0 rfl rfl; have d11 : w1.cell? ⟨W.heap.size, 1, none⟩ = some (.int .u64 (β : Int)) := HF1.out.cell 0 1 rfl rfl; have d12 : w1.cell? ⟨W.heap.size, 2, none⟩ = some (.int .u64 (γ : Int)) := HF1.out.cell 0 2 rfl rfl; have d13 : w1.cell? ⟨W.heap.size, 3, none⟩ = some (.int .u64 (δ : Int)) := HF1.out.cell 0 3 rfl rfl; have d14 : w1.cell? ⟨W.heap.size, 4, none⟩ = some (.bool true) := HF1.out.cell 0 4 rfl rfl))
  go_wp2
  go_ret2
  exact ⟨o1, l1, c1_, o2, l2, c2_, rfl, HR12.out, HR2.out, HF2.out.below⟩

set_option maxRecDepth 8000 in
set_option maxHeartbeats 4000000 in
theorem apply_even (ao bo : Option Addr) (la lb ca cb A B α β γ δ A' B' : Nat) (W : World) (ha : N32 W ao la A) (hb : N32 W bo lb B) (hlA : la ≤ 1000000000) (hlB : lb ≤ 1000000000)
    (hα : α < 4294967296) (hβ : β < 4294967296) (hγ : γ < 4294967296) (hδ : δ < 4294967296) (h1 : α * A = β * B + A') (h2 : δ * B = γ * A + B') (h3 : A' ≤ A) (h4 : B' ≤ A) :
    Calls Tryz.prog 122 #[.agg #[.int .u64 (α : Int), .int .u64 (β : Int), .int .u64 (γ : Int), .int .u64 (δ : Int), .bool false], .slice ao la ca, .slice bo lb cb] W (ApplyPost A' B' W) := by
  have hf : Fr W (W.alloc (.cells #[.int .u64 (α : Int), .int .u64 (β : Int), .int .u64 (γ : Int), .int .u64 (δ : Int), .bool false] 129)) [(129, #[.int .u64 (α : Int), .int .u64 (β : Int), .int .u64 (γ : Int), .int .u64 (δ : Int), .bool false])] := (Fr.nil W).alloc rfl _ _
  have HF := Lib.hid hf
  have HA := Lib.hid (ha.keep hf.below)
  have HB := Lib.hid (hb.keep hf.below)
  have H1 := Lib.hid h1
  have H2 := Lib.hid h2
  clear ha hb h1 h2 hf
  go_enter Tryz.func122, Tryz.ntmps122
  go_wp2_with fail
  obtain ⟨W1, hW1⟩ : ∃ W1, W1 = W.alloc (.cells #[.int .u64 (α : Int), .int .u64 (β : Int), .int .u64 (γ : Int), .int .u64 (δ : Int), .bool false] 129) := ⟨_, rfl⟩
  rw [← hW1] at HF HA HB ⊢
  clear hW1
  have c0 : W1.cell? ⟨W.heap.size, 0, none⟩ = some (.int .u64 (α : Int)) := HF.out.cell 0 0 rfl rfl
  have c1 : W1.cell? ⟨W.heap.size, 1, none⟩ = some (.int .u64 (β : Int)) := HF.out.cell 0 1 rfl rfl
  have c2 : W1.cell? ⟨W.heap.size, 2, none⟩ = some (.int .u64 (γ : Int)) := HF.out.cell 0 2 rfl rfl
  have c3 : W1.cell? ⟨W.heap.size, 3, none⟩ = some (.int .u64 (δ : Int)) := HF.out.cell 0 3 rfl rfl
  have c4 : W1.cell? ⟨W.heap.size, 4, none⟩ = some (.bool false) := HF.out.cell 0 4 rfl rfl
  go_region_held3 (fun w' => w'.cell? ⟨W.heap.size, 0, none⟩ = some (.int .u64 (α : Int)) ∧ w'.cell? ⟨W.heap.size, 1, none⟩ = some (.int .u64 (β : Int)) ∧ w'.cell? ⟨W.heap.size, 2, none⟩ = some (.int .u64 (γ : Int)) ∧ w'.cell? ⟨W.heap.size, 3, none⟩ = some (.int .u64 (δ : Int)) ∧ w'.cell? ⟨W.heap.size, 4, none⟩ = some (.bool false)) (go_keep)
    (first | (go_at_call 139; refine (combine_any _ _ _ _ _ _ B δ A γ B' _ _ w1 (HB.out.keep HB1.out) (HA.out.keep HB1.out) hlB hlA rfl rfl hδ hγ H2.out (.inr h4)).mono ?_; rintro e w2 ⟨o2, l2, c2_, rfl, hr2, hb2⟩; have HB2 := Lib.hid hb2; have HR2 := Lib.hid hr2; have HR12 := Lib.hid (HR1.out.keep hb2); have HF2 := Lib.hid (HF1.out.later hb2); clear hr2 hb2; have d20 : w2.cell? ⟨W.heap.size, 0, none⟩ = some (.int .u64 (α : Int)) := HF2.out.cell 0 0 rfl rfl; have d21 : w2.cell? ⟨W.heap.size, 1, none⟩ = some (.int .u64 (β : Int)) := HF2.out.cell 0 1 rfl rfl; have d22 : w2.cell? ⟨W.heap.size, 2, none⟩ = some (.int .u64 (γ : Int)) := HF2.out.cell 0 2 rfl rfl; have d23 : w2.cell? ⟨W.heap.size, 3, none⟩ = some (.int .u64 (δ : Int)) := HF2.out.cell 0 3 rfl rfl; have d24 : w2.cell? ⟨W.heap.size, 4, none⟩ = some (.bool false) := HF2.out.cell 0 4 rfl rfl) | (go_at_call 139; refine (combine_any _ _ _ _ _ _ A α B β A' _ _ W1.drew (HA.out.keep (Below.refl _ _).drew) (HB.out.keep (Below.refl _ _).drew) hlA hlB rfl rfl hα hβ H1.out (.inl h3)).mono ?_; rintro e w1 ⟨o1, l1, c1_, rfl, hr1, hb1⟩; have HB1 := Lib.hid (below_of_drew hb1); have HR1 := Lib.hid hr1; have HF1 := Lib.hid (HF.out.later HB1.out); clear hr1 hb1; have d10 : w1.cell? ⟨W.heap.size, 0, none⟩ = some (.int .u64 (α : Int)) := HF1.out.cell 0 0 rfl rfl; have d11 : w1.cell? ⟨W.heap.size, 1, none⟩ = some (.int .u64 (β : Int)) := HF1.out.cell 0 1 rfl rfl; have d12 : w1.cell? ⟨W.heap.size, 2, none⟩ = some (.int .u64 (γ : Int)) := HF1.out.cell 0 2 rfl rfl; have d13 : w1.cell? ⟨W.heap.size, 3, none⟩ = some (.int .u64 (δ : Int)) := HF1.out.cell 0 3 rfl rfl; have d14 : w1.cell? ⟨W.heap.size, 4, none⟩ = some (.bool false) := HF1.out.cell 0 4 rfl rfl))
  go_wp2
  go_ret2
  exact ⟨o1, l1, c1_, o2, l2, c2_, rfl, HR12.out, HR2.out, HF2.out.below⟩

theorem apply_any (ao bo : Option Addr) (la lb ca cb A B α β γ δ A' B' : Nat) (odd : Bool) (W : World) (ha : N32 W ao la A) (hb : N32 W bo lb B) (hlA : la ≤ 1000000000) (hlB : lb ≤ 1000000000)
    (hα : α < 4294967296) (hβ : β < 4294967296) (hγ : γ < 4294967296) (hδ : δ < 4294967296) (h : Stepped A B α β γ δ odd A' B') (h3 : A' ≤ A) (h4 : B' ≤ A) :
    Calls Tryz.prog 122 #[.agg #[.int .u64 (α : Int), .int .u64 (β : Int), .int .u64 (γ : Int), .int .u64 (δ : Int), .bool odd], .slice ao la ca, .slice bo lb cb] W (ApplyPost A' B' W) := by
  cases odd with
  | true => exact apply_odd ao bo la lb ca cb A B α β γ δ A' B' W ha hb hlA hlB hα hβ hγ hδ (h.odd rfl).1 (h.odd rfl).2 h3 h4
  | false => exact apply_even ao bo la lb ca cb A B α β γ δ A' B' W ha hb hlA hlB hα hβ hγ hδ (h.even rfl).1 (h.even rfl).2 h3 h4
end Go.Proofs.YtbihgllfllkkaaaGreat

/- commonDivisor, for all numbers. -/
set_option linter.unusedVariables false
namespace Go.Proofs.YtbihgllfllkkaaaGreat
open Go.RowKit

theorem readNat_n {w : World} {ao : Option Addr} {len cap n : Nat} (h : N32 w ao len n) : readNat w (.slice ao len cap) = n := by
  obtain ⟨xs, hs, hd, ht, hv⟩ := h
  rw [readNat_of hs, hv]

theorem cmpN_neg {m n : Nat} : cmpN m n < 0 ↔ m < n := by
  unfold cmpN
  by_cases h : m < n
  · simp [h]
  · simp only [h, iff_false, if_false]
    split <;> omega

theorem blen_top {n low : Nat} (h : blen n = low + 64) : n / 2 ^ low < 18446744073709551616 := by
  have h1 := blen_lt n
  rw [h, Nat.pow_add] at h1
  rw [Nat.div_lt_iff_lt_mul (Nat.pow_pos (by decide)), Nat.mul_comm]
  exact h1

def GcdRel (L G : Nat) (W : World) (av bv : Value) (wr : World) : Prop :=
  ∃ (ao bo : Option Addr) (la lb ca cb A B : Nat), av = .slice ao la ca ∧ bv = .slice bo lb cb ∧ N32 wr ao la A ∧ N32 wr bo lb B ∧ B ≤ A ∧ A < B32 ^ L ∧ Nat.gcd A B = G ∧ Below W.heap.size W wr

set_option maxRecDepth 8000 in
set_option maxHeartbeats 4000000 in
theorem gcd_ok (m n : Nat) : GcdOk m n := by
  intro ao bo la lb ca cb W ha hb hla hlb
  obtain ⟨L, hLe⟩ : ∃ L, L = max la lb := ⟨_, rfl⟩
  have hL : L ≤ 1000000000 := by omega
  have hmL : m < B32 ^ L := Nat.lt_of_lt_of_le ha.lt (Nat.pow_le_pow_right B32_pos (by omega))
  have hnL : n < B32 ^ L := Nat.lt_of_lt_of_le hb.lt (Nat.pow_le_pow_right B32_pos (by omega))
  have HML := Lib.hid hmL
  have HNL := Lib.hid hnL
  have HA := Lib.hid ha
  have HB := Lib.hid hb
  obtain ⟨G, hG⟩ : ∃ G, G = Nat.gcd m n := ⟨_, rfl⟩
  have HG := Lib.hid hG
  rw [← hG]
  clear ha hb hmL hnL hLe hG
  go_enter Tryz.func72, Tryz.ntmps72
  go_wp2_with fail
  refine (duplicate_n _ _ _ m _ HA.out hla).mono ?_
  rintro e w1 ⟨ao1, ca1, rfl, ha1, hb1⟩
  have HA1 := Lib.hid ha1
  have HW1 := Lib.hid hb1
  clear ha1 hb1
  go_wp2_with fail
  refine (duplicate_n _ _ _ n _ (HB.out.keep HW1.out) hlb).mono ?_
  rintro e w2 ⟨bo2, cb2, rfl, hb2, hw2⟩
  have HA2 := Lib.hid (HA1.out.keep hw2)
  have HB2 := Lib.hid hb2
  have HW2 := Lib.hid (below_then HW1.out hw2)
  clear hb2 hw2
  go_wp2_with fail
  refine (compare_any _ _ _ _ _ _ m n _ HA2.out HB2.out hla hlb).mono ?_
  rintro e w3 ⟨rfl, hd3⟩
  have HA3 := Lib.hid (HA2.out.keep hd3.below)
  have HB3 := Lib.hid (HB2.out.keep hd3.below)
  have HW3 := Lib.hid (HW2.out.trans (hd3.below))
  clear hd3
  obtain ⟨cc, hcc⟩ : ∃ c, c = cmpN m n := ⟨_, rfl⟩
  rw [← hcc]
  have HC := Lib.hid hcc
  clear hcc
  go_upto_if 16 with fail
  go_cut [0, 1] from 13 to 18 (fun av bv wx => GcdRel L G W av bv wx)
  case first =>
    by_cases hmn : m < n
    · have t1 : cc < 0 := by rw [HC.out]; exact cmpN_neg.2 hmn
      go_wp2_with fail
      go_meet
      case rel => exact ⟨bo2, ao1, lb, la, cb2, ca1, n, m, rfl, rfl, HB3.out, HA3.out, by omega, HNL.out, by rw [HG.out, Nat.gcd_comm], HW3.out⟩
    · have t1 : ¬ cc < 0 := by rw [HC.out]; exact fun h => hmn (cmpN_neg.1 h)
      go_wp2_with fail
      go_meet
      case rel => exact ⟨ao1, bo2, la, lb, ca1, cb2, m, n, rfl, rfl, HA3.out, HB3.out, by omega, HML.out, HG.out.symm, HW3.out⟩
  case rest =>
    clear HA HB HA1 HA2 HB2 HW1 HW2 HA3 HB3 HW3 HC HG HML HNL
    go_wp2_with fail
    go_loopw [0, 1] (fun av bv wr => GcdRel L G W av bv wr) (fun av bv wr => readNat wr av + readNat wr bv)
    case atStart => exact hcut
    case round =>
      obtain ⟨ao, bo, la, lb, ca, cb, A, B, rfl, rfl, ha, hb, hBA, hAL, hG, hw⟩ := hrel
      have hla : la ≤ 1000000000 := Nat.le_trans (ha.len_le hAL) hL
      have hlb : lb ≤ 1000000000 := Nat.le_trans (hb.len_le (Nat.lt_of_le_of_lt hBA hAL)) hL
      have HA := Lib.hid ha
      have HB := Lib.hid hb
      have HAL := Lib.hid hAL
      have HG := Lib.hid hG
      have HW := Lib.hid hw
      clear ha hb hAL hG hw
      by_cases hl0 : lb = 0
      · have hB0 : B = 0 := HB.out.zero.2 hl0
        subst hl0
        have HR : Hid (G = A) := by show _ = _; rw [← HG.out, hB0, Nat.gcd_zero_right]
        clear hB0
        go_wp2
        go_ret
        exact ⟨ao, la, ca, rfl, by rw [HR.out]; exact HA.out, HW.out⟩
      · have b1 : (0 : Int) < (lb : Int) := by omega
        have b2 : ((lb : Int) == 0) = false := by simp; omega
        have hB0 : 0 < B := by
          rcases Nat.eq_zero_or_pos B with h | h
          · exact absurd (HB.out.zero.1 h) hl0
          · exact h
        by_cases h64 : blen A ≤ 64
        · have t1 : ¬ (64 : Int) < (blen A : Int) := by omega
          have hA64 : A < 18446744073709551616 := blen_le.1 h64
          have hla2 : la ≤ 2 := HA.out.len_le (small2 hA64)
          have hlb2 : lb ≤ 2 := HB.out.len_le (small2 (Nat.lt_of_le_of_lt hBA hA64))
          clear h64
          go_wp2_with fail
          refine (bitLength_any _ _ _ A _ HA.out hla).mono ?_
          rintro e w4 ⟨rfl, rfl⟩
          go_wp2_with fail
          refine (toWord_any _ _ _ A _ HA.out hla2).mono ?_
          rintro e w5 ⟨rfl, rfl⟩
          go_wp2_with fail
          refine (toWord_any _ _ _ B _ HB.out hlb2).mono ?_
          rintro e w6 ⟨rfl, rfl⟩
          go_wp2_with fail
          refine (commonWord_any _ _ A B _ rfl rfl hA64 (Nat.lt_of_le_of_lt hBA hA64)).mono ?_
          rintro e w7 ⟨rfl, hd7⟩
          go_wp2_with fail
          refine (fromWord_any _ (Nat.gcd A B) _ rfl (Nat.le_trans (Nat.gcd_le_right A hB0) (by omega))).mono ?_
          rintro e w8 ⟨ro, rl, rc, rfl, hr, hb8⟩
          go_wp2
          go_ret
          exact ⟨ro, rl, rc, rfl, by rw [← HG.out]; exact hr, below_then (HW.out.trans hd7.below) hb8⟩
        · obtain ⟨low, hlow⟩ : ∃ low, blen A = low + 64 := ⟨blen A - 64, by omega⟩
          have t1 : (64 : Int) < (blen A : Int) := by omega
          have t2 : (blen A : Int) - 64 = (low : Int) := by omega
          have hlw : low ≤ 100000000000 := by
            have h1 := HA.out.lt
            have h2 : blen A ≤ 32 * la := by
              refine blen_le.2 ?_
              have : B32 ^ la = 2 ^ (32 * la) := by rw [Nat.pow_mul]; rfl
              rwa [← this]
            omega
          have hbA : blen A ≤ 100000000064 := by omega
          have hAt := blen_top hlow
          have hBt : B / 2 ^ low ≤ A / 2 ^ low := Nat.div_le_div_right hBA
          have HAT := Lib.hid hAt
          have HBT := Lib.hid hBt
          clear hlow h64 hAt hBt
          go_wp2_with fail
          refine (bitLength_any _ _ _ A _ HA.out hla).mono ?_
          rintro e w4 ⟨rfl, rfl⟩
          go_wp2_with fail
          refine (bitLength_any _ _ _ A _ HA.out hla).mono ?_
          rintro e w5 ⟨rfl, rfl⟩
          go_wp2_with fail
          refine (window_any _ _ _ A low _ _ HA.out (by first | exact t2 | rfl) hla hlw).mono ?_
          rintro e w6 ⟨rfl, hd6⟩
          rw [Nat.mod_eq_of_lt HAT.out]
          have HA6 := Lib.hid (HA.out.keep hd6.below)
          have HB6 := Lib.hid (HB.out.keep hd6.below)
          have HW6 := Lib.hid (HW.out.trans hd6.below)
          clear hd6
          go_wp2_with fail
          refine (window_any _ _ _ B low _ _ HB6.out (by first | exact t2 | rfl) hlb hlw).mono ?_
          rintro e w7 ⟨rfl, hd7⟩
          rw [Nat.mod_eq_of_lt (Nat.lt_of_le_of_lt HBT.out HAT.out)]
          have HA7 := Lib.hid (HA6.out.keep hd7.below)
          have HB7 := Lib.hid (HB6.out.keep hd7.below)
          have HW7 := Lib.hid (HW6.out.trans hd7.below)
          clear hd7
          go_wp2_with fail
          refine (foresee_any (A / 2 ^ low) (B / 2 ^ low) _ _ _ rfl rfl HAT.out HBT.out).mono ?_
          rintro e w8 ⟨α, β, γ, δ, odd, rfl, hfo, hb8⟩
          have HA8 := Lib.hid (HA7.out.keep hb8)
          have HB8 := Lib.hid (HB7.out.keep hb8)
          have HW8 := Lib.hid (below_then HW7.out hb8)
          have HFO := Lib.hid hfo
          clear hb8 hfo
          have HKA := Lib.hid (readNat_n (cap := ca) HA.out)
          have HKB := Lib.hid (readNat_n (cap := cb) HB.out)
          have HA9 := Lib.hid (HA8.out.keep (box_below w8 129 #[.int .u64 (α : Int), .int .u64 (β : Int), .int .u64 (γ : Int), .int .u64 (δ : Int), .bool odd]))
          have HB9 := Lib.hid (HB8.out.keep (box_below w8 129 #[.int .u64 (α : Int), .int .u64 (β : Int), .int .u64 (γ : Int), .int .u64 (δ : Int), .bool odd]))
          have HW9 := Lib.hid (below_then HW8.out (box_below w8 129 #[.int .u64 (α : Int), .int .u64 (β : Int), .int .u64 (γ : Int), .int .u64 (δ : Int), .bool odd]))
          clear HA6 HB6 HW6 HA7 HB7 HW7 HA8 HB8 HW8
          by_cases hβ : β = 0
          · subst hβ
            go_wp2_with fail
            refine (divide_ok A B hB0 _ _ _ _ _ _ _ HA9.out HB9.out hla hlb).mono ?_
            rintro e w9 ⟨qo, ql, qc, ro, rl, rc, rfl, hq9, hr9, hb9⟩
            have HR10 := Lib.hid hr9
            have HB10 := Lib.hid (HB9.out.keep hb9)
            have HW10 := Lib.hid (below_then HW9.out hb9)
            clear hq9 hr9 hb9
            go_wp2_with fail
            go_roundw
            case rel => exact ⟨bo, ro, lb, rl, cb, rc, B, A % B, rfl, rfl, HB10.out, HR10.out, Nat.le_of_lt (Nat.mod_lt _ hB0), Nat.lt_of_le_of_lt hBA HAL.out, by rw [← HG.out, Nat.gcd_comm A B, Nat.gcd_rec B A, Nat.gcd_comm], HW10.out⟩
            case measure => rw [readNat_n HB10.out, readNat_n HR10.out, HKA.out, HKB.out]; have := Nat.mod_lt A hB0; omega
          · have hβ0 : ((β : Int) == 0) = false := by simp; omega
            have hfo := HFO.out.resolve_left hβ
            obtain ⟨A', B', hst⟩ := Fore.stepped (Nat.pow_pos (n := low) (show 0 < 2 by decide)) hfo
            obtain ⟨_, _, _, _, _, _, k1, k2, k3, k4, k5, k6, _⟩ := hfo
            have hle := hst.le (by omega) k5 k2
            have HST := Lib.hid hst
            clear hst hβ
            go_wp2_with fail
            refine (apply_any _ _ _ _ _ _ A B α β γ δ A' B' odd _ HA9.out HB9.out hla hlb (by omega) (by omega) (by omega) k6 HST.out hle.1 hle.2.1).mono ?_
            rintro e w9 ⟨ao9, la9, ca9, bo9, lb9, cb9, rfl, ha9, hb9, hbel9⟩
            have HA10 := Lib.hid ha9
            have HB10 := Lib.hid hb9
            have HW10 := Lib.hid (below_then HW9.out hbel9)
            clear ha9 hb9 hbel9
            go_wp2_with fail
            go_roundw
            case rel => exact ⟨ao9, bo9, la9, lb9, ca9, cb9, A', B', rfl, rfl, HA10.out, HB10.out, Nat.le_of_lt HST.out.lt, Nat.lt_of_le_of_lt hle.1 HAL.out, HST.out.gcd.trans HG.out, HW10.out⟩
            case measure => rw [readNat_n HA10.out, readNat_n HB10.out, HKA.out, HKB.out]; omega
end Go.Proofs.YtbihgllfllkkaaaGreat

/- The specification's Text; the laws' helpers is, awake. -/
set_option linter.unusedVariables false
namespace Go.Proofs.YtbihgllfllkkaaaGreat
open Go.RowKit

set_option maxHeartbeats 800000 in
theorem text16_any (neg : Bool) (ao : Option Addr) (len cap : Nat) (z : Int) (W : World) (h : Z16 W neg ao len z) (hl : len ≤ 1000000000) :
    Calls Tryz.prog 61 #[.agg #[.bool neg, .slice ao len cap]] W (StrPost (numeralZ z) W) := by
  obtain ⟨n, hn, rfl, hp⟩ := h
  have HN := Lib.hid (hn.keep (box_below W 27 #[.bool neg, .slice ao len cap]))
  have HP := Lib.hid hp
  have hnl2 : ¬ 9223372036854775807 < 1 + (numeral n).length := by
    have h1 := hn.lt
    have h2 : n < B32 ^ len := Nat.lt_of_lt_of_le h1 (Nat.pow_le_pow_left (by decide) _)
    have := numeral_len h2
    omega
  clear hn hp
  cases neg with
  | true =>
    have HE := Lib.hid (numeralZ_neg (HP.out rfl))
    rw [HE.out]
    go_enter Tryz.func61, Tryz.ntmps61
    go_wp2_with fail
    refine (text_any _ _ _ n _ HN.out hl).mono ?_
    rintro e w1 ⟨rfl, hb⟩
    have HB := Lib.hid hb
    clear hb
    go_wp2
    go_ret
    refine ⟨?_, below_then (box_below _ _ _) HB.out⟩
    have := bytes_append [45] (numeral n)
    exact congrArg (fun x => Ending.returned (Value.string x)) this
  | false =>
    have HE := Lib.hid (numeralZ_pos n)
    rw [HE.out]
    go_enter Tryz.func61, Tryz.ntmps61
    go_wp2_with fail
    refine (text_any _ _ _ n _ HN.out hl).mono ?_
    rintro e w1 ⟨rfl, hb⟩
    have HB := Lib.hid hb
    clear hb
    go_wp2
    go_ret
    exact ⟨rfl, below_then (box_below _ _ _) HB.out⟩

set_option maxHeartbeats 1000000 in
theorem is_any (na nb : Bool) (ao bo : Option Addr) (la lb ca cb : Nat) (z : Int) (W : World) (ha : Z32 W na ao la z) (hb : Z16 W nb bo lb z) (hla : la ≤ 1000000000) (hlb : lb ≤ 1000000000) :
    Calls Tryz.prog 20 #[.agg #[.bool na, .slice ao la ca], .agg #[.bool nb, .slice bo lb cb]] W (fun e w' => e = .returned (.bool true) ∧ Below W.heap.size W w') := by
  have hf : Fr W ((W.alloc (.cells #[.bool na, .slice ao la ca] 31)).alloc (.cells #[.bool nb, .slice bo lb cb] 27))
      [(31, #[.bool na, .slice ao la ca]), (27, #[.bool nb, .slice bo lb cb])] := ((Fr.nil W).alloc rfl _ _).alloc (by simp) _ _
  have HA := Lib.hid ha
  have HB := Lib.hid hb
  clear ha hb
  go_enter Tryz.func20, Tryz.ntmps20
  go_wp2_with fail
  obtain ⟨W3, hW3⟩ : ∃ W3, W3 = (W.alloc (.cells #[.bool na, .slice ao la ca] 31)).alloc (.cells #[.bool nb, .slice bo lb cb] 27) := ⟨_, rfl⟩
  rw [← hW3] at hf ⊢
  clear hW3
  have HF := Lib.hid hf
  clear hf
  have c0 : W3.cell? ⟨W.heap.size, 0, none⟩ = some (.bool na) := HF.out.cell 0 0 rfl rfl
  have c1 : W3.cell? ⟨W.heap.size, 1, none⟩ = some (.slice ao la ca) := HF.out.cell 0 1 rfl rfl
  have c2 : W3.cell? ⟨W.heap.size + 1, 0, none⟩ = some (.bool nb) := HF.out.cell 1 0 rfl rfl
  have c3 : W3.cell? ⟨W.heap.size + 1, 1, none⟩ = some (.slice bo lb cb) := HF.out.cell 1 1 rfl rfl
  go_region_held3 (fun w' => w'.cell? ⟨W.heap.size, 0, none⟩ = some (.bool na) ∧ w'.cell? ⟨W.heap.size, 1, none⟩ = some (.slice ao la ca) ∧ w'.cell? ⟨W.heap.size + 1, 0, none⟩ = some (.bool nb) ∧ w'.cell? ⟨W.heap.size + 1, 1, none⟩ = some (.slice bo lb cb)) (go_keep)
    (first | (go_at_call 52; refine (string_any _ _ _ _ z W3.drew (HA.out.keep HF.out.below.drew) hla).mono ?_; rintro e w1 ⟨rfl, hb1⟩; have HF1 := Lib.hid (HF.out.later (below_of_drew hb1)); clear hb1; have d0 : w1.cell? ⟨W.heap.size, 0, none⟩ = some (.bool na) := HF1.out.cell 0 0 rfl rfl; have d1 : w1.cell? ⟨W.heap.size, 1, none⟩ = some (.slice ao la ca) := HF1.out.cell 0 1 rfl rfl; have d2 : w1.cell? ⟨W.heap.size + 1, 0, none⟩ = some (.bool nb) := HF1.out.cell 1 0 rfl rfl; have d3 : w1.cell? ⟨W.heap.size + 1, 1, none⟩ = some (.slice bo lb cb) := HF1.out.cell 1 1 rfl rfl) | (go_at_call 61; refine (text16_any _ _ _ _ z _ (HB.out.keep HF1.out.below) hlb).mono ?_; rintro e w2 ⟨rfl, hb2⟩; have HF2 := Lib.hid (HF1.out.later hb2); clear hb2; have f0 : w2.cell? ⟨W.heap.size, 0, none⟩ = some (.bool na) := HF2.out.cell 0 0 rfl rfl; have f1 : w2.cell? ⟨W.heap.size, 1, none⟩ = some (.slice ao la ca) := HF2.out.cell 0 1 rfl rfl; have f2 : w2.cell? ⟨W.heap.size + 1, 0, none⟩ = some (.bool nb) := HF2.out.cell 1 0 rfl rfl; have f3 : w2.cell? ⟨W.heap.size + 1, 1, none⟩ = some (.slice bo lb cb) := HF2.out.cell 1 1 rfl rfl))
  go_wp2
  go_ret
  refine ⟨ret_bool ?_, HF2.out.below⟩
  simp

/-- the program computes a few plain results -/
def AwakePost (W : World) (e : Ending) (w' : World) : Prop := e = .returned (.bool true) ∧ Below W.heap.size W w'

theorem text_m4 : numeralZ (-7 / 2) = [45, 52] := by decide +kernel
theorem text_1 : numeralZ (-7 % 2) = [49] := by decide +kernel
theorem text_72 : textQ (lowP (-7) 2) (lowQ (-7) 2) = [45, 55, 47, 50] := by decide +kernel
theorem text_350 : decText (lowP (-7) 2) (lowQ (-7) 2) 2 = [45, 51, 46, 53, 48] := by decide +kernel
theorem low_7 : lowQ (-7) 2 = 2 := by decide +kernel
theorem low_7p : ((lowP (-7) 2).natAbs * 10 ^ 2) = 700 := by decide +kernel
theorem gcd_72 : Nat.gcd (Int.natAbs (-7)) (Int.natAbs 2) = 1 := by decide +kernel
theorem near_7 : (numeral (nearest 700 2)).length = 3 := by decide +kernel

set_option maxHeartbeats 2000000 in
theorem awake_any (W : World) : Calls Tryz.prog 16 #[] W (AwakePost W) := by
  go_enter Tryz.func16, Tryz.ntmps16
  go_wp2_with fail
  refine (new_any (-7) _ (by omega) (by omega)).mono ?_
  rintro e w1 ⟨s1, o1, l1, c1, rfl, hz1, hb1⟩
  have HB1 := Lib.hid hb1
  have HZ1 := Lib.hid hz1
  clear hb1 hz1
  go_wp2_with fail
  refine (new_any 2 _ (by omega) (by omega)).mono ?_
  rintro e w2 ⟨s2, o2, l2, c2, rfl, hz2, hb2⟩
  have HB2 := Lib.hid (below_then HB1.out hb2)
  have HX := Lib.hid (HZ1.out.keep hb2)
  have HY := Lib.hid hz2
  have hlx : l1 ≤ 1 := HX.out.n32.len_le (by decide)
  have hly : l2 ≤ 1 := HY.out.n32.len_le (by decide)
  clear hb2 hz2
  have hfa : Fr w2 ((w2.alloc (.cells #[.bool s1, .slice o1 l1 c1] 31)).alloc (.cells #[.bool s2, .slice o2 l2 c2] 31))
      [(31, #[.bool s1, .slice o1 l1 c1]), (31, #[.bool s2, .slice o2 l2 c2])] := ((Fr.nil w2).alloc rfl _ _).alloc (by simp) _ _
  have HFA := Lib.hid hfa
  clear hfa
  go_wp2_with fail
  refine (div_any _ _ _ _ _ _ _ _ (-7) 2 _ (HX.out.keep HFA.out.below) (HY.out.keep HFA.out.below) (by omega) (by omega) (by decide) (divide_easy _ _ (by decide) (by decide))).mono ?_
  rintro e w3 ⟨s3, o3, l3, c3, s4, o4, l4, c4, rfl, hq, hr, hb3⟩
  have HF3 := Lib.hid (HFA.out.later hb3)
  have HX3 := Lib.hid ((HX.out.keep HFA.out.below).keep hb3)
  have HY3 := Lib.hid ((HY.out.keep HFA.out.below).keep hb3)
  have HQ := Lib.hid hq
  have HR := Lib.hid hr
  clear hq hr hb3 HX HY HFA
  have hfq : Fr w3 ((w3.alloc (.cells #[.bool s3, .slice o3 l3 c3] 31)).alloc (.cells #[.bool s4, .slice o4 l4 c4] 31))
      [(31, #[.bool s3, .slice o3 l3 c3]), (31, #[.bool s4, .slice o4 l4 c4])] := ((Fr.nil w3).alloc rfl _ _).alloc (by simp) _ _
  have HFQ := Lib.hid hfq
  have HFA := Lib.hid (HF3.out.later hfq.below)
  clear hfq HF3
  have a0 : ((w3.alloc (.cells #[.bool s3, .slice o3 l3 c3] 31)).alloc (.cells #[.bool s4, .slice o4 l4 c4] 31)).cell? ⟨w2.heap.size, 0, none⟩ = some (.bool s1) := HFA.out.cell 0 0 rfl rfl
  have a1 : ((w3.alloc (.cells #[.bool s3, .slice o3 l3 c3] 31)).alloc (.cells #[.bool s4, .slice o4 l4 c4] 31)).cell? ⟨w2.heap.size, 1, none⟩ = some (.slice o1 l1 c1) := HFA.out.cell 0 1 rfl rfl
  have a2 : ((w3.alloc (.cells #[.bool s3, .slice o3 l3 c3] 31)).alloc (.cells #[.bool s4, .slice o4 l4 c4] 31)).cell? ⟨w2.heap.size + 1, 0, none⟩ = some (.bool s2) := HFA.out.cell 1 0 rfl rfl
  have a3 : ((w3.alloc (.cells #[.bool s3, .slice o3 l3 c3] 31)).alloc (.cells #[.bool s4, .slice o4 l4 c4] 31)).cell? ⟨w2.heap.size + 1, 1, none⟩ = some (.slice o2 l2 c2) := HFA.out.cell 1 1 rfl rfl
  go_wp2_with fail
  refine (newRat_any _ _ _ _ _ _ _ _ (-7) 2 _ (HX3.out.keep HFQ.out.below) (HY3.out.keep HFQ.out.below) (by omega) (by omega) (by decide) (gcd_easy _ _ (by decide) (by decide))
    (by rw [gcd_72]; exact divide_easy _ _ (by decide) (by decide)) (by rw [gcd_72]; exact divide_easy _ _ (by decide) (by decide))).mono ?_
  rintro e w4 ⟨s5, o5, l5, c5, o6, l6, c6, rfl, hf, hb4⟩
  have HFQ4 := Lib.hid (HFQ.out.later hb4)
  have HFA4 := Lib.hid (HFA.out.later hb4)
  have HQ4 := Lib.hid ((HQ.out.keep HFQ.out.below).keep hb4)
  have HR4 := Lib.hid ((HR.out.keep HFQ.out.below).keep hb4)
  have HF := Lib.hid hf
  clear hf hb4 HX3 HY3 HFQ HFA HQ HR a0 a1 a2 a3
  have hff : Fr w4 (w4.alloc (.cells #[.bool s5, .slice o5 l5 c5, .slice o6 l6 c6] 35)) [(35, #[.bool s5, .slice o5 l5 c5, .slice o6 l6 c6])] := (Fr.nil w4).alloc rfl _ _
  have HFF := Lib.hid hff
  clear hff
  have hl5 : l5 ≤ 1 := HF.out.1.n32.len_le (by decide +kernel)
  have hl6 : l6 ≤ 1 := by
    rcases HF.out.2 with h | h
    · omega
    · exact h.1.len_le (by decide +kernel)
  go_wp2_with fail
  have hdo : DivOk ((lowP (-7) 2).natAbs * 10 ^ 2) (lowQ (-7) 2) := by rw [low_7p, low_7]; exact divide_easy _ _ (by decide) (by decide)
  refine (decimal_any _ _ _ _ _ _ _ (lowP (-7) 2) (lowQ (-7) 2) 2 2 _ (HF.out.keep HFF.out.below) (by omega) (by omega) (by rw [low_7]; decide) rfl (by decide) hdo (.inr (by rw [low_7p, low_7, near_7]; decide))).mono ?_
  rintro e w5 ⟨rfl, hb5⟩
  rw [text_350]
  have HFF5 := Lib.hid (HFF.out.later hb5)
  have HFQ5 := Lib.hid ((HFQ4.out.later HFF.out.below).later hb5)
  have HFA5 := Lib.hid ((HFA4.out.later HFF.out.below).later hb5)
  have HQ5 := Lib.hid ((HQ4.out.keep HFF.out.below).keep hb5)
  have HR5 := Lib.hid ((HR4.out.keep HFF.out.below).keep hb5)
  have HG5 := Lib.hid ((HF.out.keep HFF.out.below).keep hb5)
  clear hb5 HFF HFQ4 HFA4 HQ4 HR4 HF hdo
  have b0 : w5.cell? ⟨w3.heap.size, 0, none⟩ = some (.bool s3) := HFQ5.out.cell 0 0 rfl rfl
  have b1 : w5.cell? ⟨w3.heap.size, 1, none⟩ = some (.slice o3 l3 c3) := HFQ5.out.cell 0 1 rfl rfl
  have b2 : w5.cell? ⟨w3.heap.size + 1, 0, none⟩ = some (.bool s4) := HFQ5.out.cell 1 0 rfl rfl
  have b3 : w5.cell? ⟨w3.heap.size + 1, 1, none⟩ = some (.slice o4 l4 c4) := HFQ5.out.cell 1 1 rfl rfl
  have b4 : w5.cell? ⟨w4.heap.size, 0, none⟩ = some (.bool s5) := HFF5.out.cell 0 0 rfl rfl
  have b5 : w5.cell? ⟨w4.heap.size, 1, none⟩ = some (.slice o5 l5 c5) := HFF5.out.cell 0 1 rfl rfl
  have b6 : w5.cell? ⟨w4.heap.size, 2, none⟩ = some (.slice o6 l6 c6) := HFF5.out.cell 0 2 rfl rfl
  have hl3 : l3 ≤ 1 := HQ5.out.n32.len_le (by decide +kernel)
  have hl4 : l4 ≤ 1 := HR5.out.n32.len_le (by decide +kernel)
  go_wp2_with fail
  refine (string_any _ _ _ _ (-7 / 2) _ HQ5.out (by omega)).mono ?_
  rintro e w6 ⟨rfl, hb6⟩
  rw [text_m4]
  have HFF6 := Lib.hid (HFF5.out.later hb6)
  have HFQ6 := Lib.hid (HFQ5.out.later hb6)
  have HFA6 := Lib.hid (HFA5.out.later hb6)
  have HR6 := Lib.hid (HR5.out.keep hb6)
  have HG6 := Lib.hid (HG5.out.keep hb6)
  clear hb6 b0 b1 b2 b3 b4 b5 b6 HFF5 HFQ5 HFA5 HQ5 HR5 HG5
  have b2 : w6.cell? ⟨w3.heap.size + 1, 0, none⟩ = some (.bool s4) := HFQ6.out.cell 1 0 rfl rfl
  have b3 : w6.cell? ⟨w3.heap.size + 1, 1, none⟩ = some (.slice o4 l4 c4) := HFQ6.out.cell 1 1 rfl rfl
  go_wp2_with fail
  refine (string_any _ _ _ _ (-7 % 2) _ HR6.out (by omega)).mono ?_
  rintro e w7 ⟨rfl, hb7⟩
  rw [text_1]
  have HFF7 := Lib.hid (HFF6.out.later hb7)
  have HFA7 := Lib.hid (HFA6.out.later hb7)
  have HG7 := Lib.hid (HG6.out.keep hb7)
  clear hb7 b2 b3 HFF6 HFQ6 HFA6 HR6 HG6
  have b4 : w7.cell? ⟨w4.heap.size, 0, none⟩ = some (.bool s5) := HFF7.out.cell 0 0 rfl rfl
  have b5 : w7.cell? ⟨w4.heap.size, 1, none⟩ = some (.slice o5 l5 c5) := HFF7.out.cell 0 1 rfl rfl
  have b6 : w7.cell? ⟨w4.heap.size, 2, none⟩ = some (.slice o6 l6 c6) := HFF7.out.cell 0 2 rfl rfl
  go_wp2_with fail
  refine (ratString_any _ _ _ _ _ _ _ _ _ _ HG7.out (by omega) (by omega)).mono ?_
  rintro e w8 ⟨rfl, hb8⟩
  rw [text_72]
  have HB8 := Lib.hid (below_then HB2.out (HFA7.out.below.trans (hb8.mono HFA7.out.below.size)))
  clear hb8 b4 b5 b6 HFF7 HFA7 HG7
  go_wp2_with fail
  go_ret
  exact ⟨rfl, HB8.out⟩

end Go.Proofs.YtbihgllfllkkaaaGreat

/- Sub, Cmp. -/
set_option linter.unusedVariables false
namespace Go.Proofs.YtbihgllfllkkaaaGreat
open Go.RowKit

/-- the same with one shape of the ending -/
def OutF1 (W : World) (z : Int) (e : Ending) (w' : World) : Prop :=
  ∃ neg ao len cap er z', e = .returned (.tuple #[.agg #[.bool neg, .slice ao len cap], .int .i64 er]) ∧ Z32 w' neg ao len z' ∧ Below W.heap.size W w' ∧
    ((Fits z ∧ er = 0 ∧ z' = z) ∨ (¬ Fits z ∧ er = 3 ∧ neg = false ∧ ao = none ∧ len = 0 ∧ cap = 0))

theorem OutF.one {W w' : World} {z : Int} {e : Ending} (h : OutF W z e w') : OutF1 W z e w' := by
  rcases h with ⟨h, neg, ao, len, cap, rfl, hz, hb⟩ | ⟨h, rfl, hb⟩
  · exact ⟨neg, ao, len, cap, 0, z, rfl, hz, hb, .inl ⟨h, rfl, rfl⟩⟩
  · exact ⟨false, none, 0, 0, 3, 0, rfl, Z32.nil _, hb, .inr ⟨h, rfl, rfl, rfl, rfl, rfl⟩⟩

theorem OutF1.two {W w' : World} {z : Int} {e : Ending} (h : OutF1 W z e w') : OutF W z e w' := by
  obtain ⟨neg, ao, len, cap, er, z', rfl, hz, hb, ⟨h, rfl, rfl⟩ | ⟨h, rfl, rfl, rfl, rfl, rfl⟩⟩ := h
  · exact .inl ⟨h, neg, ao, len, cap, rfl, hz, hb⟩
  · exact .inr ⟨h, rfl, hb⟩

theorem cmpN_sub (m n : Nat) : cmpN m n = ((m : Int) - (n : Int)).sign := by
  rcases Nat.lt_trichotomy m n with h | h | h
  · rw [cmpN_lt h, Int.sign_eq_neg_one_of_neg (by omega)]
  · rw [cmpN_eq h, h]; simp
  · rw [cmpN_gt h, Int.sign_eq_one_of_pos (by omega)]

set_option maxHeartbeats 1000000 in
theorem cmpI_any (na nb : Bool) (ao bo : Option Addr) (la lb ca cb : Nat) (x y : Int) (W : World) (ha : Z32 W na ao la x) (hb : Z32 W nb bo lb y) (hla : la ≤ 1000000000) (hlb : lb ≤ 1000000000) :
    Calls Tryz.prog 79 #[.agg #[.bool na, .slice ao la ca], .agg #[.bool nb, .slice bo lb cb]] W (fun e w' => e = .returned (.int .i64 (x - y).sign) ∧ Below W.heap.size W w') := by
  have hf : Fr W ((W.alloc (.cells #[.bool na, .slice ao la ca] 31)).alloc (.cells #[.bool nb, .slice bo lb cb] 31))
      [(31, #[.bool na, .slice ao la ca]), (31, #[.bool nb, .slice bo lb cb])] := ((Fr.nil W).alloc rfl _ _).alloc (by simp) _ _
  obtain ⟨m, hm, rfl, hpm⟩ := ha
  obtain ⟨n, hn, rfl, hpn⟩ := hb
  have HM := Lib.hid (hm.keep hf.below)
  have HN := Lib.hid (hn.keep hf.below)
  have HF := Lib.hid hf
  have HPM := Lib.hid hpm
  have HPN := Lib.hid hpn
  clear hm hn hf hpm hpn
  cases na <;> cases nb
  · have HE : Hid ((sgn false m - sgn false n).sign = cmpN m n) := by show _ = _; rw [cmpN_sub]; congr 1 <;> (simp [sgn]; omega)
    rw [HE.out]
    go_enter Tryz.func79, Tryz.ntmps79
    go_wp2_with fail
    refine (compare_any _ _ _ _ _ _ m n _ HM.out HN.out hla hlb).mono ?_
    rintro e w1 ⟨rfl, hd⟩
    have HF1 := Lib.hid (HF.out.later hd.below)
    clear hd
    go_wp2
    go_ret
    exact ⟨rfl, HF1.out.below⟩
  · have HE : Hid ((sgn false m - sgn true n).sign = 1) := by show _ = _; have := HPN.out rfl; rw [Int.sign_eq_one_of_pos]; simp [sgn]; omega
    rw [HE.out]
    go_enter Tryz.func79, Tryz.ntmps79
    go_wp2
    go_ret
    exact ⟨rfl, HF.out.below⟩
  · have HE : Hid ((sgn true m - sgn false n).sign = -1) := by show _ = _; have := HPM.out rfl; rw [Int.sign_eq_neg_one_of_neg]; simp [sgn]; omega
    rw [HE.out]
    go_enter Tryz.func79, Tryz.ntmps79
    go_wp2
    go_ret
    exact ⟨rfl, HF.out.below⟩
  · have HE : Hid ((sgn true m - sgn true n).sign = cmpN n m) := by show _ = _; rw [cmpN_sub]; congr 1 <;> (simp [sgn]; omega)
    rw [HE.out]
    go_enter Tryz.func79, Tryz.ntmps79
    go_wp2_with fail
    refine (compare_any _ _ _ _ _ _ n m _ HN.out HM.out hlb hla).mono ?_
    rintro e w1 ⟨rfl, hd⟩
    have HF1 := Lib.hid (HF.out.later hd.below)
    clear hd
    go_wp2
    go_ret
    exact ⟨rfl, HF1.out.below⟩
end Go.Proofs.YtbihgllfllkkaaaGreat

/- Texts: hasDigits, isPositive, isNumeral. -/
set_option linter.unusedVariables false
namespace Go.Proofs.YtbihgllfllkkaaaGreat
open Go.RowKit Go.Proofs

def isDig (c : UInt8) : Bool := decide (48 ≤ c.toNat) && decide (c.toNat ≤ 57)
def hasDigs (xs : List UInt8) : Bool := xs.all isDig && decide (xs ≠ [])

theorem all_take_succ {xs : List UInt8} {i : Nat} (hi : i < xs.length) (h : (xs.take i).all isDig = true) (hd : isDig xs[i] = true) : (xs.take (i + 1)).all isDig = true := by
  rw [List.take_succ_eq_append_getElem hi, List.all_append, h]
  simp [hd]

theorem hasDigs_false {xs : List UInt8} {i : Nat} (hi : i < xs.length) (hd : isDig xs[i] = false) : hasDigs xs = false := by
  unfold hasDigs
  rw [Bool.and_eq_false_iff]
  left
  rw [List.all_eq_false]
  exact ⟨xs[i], List.getElem_mem hi, by simp [hd]⟩

theorem str_size (xs : List UInt8) : (⟨xs.toArray⟩ : ByteArray).size = xs.length := by simp [ByteArray.size]
theorem str_get (xs : List UInt8) (i : Nat) (hi : i < xs.length) (h : i < (⟨xs.toArray⟩ : ByteArray).size) : (⟨xs.toArray⟩ : ByteArray)[i]'h = xs[i] := rfl

set_option maxHeartbeats 400000 in
theorem hasDigits_any (xs : List UInt8) (w : World) (hl : xs.length ≤ 1000000000) :
    Calls Tryz.prog 84 #[.string ⟨xs.toArray⟩] w fun e w' => e = .returned (.bool (hasDigs xs)) ∧ w = w' := by
  go_enter Tryz.func84, Tryz.ntmps84
  go_wp2
  go_loop [3] (fun t => ∃ i : Nat, i ≤ xs.length ∧ t = .int .i64 i ∧ (xs.take i).all isDig = true) (fun t => xs.length - (intOf t).toNat)
  case atStart => exact ⟨0, by omega, rfl, by simp⟩
  case round =>
    obtain ⟨i, hi, rfl, hall⟩ := hrel
    have HA := Lib.hid hall
    clear hall
    by_cases hil : i < xs.length
    · have t1 : (i : Int) < (xs.length : Int) := by omega
      have hs : i < (⟨xs.toArray⟩ : ByteArray).size := by rw [str_size]; exact hil
      obtain ⟨c, hc⟩ : ∃ c : Nat, c = xs[i].toNat := ⟨_, rfl⟩
      have hc2 : ((⟨xs.toArray⟩ : ByteArray)[i]'hs).toNat = c := hc.symm
      have HC := Lib.hid hc
      clear hc
      by_cases h1 : c < 48
      · have t2 : ¬ (48 : Int) ≤ ((((⟨xs.toArray⟩ : ByteArray)[i]'hs).toNat : Nat) : Int) := by rw [hc2]; omega
        have HX : Hid (hasDigs xs = false) := hasDigs_false hil (by unfold isDig; rw [← HC.out]; simp; omega)
        clear hc2
        go_wp2
        go_ret
        exact ⟨ret_bool HX.out.symm, rfl⟩
      · have t2 : (48 : Int) ≤ ((((⟨xs.toArray⟩ : ByteArray)[i]'hs).toNat : Nat) : Int) := by rw [hc2]; omega
        by_cases h2 : c ≤ 57
        · have t3 : ((((⟨xs.toArray⟩ : ByteArray)[i]'hs).toNat : Nat) : Int) ≤ 57 := by rw [hc2]; omega
          have HX : Hid (isDig xs[i] = true) := by show _ = _; unfold isDig; rw [← HC.out]; simp; omega
          clear hc2
          go_wp2
          go_round
          case rel => exact ⟨i + 1, by omega, by go_num, all_take_succ hil HA.out HX.out⟩
          case measure => simp [intOf]; omega
        · have t3 : ¬ ((((⟨xs.toArray⟩ : ByteArray)[i]'hs).toNat : Nat) : Int) ≤ 57 := by rw [hc2]; omega
          have HX : Hid (hasDigs xs = false) := hasDigs_false hil (by unfold isDig; rw [← HC.out]; simp; omega)
          clear hc2
          go_wp2
          go_ret
          exact ⟨ret_bool HX.out.symm, rfl⟩
    · have t1 : ¬ (i : Int) < (xs.length : Int) := by omega
      have HX : Hid (xs.all isDig = true) := by
        show _ = _
        have := HA.out
        rwa [List.take_of_length_le (by omega)] at this
      go_wp2
      go_ret
      refine ⟨ret_bool ?_, rfl⟩
      unfold hasDigs
      rw [HX.out]
      cases xs <;> simp

def isPos (xs : List UInt8) : Bool := hasDigs xs && decide (xs.head? ≠ some 48)

theorem hasDigs_ne {xs : List UInt8} (h : hasDigs xs = true) : xs ≠ [] := by
  unfold hasDigs at h
  simp at h
  exact h.2

set_option maxHeartbeats 400000 in
theorem isPositive_any (xs : List UInt8) (w : World) (hl : xs.length ≤ 1000000000) :
    Calls Tryz.prog 69 #[.string ⟨xs.toArray⟩] w fun e w' => e = .returned (.bool (isPos xs)) ∧ w = w' := by
  cases h : hasDigs xs with
  | false =>
    have HE : Hid (isPos xs = false) := by show _ = _; unfold isPos; rw [h]; rfl
    rw [HE.out]
    go_enter Tryz.func69, Tryz.ntmps69
    go_wp2_with fail
    refine (hasDigits_any xs _ hl).mono ?_
    rw [h]
    rintro e w1 ⟨rfl, rfl⟩
    clear h
    go_wp2
    go_ret
    exact ⟨rfl, rfl⟩
  | true =>
    obtain ⟨x, t, rfl⟩ : ∃ x t, xs = x :: t := by
      cases xs with
      | nil => exact absurd rfl (hasDigs_ne h)
      | cons x t => exact ⟨x, t, rfl⟩
    go_enter Tryz.func69, Tryz.ntmps69
    go_wp2_with fail
    refine (hasDigits_any _ _ hl).mono ?_
    rw [h]
    rintro e w1 ⟨rfl, rfl⟩
    have H := Lib.hid h
    clear h
    go_wp2
    go_ret
    refine ⟨ret_bool ?_, rfl⟩
    unfold isPos
    rw [H.out]
    show (((x.toNat : Nat) : Int) != 48) = _
    by_cases hx : x = 48
    · subst hx; rfl
    · have : x.toNat ≠ 48 := fun h => hx (UInt8.toNat_inj.1 h)
      simp [hx]
      omega

def isNum (xs : List UInt8) : Bool := decide (xs = [48]) || isPos (Lib.trimPrefix xs [45])

set_option maxHeartbeats 400000 in
theorem isNumeral_any (xs : List UInt8) (w : World) (hl : xs.length ≤ 1000000000) :
    Calls Tryz.prog 68 #[.string ⟨xs.toArray⟩] w fun e w' => e = .returned (.bool (isNum xs)) ∧ w = w' := by
  by_cases h0 : xs = [48]
  · subst h0
    go_enter Tryz.func68, Tryz.ntmps68
    go_wp2
    go_ret
    exact ⟨rfl, rfl⟩
  · have HE : Hid (isNum xs = isPos (Lib.trimPrefix xs [45])) := by show _ = _; unfold isNum; rw [decide_eq_false h0]; rfl
    rw [HE.out]
    have hle := Lib.trimPrefix_le xs [45]
    go_enter Tryz.func68, Tryz.ntmps68
    go_wp2_with fail
    refine (Tryz.strings_TrimPrefix _ _ _).mono ?_
    rintro e w1 ⟨rfl, rfl⟩
    go_wp2_with fail
    refine (isPositive_any (Lib.trimPrefix xs [45]) _ (by omega)).mono ?_
    rintro e w1 ⟨rfl, rfl⟩
    have H0 := Lib.hid h0
    clear h0
    go_wp2
    go_ret
    refine ⟨ret_bool ?_, rfl⟩
    have : (xs == [48]) = false := by simpa using H0.out
    rw [this, Bool.false_or]
end Go.Proofs.YtbihgllfllkkaaaGreat
