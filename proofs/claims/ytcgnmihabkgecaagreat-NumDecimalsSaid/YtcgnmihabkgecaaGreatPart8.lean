/- Part 8 of the contracts: Shift, Leh, LehB, LehC, LehD, LehE, DivM, Est. -/
import Derived.IntWalk
import Derived.Test.YtcgnmihabkgecaaGreatPart7

/- shiftLeft, shiftRight. -/
set_option linter.unusedVariables false
namespace Go.Proofs.YtcgnmihabkgecaaGreat
open Go.RowKit

theorem u64_wrap_nat (t : Nat) (h : t < 18446744073709551616) : IntKind.u64.wrap (t : Int) = (t : Int) := by
  simp [IntKind.wrap, IntKind.bits, IntKind.signed]
  omega

theorem pow_le32 {s : Nat} (hs : s < 32) : 2 ^ s ≤ 2147483648 := by
  have := Nat.pow_le_pow_right (n := 2) (by decide) (by omega : s ≤ 31)
  exact this

theorem shl_or (c x s : Nat) (hc : c < 2 ^ s) (hx : x < 4294967296) (hs : s < 32) :
    bits BinOp.or IntKind.u64 (c : Int) (IntKind.u64.wrap ((x : Int) * 2 ^ s)) = ((c + x * 2 ^ s : Nat) : Int) := by
  have h1 := pow_le32 hs
  have h2 : x * 2 ^ s ≤ 4294967295 * 2147483648 := Nat.mul_le_mul (by omega) h1
  have e : (x : Int) * 2 ^ s = ((x * 2 ^ s : Nat) : Int) := by push_cast; rfl
  rw [e, u64_wrap_nat _ (by omega)]
  have e2 : ((x * 2 ^ s : Nat) : Int) = (x : Int) * ((2 ^ s : Nat) : Int) := by push_cast; rfl
  rw [e2]
  exact or_shift c x s (2 ^ s) hc rfl (by omega) (by omega)

theorem shl_step {zs xs : List Nat} {c i x s : Nat} (hi : i < zs.length) (h0 : zs[i]?.getD 0 = 0) (hx : x = xs[i]?.getD 0) (hv : val B32 zs + c * B32 ^ i = val B32 (xs.take i) * 2 ^ s) :
    val B32 (zs.set i ((c + x * 2 ^ s) % B32)) + (c + x * 2 ^ s) / B32 * B32 ^ (i + 1) = val B32 (xs.take (i + 1)) * 2 ^ s := by
  have h1 := val_set B32 zs i ((c + x * 2 ^ s) % B32) hi
  have h2 := Nat.mod_add_div (c + x * 2 ^ s) B32
  rw [h0] at h1
  rw [val_take_succ, ← hx, Nat.pow_succ]
  generalize (c + x * 2 ^ s) % B32 = d at *
  generalize (c + x * 2 ^ s) / B32 = q at *
  generalize val B32 (zs.set i d) = v at *
  generalize B32 ^ i = p at *
  generalize 2 ^ s = m at *
  grind

def ShlRel (la s : Nat) (xs : List Nat) (W : World) (cv iv : Value) (wr : World) : Prop :=
  ∃ (c i : Nat) (zs : List Nat), cv = .int .u64 (c : Int) ∧ iv = .int .i64 (i : Int) ∧ Blk .u32 wr W.heap.size 91 zs ∧ zs.length = la + 1 ∧ Dig B32 zs ∧ i ≤ la ∧ c < 2 ^ s ∧
    val B32 zs + c * B32 ^ i = val B32 (xs.take i) * 2 ^ s ∧ (∀ j, i ≤ j → zs[j]?.getD 0 = 0) ∧ Below W.heap.size W wr

def ShlPost (la s n : Nat) (W : World) (e : Ending) (w' : World) : Prop :=
  e = .returned (.slice (some ⟨W.heap.size, 0, none⟩) (la + 1) (la + 1)) ∧ ∃ zs, Blk .u32 w' W.heap.size 91 zs ∧ zs.length = la + 1 ∧ Dig B32 zs ∧ val B32 zs = n * 2 ^ s ∧ Below W.heap.size W w'

set_option maxHeartbeats 1000000 in
theorem shiftLeft_any (ao : Option Addr) (la ca n s : Nat) (S : Int) (W : World) (h : N32 W ao la n) (hS : S = (s : Int)) (hs : s < 32) (hla : la ≤ 1000000000) :
    Calls Tryz.prog 124 #[.slice ao la ca, .int .i64 S] W (ShlPost la s n W) := by
  subst hS
  obtain ⟨xs, ⟨hx, b, off, hao, hc⟩, hd, ht, hv⟩ := h
  have HX := Lib.hid hx
  have HAO := Lib.hid hao
  have HC := Lib.hid hc
  have HD := Lib.hid hd
  have HV := Lib.hid hv
  have HG := Lib.hid (Nat.le_refl W.heap.size)
  clear hx hao hc hd ht hv
  go_enter Tryz.func124, Tryz.ntmps124
  go_wp2_with (at_make; refine wpList_mk rfl _ 23 rfl 91 .u32 4 Tryz.underlying23 (by kernel_rfl) _ (la + 1) rfl (by omega) (by omega) (by omega) ?_; intro w1 hB1 hb1 hz1)
  go_loopw [6, 15] (fun cv iv wr => ShlRel la s xs W cv iv wr) (fun cv iv _ => la - (intOf iv).toNat)
  case atStart =>
    refine ⟨0, 0, _, rfl, rfl, hB1, by simp, Dig.replicate B32_pos _, by omega, Nat.pow_pos (by decide), ?_, ?_, hb1⟩
    · rw [val_replicate]; simp [val]
    · intro j hj; rw [List.getElem?_replicate]; split <;> rfl
  case round =>
    obtain ⟨c, i, zs, rfl, rfl, hB, hzl, hdz, hi, hc, hv, h0, hbel⟩ := hrel
    have HZ := Lib.hid hB
    have HL := Lib.hid hzl
    have HDZ := Lib.hid hdz
    have HVV := Lib.hid hv
    have H0 := Lib.hid h0
    have HW := Lib.hid hbel
    have HCC := Lib.hid hc
    have hc32 : c < 4294967296 := Nat.lt_of_lt_of_le hc (Nat.pow_le_pow_right (by decide) (by omega : s ≤ 32))
    clear hB hzl hdz hv h0 hbel hc
    by_cases hil : i < la
    · obtain rfl := HAO.out (by omega)
      have ca1 := cell_later HW.out (HC.out i hil)
      have hx := HD.out.get B32_pos i
      obtain ⟨x, hxe⟩ : ∃ x, x = xs[i]?.getD 0 := ⟨_, rfl⟩
      rw [← hxe] at ca1 hx
      rw [B32_eq] at hx
      have HXE := Lib.hid hxe
      clear hxe
      have b1 : (i : Int) < (la : Int) := by omega
      have b0 : (0 : Int) ≤ (i : Int) := by omega
      have b2 : (i : Int) < (la : Int) + 1 := by omega
      have s0 : (0 : Int) ≤ (s : Int) := by omega
      have s1 : (s : Int) < 32 := by omega
      have cz1 := HZ.out.cell i (by rw [HL.out]; omega)
      have fz1 := HZ.out.frozen i
      go_wp2
      refine ⟨?_, by simp [intOf]; omega⟩
      rw [shl_or c x s HCC.out hx hs]
      have hm := pow_le32 hs
      have hcs := HCC.out
      have h00 := H0.out i (Nat.le_refl _)
      refine ⟨(c + x * 2 ^ s) / B32, i + 1, zs.set i ((c + x * 2 ^ s) % B32), ?_, by go_num, HZ.out.set _ _ _ ?_, by simpa using HL.out, HDZ.out.set _ (Nat.mod_lt _ B32_pos), by omega, ?_, shl_step (by rw [HL.out]; omega) h00 HXE.out HVV.out, ?_, HW.out.setCell (Nat.le_refl _) _⟩
      · exact congrArg (Value.int _) (Int.natCast_ediv _ _).symm
      · exact (Int.natCast_emod _ _).symm
      · rw [B32_eq, Nat.div_lt_iff_lt_mul (by decide)]
        have : x * 2 ^ s ≤ 4294967295 * 2 ^ s := Nat.mul_le_mul_right _ (by omega)
        omega
      · intro j hj
        rw [List.getElem?_set_ne (by omega)]
        exact H0.out j (by omega)
    · obtain rfl : i = la := by omega
      have cz1 := HZ.out.cell i (by rw [HL.out]; omega)
      have fz1 := HZ.out.frozen i
      go_wp2
      go_ret
      have hv := HVV.out
      have h00 := H0.out i (Nat.le_refl _)
      rw [List.take_of_length_le (by rw [HX.out]; exact Nat.le_refl _), HV.out] at hv
      refine ⟨rfl, zs.set i c, HZ.out.set _ _ _ rfl, by simpa using HL.out, HDZ.out.set _ (by rw [B32_eq]; exact hc32), ?_, HW.out.setCell (Nat.le_refl _) _⟩
      have h1 := val_set B32 zs i c (by rw [HL.out]; omega)
      rw [h00, Nat.mul_zero, Nat.add_zero, Nat.mul_comm (B32 ^ i) c] at h1
      rw [h1]
      exact hv

theorem shr_cast (t s : Nat) : ((t : Int) / 2 ^ s % 4294967296) = ((t / 2 ^ s % 4294967296 : Nat) : Int) := by
  rw [Int.natCast_emod, Int.natCast_ediv, Int.natCast_pow]
  rfl

theorem shr_digit {B m k x y r : Nat} (hm : 0 < m) (hB : m * k = B) : (x + B * (y + B * r)) / m % B = (x + B * y) / m % B := by
  have e : x + B * (y + B * r) = (x + B * y) + m * (B * (k * r)) := by
    rw [← hB]; grind
  rw [e, Nat.add_mul_div_left _ _ hm, Nat.add_mul_mod_self_left]

theorem val_drop_div (xs : List Nat) (hd : Dig B32 xs) (i : Nat) (hi : i ≤ xs.length) : val B32 xs / B32 ^ i = val B32 (xs.drop i) := by
  rw [val_split B32 xs i hi, Nat.add_mul_div_left _ _ (Nat.pow_pos B32_pos), Nat.div_eq_of_lt, Nat.zero_add]
  have := val_lt B32_pos (hd.take i)
  rwa [List.length_take, Nat.min_eq_left hi] at this

theorem shr_step {xs zs : List Nat} {i m k : Nat} (hd : Dig B32 xs) (hi : i < xs.length) (hm : 0 < m) (hB : m * k = B32) (hz : zs.length = xs.length) (hv : val B32 (zs.take i) = val B32 xs / m % B32 ^ i) :
    val B32 ((zs.set i ((xs[i]?.getD 0 + B32 * (xs[i + 1]?.getD 0)) / m % B32)).take (i + 1)) = val B32 xs / m % B32 ^ (i + 1) := by
  rw [val_take_succ, List.take_set_of_le (Nat.le_refl _), hv, Nat.mod_pow_succ]
  congr 2
  rw [List.getElem?_set_self (by omega)]
  simp only [Option.getD_some]
  rw [Nat.div_div_eq_div_mul, Nat.mul_comm m, ← Nat.div_div_eq_div_mul, val_drop_div xs hd i (by omega), drop_eq_cons xs i hi, val_cons]
  by_cases h1 : i + 1 < xs.length
  · rw [drop_eq_cons xs (i + 1) h1, val_cons]
    exact (shr_digit hm hB).symm
  · rw [List.drop_of_length_le (by omega), List.getElem?_eq_none (l := xs) (i := i + 1) (by omega)]; rfl

def ShrRel (g e la s : Nat) (xs post : List Nat) (W : World) (iv : Value) (wr : World) : Prop :=
  ∃ (i : Nat) (zs : List Nat), iv = .int .i64 (i : Int) ∧ Blk .u32 wr g e (zs ++ post) ∧ zs.length = la ∧ Dig B32 zs ∧ i ≤ la ∧ val B32 (zs.take i) = val B32 xs / 2 ^ s % B32 ^ i ∧ zs.drop i = xs.drop i ∧ W.grownBy wr (some g) ∧ wr.heap.size = W.heap.size

def ShrPost (g e la s v : Nat) (post : List Nat) (W : World) (en : Ending) (w' : World) : Prop :=
  ∃ ao n, en = .returned (.slice ao n n) ∧ N32 w' ao n (v / 2 ^ s) ∧ W.grownBy w' (some g) ∧ w'.heap.size = W.heap.size

set_option maxHeartbeats 1000000 in
theorem shiftRight_any (g e la ca s : Nat) (xs post : List Nat) (S : Int) (W : World) (hB : Blk .u32 W g e (xs ++ post)) (hl : xs.length = la) (hd : Dig B32 xs) (hS : S = (s : Int)) (hs : s < 32) (hla : la ≤ 2000000000) (hlc : la ≤ ca) (hcm : ca ≤ 9223372036854775807) :
    Calls Tryz.prog 126 #[.slice (some ⟨g, 0, none⟩) la ca, .int .i64 S] W (ShrPost g e la s (val B32 xs) post W) := by
  subst hS
  have HB := Lib.hid hB
  have HL0 := Lib.hid hl
  have HD := Lib.hid hd
  clear hB hl hd
  go_enter Tryz.func126, Tryz.ntmps126
  go_wp2
  go_loopw [9] (fun iv wr => ShrRel g e la s xs post W iv wr) (fun iv _ => la - (intOf iv).toNat)
  case atStart => exact ⟨0, xs, rfl, HB.out, HL0.out, HD.out, by omega, by simp [val]; omega, rfl, World.grownBy.refl _ _, rfl⟩
  case round =>
    obtain ⟨i, zs, rfl, hB, hzl, hdz, hi, hv, hdr, hbel, hz⟩ := hrel
    have HZ := Lib.hid hB
    have HL := Lib.hid hzl
    have HDZ := Lib.hid hdz
    have HV := Lib.hid hv
    have HDR := Lib.hid hdr
    have HW := Lib.hid hbel
    have HHZ := Lib.hid hz
    clear hB hzl hdz hv hdr hbel hz
    by_cases hil : i < la
    · have hzi : ∀ j, i ≤ j → zs[j]?.getD 0 = xs[j]?.getD 0 := by
        intro j hj
        have := congrArg (fun l => l[j - i]?.getD 0) HDR.out
        simp only [List.getElem?_drop] at this
        rwa [show i + (j - i) = j by omega] at this
      have cz1 := HZ.out.cell i (by have := HL.out; simp; omega)
      have fz1 := HZ.out.frozen i
      rw [List.getElem?_append_left (by rw [HL.out]; exact hil), hzi i (Nat.le_refl _)] at cz1
      have hx := HD.out.get B32_pos i
      have hy := HD.out.get B32_pos (i + 1)
      obtain ⟨x, hxe⟩ : ∃ x, x = xs[i]?.getD 0 := ⟨_, rfl⟩
      obtain ⟨y, hye⟩ : ∃ x, x = xs[i + 1]?.getD 0 := ⟨_, rfl⟩
      rw [← hxe] at cz1 hx
      rw [← hye] at hy
      rw [B32_eq] at hx hy
      have HXE := Lib.hid hxe
      have HYE := Lib.hid hye
      have HYZ : Hid (y = zs[i + 1]?.getD 0) := by show _ = _; rw [hzi (i + 1) (by omega)]; exact hye
      have hsl : Sl .u32 wr (some ⟨g, 0, none⟩) la zs := by
        have := HZ.out.sl0 la (by have := HL.out; simp; omega)
        rwa [List.take_left' HL.out] at this
      have HSL := Lib.hid hsl
      clear hzi hxe hye hsl
      have b0 : (0 : Int) ≤ (i : Int) := by omega
      have b1 : (i : Int) < (la : Int) := by omega
      have s0 : (0 : Int) ≤ (s : Int) := by omega
      have s1 : (s : Int) < 32 := by omega
      go_wp2_with fail
      go_quiet ((go_at_call 102; exact digit_quiet _ _ _ zs _ (i + 1) y _ _ HSL.out (by omega) HYZ.out))
      go_wp2
      refine ⟨?_, by simp [intOf]; omega⟩
      have ho : bits BinOp.or IntKind.u64 (x : Int) ((y : Int) * 4294967296) = ((x + y * 4294967296 : Nat) : Int) := or_shift x y 32 4294967296 (by omega) (by decide) (by omega) (by omega)
      rw [ho]
      have hm := pow_le32 hs
      have hxl : i < xs.length := by rw [HL0.out]; exact hil
      refine ⟨i + 1, zs.set i ((x + y * 4294967296) / 2 ^ s % 4294967296), by go_num, ?_, by simpa using HL.out, HDZ.out.set _ (Nat.mod_lt _ (by decide)), by omega, ?_, ?_, grownBy_set HW.out _ _ _, by simpa using HHZ.out⟩
      · have h := (HZ.out.drewN nq).set i ((x + y * 4294967296) / 2 ^ s % 4294967296) _ (shr_cast (x + y * 4294967296) s)
        rwa [List.set_append_left (h := by rw [HL.out]; exact hil)] at h
      · have hk : 2 ^ s * 2 ^ (32 - s) = B32 := by rw [← Nat.pow_add, show s + (32 - s) = 32 by omega]; rfl
        have h := shr_step (zs := zs) HD.out hxl (Nat.pow_pos (by decide)) hk (by rw [HL.out, HL0.out]) HV.out
        rw [← HXE.out, ← HYE.out, B32_eq, Nat.mul_comm 4294967296 y] at h
        rw [B32_eq]
        exact h
      · rw [List.drop_set_of_lt (by omega)]
        have := congrArg (List.drop 1) HDR.out
        rwa [List.drop_drop, List.drop_drop] at this
    · obtain rfl : i = la := by omega
      have HSL := Lib.hid (HZ.out.sl0 i (by have := HL.out; simp; omega))
      go_wp2_with fail
      refine (trim_raw _ _ _ _ _ HSL.out hlc hcm).mono ?_
      rintro e w3 ⟨⟨ao', m, rfl, hm, ha', hz', ht, hzz⟩, rfl⟩
      have HT := Lib.hid ht
      have HZZ := Lib.hid hzz
      have HAA := Lib.hid ha'
      clear ht hzz ha' hz'
      go_wp2
      go_ret
      have e1 : (zs ++ post).take i = zs := List.take_left' HL.out
      have hsl := HSL.out
      have ht := HT.out
      have hzz := HZZ.out
      rw [e1] at hsl ht hzz
      refine ⟨ao', m, rfl, ⟨_, trim_sl hsl hm HAA.out, HDZ.out.take _, ht, ?_⟩, HW.out, HHZ.out⟩
      have hv := HV.out
      rw [List.take_of_length_le (by rw [HL.out]; exact Nat.le_refl _)] at hv
      rw [val_take_of_zeros hzz, hv, Nat.mod_eq_of_lt]
      have := val_lt B32_pos HD.out
      rw [HL0.out] at this
      exact Nat.lt_of_le_of_lt (Nat.div_le_self _ _) this
end Go.Proofs.YtcgnmihabkgecaaGreat

/- Lehmer's steps, a product minus a product, a window of 64 bits: the numbers. No function of the program is walked here. -/
set_option linter.unusedVariables false
namespace Go.Proofs.YtcgnmihabkgecaaGreat
open Go.RowKit

theorem leh_even {A B a b L x y α β γ δ r s : Nat} (hA : A = a * L + x) (hB : B = b * L + y) (hx : x < L) (hy : y < L)
    (ha : a = δ * r + β * s) (hb : b = γ * r + α * s) (hs : δ ≤ s) (hr : s + β + δ ≤ r) (hab : α ≤ β) (hb1 : 1 ≤ β) (hgd : γ ≤ δ) (hdet : α * δ = γ * β + 1) :
    ∃ A' B', α * A = β * B + A' ∧ δ * B = γ * A + B' ∧ B' < A' ∧ A = δ * A' + β * B' ∧ B = γ * A' + α * B' := by
  have e1 : α * a = β * b + r := by subst ha hb; grind
  have e2 : δ * b = γ * a + s := by subst ha hb; grind
  have i1 : β * y ≤ r * L := Nat.mul_le_mul (by omega) (by omega)
  have i2 : γ * x ≤ s * L := Nat.mul_le_mul (by omega) (by omega)
  have f1 : α * A = β * B + (r * L + α * x - β * y) := by
    have : α * A + β * y = β * B + (r * L + α * x) := by subst hA hB; grind
    omega
  have f2 : δ * B = γ * A + (s * L + δ * y - γ * x) := by
    have : δ * B + γ * x = γ * A + (s * L + δ * y) := by subst hA hB; grind
    omega
  refine ⟨_, _, f1, f2, ?_, ?_, ?_⟩
  · have h1 : (s + β + δ) * L ≤ r * L := Nat.mul_le_mul_right _ hr
    have h2 : (β + δ) * (y + 1) ≤ (β + δ) * L := Nat.mul_le_mul_left _ hy
    have h3 : (s + β + δ) * L = s * L + (β + δ) * L := by grind
    have h4 : (β + δ) * (y + 1) = β * y + δ * y + (β + δ) := by grind
    omega
  · generalize r * L + α * x - β * y = P at *
    generalize s * L + δ * y - γ * x = Q at *
    clear hA hB ha hb e1 e2 i1 i2
    grind
  · generalize r * L + α * x - β * y = P at *
    generalize s * L + δ * y - γ * x = Q at *
    clear hA hB ha hb e1 e2 i1 i2
    grind

theorem leh_odd {A B a b L x y α β γ δ r s : Nat} (hA : A = a * L + x) (hB : B = b * L + y) (hx : x < L) (hy : y < L)
    (ha : a = δ * r + β * s) (hb : b = γ * r + α * s) (hs : δ ≤ s) (hr : s + β + δ ≤ r) (hab : α ≤ β) (hb1 : 1 ≤ β) (hgd : γ ≤ δ) (hdet : α * δ + 1 = γ * β) :
    ∃ A' B', β * B = α * A + A' ∧ γ * A = δ * B + B' ∧ B' < A' ∧ A = δ * A' + β * B' ∧ B = γ * A' + α * B' := by
  have e1 : β * b = α * a + r := by subst ha hb; grind
  have e2 : γ * a = δ * b + s := by subst ha hb; grind
  have i1 : α * x ≤ r * L := Nat.mul_le_mul (by omega) (by omega)
  have i2 : δ * y ≤ s * L := Nat.mul_le_mul (by omega) (by omega)
  have f1 : β * B = α * A + (r * L + β * y - α * x) := by
    have : β * B + α * x = α * A + (r * L + β * y) := by subst hA hB; grind
    omega
  have f2 : γ * A = δ * B + (s * L + γ * x - δ * y) := by
    have : γ * A + δ * y = δ * B + (s * L + γ * x) := by subst hA hB; grind
    omega
  refine ⟨_, _, f1, f2, ?_, ?_, ?_⟩
  · have h1 : (s + β + δ) * L ≤ r * L := Nat.mul_le_mul_right _ hr
    have h2 : (β + δ) * (x + 1) ≤ (β + δ) * L := Nat.mul_le_mul_left _ hx
    have h3 : (s + β + δ) * L = s * L + (β + δ) * L := by grind
    have h4 : (β + δ) * (x + 1) = β * x + δ * x + (β + δ) := by grind
    have h5 : α * x ≤ β * x := Nat.mul_le_mul_right _ hab
    have h6 : γ * x ≤ δ * x := Nat.mul_le_mul_right _ hgd
    omega
  · generalize r * L + β * y - α * x = P at *
    generalize s * L + γ * x - δ * y = Q at *
    clear hA hB ha hb e1 e2 i1 i2
    grind
  · generalize r * L + β * y - α * x = P at *
    generalize s * L + γ * x - δ * y = Q at *
    clear hA hB ha hb e1 e2 i1 i2
    grind

/-- what foresee returns for the highest bits of two numbers -/
def Fore (a b α β γ δ : Nat) (odd : Bool) : Prop :=
  ∃ r s, a = δ * r + β * s ∧ b = γ * r + α * s ∧ δ ≤ s ∧ s + β + δ ≤ r ∧ α ≤ β ∧ 1 ≤ β ∧ β ≤ δ ∧ γ ≤ δ ∧ 1 ≤ γ ∧ δ < 4294967296 ∧ (odd = false → α * δ = γ * β + 1) ∧ (odd = true → α * δ + 1 = γ * β)

/-- what the steps make of the numbers themselves -/
structure Stepped (A B α β γ δ : Nat) (odd : Bool) (A' B' : Nat) : Prop where
  even : odd = false → α * A = β * B + A' ∧ δ * B = γ * A + B'
  odd : odd = true → β * B = α * A + A' ∧ γ * A = δ * B + B'
  lt : B' < A'
  backA : A = δ * A' + β * B'
  backB : B = γ * A' + α * B'

theorem Fore.stepped {A B L α β γ δ : Nat} {odd : Bool} (hL : 0 < L) (h : Fore (A / L) (B / L) α β γ δ odd) : ∃ A' B', Stepped A B α β γ δ odd A' B' := by
  obtain ⟨r, s, h1, h2, h3, h4, h5, h6, h7, h8, h9, h10, he, ho⟩ := h
  have hA : A = A / L * L + A % L := (Nat.div_add_mod' A L).symm
  have hB : B = B / L * L + B % L := (Nat.div_add_mod' B L).symm
  have hx := Nat.mod_lt A hL
  have hy := Nat.mod_lt B hL
  cases odd with
  | false =>
    obtain ⟨A', B', k1, k2, k3, k4, k5⟩ := leh_even hA hB hx hy h1 h2 h3 h4 h5 h6 h8 (he rfl)
    exact ⟨A', B', ⟨fun _ => ⟨k1, k2⟩, fun h => (by cases h), k3, k4, k5⟩⟩
  | true =>
    obtain ⟨A', B', k1, k2, k3, k4, k5⟩ := leh_odd hA hB hx hy h1 h2 h3 h4 h5 h6 h8 (ho rfl)
    exact ⟨A', B', ⟨fun h => (by cases h), fun _ => ⟨k1, k2⟩, k3, k4, k5⟩⟩

theorem Stepped.gcd {A B α β γ δ A' B' : Nat} {odd : Bool} (h : Stepped A B α β γ δ odd A' B') : Nat.gcd A' B' = Nat.gcd A B := by
  apply Nat.dvd_antisymm
  · apply Nat.dvd_gcd
    · rw [h.backA]; exact Nat.dvd_add (Nat.dvd_trans (Nat.gcd_dvd_left _ _) (Nat.dvd_mul_left _ _)) (Nat.dvd_trans (Nat.gcd_dvd_right _ _) (Nat.dvd_mul_left _ _))
    · rw [h.backB]; exact Nat.dvd_add (Nat.dvd_trans (Nat.gcd_dvd_left _ _) (Nat.dvd_mul_left _ _)) (Nat.dvd_trans (Nat.gcd_dvd_right _ _) (Nat.dvd_mul_left _ _))
  · have dA : ∀ k, Nat.gcd A B ∣ k * A := fun k => Nat.dvd_trans (Nat.gcd_dvd_left _ _) (Nat.dvd_mul_left _ _)
    have dB : ∀ k, Nat.gcd A B ∣ k * B := fun k => Nat.dvd_trans (Nat.gcd_dvd_right _ _) (Nat.dvd_mul_left _ _)
    cases odd with
    | false =>
      obtain ⟨h1, h2⟩ := h.even rfl
      apply Nat.dvd_gcd
      · exact (Nat.dvd_add_right (dB β)).1 (h1 ▸ dA α)
      · exact (Nat.dvd_add_right (dA γ)).1 (h2 ▸ dB δ)
    | true =>
      obtain ⟨h1, h2⟩ := h.odd rfl
      apply Nat.dvd_gcd
      · exact (Nat.dvd_add_right (dA α)).1 (h1 ▸ dB β)
      · exact (Nat.dvd_add_right (dB δ)).1 (h2 ▸ dA γ)

theorem Stepped.le {A B α β γ δ A' B' : Nat} {odd : Bool} (h : Stepped A B α β γ δ odd A' B') (hd : 1 ≤ δ) (hg : 1 ≤ γ) (hb : 1 ≤ β) : A' ≤ A ∧ B' ≤ A ∧ A' + B' < A + B := by
  have h1 : 1 * A' ≤ δ * A' := Nat.mul_le_mul_right _ hd
  have h2 : 1 * A' ≤ γ * A' := Nat.mul_le_mul_right _ hg
  have h3 : 1 * B' ≤ β * B' := Nat.mul_le_mul_right _ hb
  have := h.backA
  have := h.backB
  have := h.lt
  omega

/-- the state of foresee's loop -/
def ForeInv (A B a b na nb la lb : Nat) (odd : Bool) : Prop :=
  A = lb * a + nb * b ∧ B = la * a + na * b ∧ b ≤ a ∧ la ≤ lb ∧ 1 ≤ lb ∧ nb ≤ lb ∧ ((nb = 0 ∧ na = 1 ∧ la = 0 ∧ lb = 1) ∨ (1 ≤ nb ∧ na ≤ nb ∧ 1 ≤ la)) ∧ (odd = true → na * lb = la * nb + 1) ∧ (odd = false → na * lb + 1 = la * nb)

theorem ForeInv.start {a b : Nat} (h : b ≤ a) : ForeInv a b a b 1 0 0 1 true := by
  refine ⟨by omega, by omega, h, by omega, by omega, by omega, .inl ⟨rfl, rfl, rfl, rfl⟩, fun _ => by omega, fun h => by cases h⟩

theorem ForeInv.fore {A B a b na nb la lb : Nat} {odd : Bool} (h : ForeInv A B a b na nb la lb odd) (hA : A < 18446744073709551616) (h1 : lb ≤ b) (h2 : nb + lb ≤ a - b) (hn : nb ≠ 0) :
    Fore A B na nb la lb (!odd) := by
  obtain ⟨e1, e2, hba, hl, hl1, hnl, hc, ho, he⟩ := h
  rcases hc with hc | ⟨hn1, hna, hla⟩
  · omega
  have hlt : lb < 4294967296 := by
    rcases Nat.lt_or_ge lb 4294967296 with h | h
    · exact h
    · have : 4294967296 * 4294967296 ≤ lb * a := Nat.mul_le_mul h (by omega)
      omega
  refine ⟨a, b, e1, e2, h1, by omega, hna, hn1, hnl, hl, hla, hlt, fun h => ?_, fun h => ?_⟩
  · have := ho (by simpa using h); omega
  · have := he (by simpa using h); omega

theorem ForeInv.next {A B a b na nb la lb : Nat} {odd : Bool} (h : ForeInv A B a b na nb la lb odd) (hb : 0 < b) :
    ForeInv A B b (a % b) la lb (na + a / b * la) (nb + a / b * lb) (!odd) := by
  obtain ⟨e1, e2, hba, hl, hl1, hnl, hc, ho, he⟩ := h
  have hq : 1 ≤ a / b := (Nat.one_le_div_iff hb).2 hba
  have hm := Nat.div_add_mod a b
  have hlt := Nat.mod_lt a hb
  generalize a / b = q at *
  generalize a % b = r at *
  have h3 : 1 * lb ≤ q * lb := Nat.mul_le_mul_right _ hq
  have h4 : q * la ≤ q * lb := Nat.mul_le_mul_left _ hl
  refine ⟨by subst hm; grind, by subst hm; grind, by omega, ?_, by omega, by omega, ?_, fun h => ?_, fun h => ?_⟩
  · rcases hc with ⟨rfl, rfl, rfl, rfl⟩ | hc
    · omega
    · omega
  · right
    rcases hc with ⟨rfl, rfl, rfl, rfl⟩ | hc
    · omega
    · have h5 : 1 * la ≤ q * la := Nat.mul_le_mul_right _ hq
      omega
  · have := he (by simpa using h)
    grind
  · have := ho (by simpa using h)
    grind

/-- nothing wraps around -/
theorem ForeInv.bounds {A B a b na nb la lb : Nat} {odd : Bool} (h : ForeInv A B a b na nb la lb odd) (h1 : lb ≤ b) :
    nb + lb ≤ A ∧ nb + a / b * lb ≤ A ∧ na + a / b * la ≤ A ∧ a / b * lb ≤ A ∧ a / b * la ≤ A ∧ a ≤ A ∧ lb ≤ A ∧ la ≤ A ∧ na ≤ A ∧ nb ≤ A := by
  obtain ⟨e1, e2, hba, hl, hl1, hnl, hc, ho, he⟩ := h
  have hb : 0 < b := by omega
  have hm : b * (a / b) ≤ a := Nat.mul_div_le a b
  generalize a / b = q at *
  have k1 : lb * 1 ≤ lb * a := Nat.mul_le_mul_left _ (by omega)
  have k2 : nb * 1 ≤ nb * b := Nat.mul_le_mul_left _ (by omega)
  have k3 : lb * (b * q) ≤ lb * a := Nat.mul_le_mul_left _ hm
  have k4 : (q * lb) * 1 ≤ (q * lb) * b := Nat.mul_le_mul_left _ (by omega)
  have k5 : lb * (b * q) = (q * lb) * b := by grind
  have k6 : q * la ≤ q * lb := Nat.mul_le_mul_left _ hl
  have k7 : 1 * a ≤ lb * a := Nat.mul_le_mul_right _ hl1
  refine ⟨by omega, by omega, ?_, by omega, by omega, by omega, by omega, by omega, ?_, by omega⟩
  · rcases hc with ⟨rfl, rfl, rfl, rfl⟩ | hc <;> omega
  · rcases hc with hc | hc <;> omega

theorem comb_step {B : Nat} {zs xs ys : List Nat} {i c d w f g nw w' : Nat} (hi : i < zs.length) (h0 : zs[i]?.getD 0 = 0)
    (hv : val B zs + c * B ^ i + g * val B (ys.take i) = f * val B (xs.take i) + (d + w) * B ^ i)
    (hn : nw + (d + ys[i]?.getD 0 * g) % B + w = (c + xs[i]?.getD 0 * f) % B + w' * B) :
    val B (zs.set i nw) + (c + xs[i]?.getD 0 * f) / B * B ^ (i + 1) + g * val B (ys.take (i + 1)) = f * val B (xs.take (i + 1)) + ((d + ys[i]?.getD 0 * g) / B + w') * B ^ (i + 1) := by
  have h1 := val_set B zs i nw hi
  have h2 := Nat.mod_add_div (c + xs[i]?.getD 0 * f) B
  have h3 := Nat.mod_add_div (d + ys[i]?.getD 0 * g) B
  rw [h0] at h1
  rw [val_take_succ, val_take_succ, Nat.pow_succ]
  generalize (c + xs[i]?.getD 0 * f) % B = c0 at *
  generalize (c + xs[i]?.getD 0 * f) / B = c1 at *
  generalize (d + ys[i]?.getD 0 * g) % B = d0 at *
  generalize (d + ys[i]?.getD 0 * g) / B = d1 at *
  generalize val B (zs.set i nw) = v at *
  generalize val B (xs.take i) = vx at *
  generalize val B (ys.take i) = vy at *
  generalize xs[i]?.getD 0 = x at *
  generalize ys[i]?.getD 0 = y at *
  generalize B ^ i = p at *
  have e : (nw + d0 + w) * p = (c0 + w' * B) * p := by rw [hn]
  have e2 : (c0 + B * c1) * p = (c + x * f) * p := by rw [h2]
  have e3 : (d0 + B * d1) * p = (d + y * g) * p := by rw [h3]
  grind

theorem comb_carry {B c x f : Nat} (hB : 0 < B) (hc : c ≤ f) (hx : x < B) : (c + x * f) / B ≤ f := by
  have : (x + 1) * f ≤ B * f := Nat.mul_le_mul_right _ hx
  rw [Nat.add_mul] at this
  have h2 := Nat.div_le_div_right (c := B) (show c + x * f ≤ B * f by omega)
  rwa [Nat.mul_div_cancel_left _ hB] at h2

theorem comb_end {P v c X Y f g e D : Nat} (hv : v + c * P + g * Y = f * X + e * P) (hD : f * X = g * Y + D) (hD2 : D < P) (hv2 : v < P) : v = D := by
  have h : v + c * P = D + e * P := by omega
  have h1 := congrArg (· % P) h
  simp only [Nat.add_mul_mod_self_right] at h1
  rwa [Nat.mod_eq_of_lt hv2, Nat.mod_eq_of_lt hD2] at h1

theorem pow64_split {s : Nat} (hs : s ≤ 64) : 2 ^ s * 2 ^ (64 - s) = 18446744073709551616 := by
  rw [← Nat.pow_add, show s + (64 - s) = 64 by omega]

theorem win_num {x0 x1 x2 R s : Nat} (hs : s < 32) :
    (x0 + 4294967296 * (x1 + 4294967296 * (x2 + 4294967296 * R))) / 2 ^ s % 18446744073709551616 = (x0 + x1 * 4294967296) / 2 ^ s + x2 % 2 ^ s * 2 ^ (64 - s) ∨ 18446744073709551616 ≤ x0 + x1 * 4294967296 := by
  by_cases hp : 18446744073709551616 ≤ x0 + x1 * 4294967296
  · exact .inr hp
  · left
    have h64 := pow64_split (show s ≤ 64 by omega)
    have h32 : 2 ^ s * 2 ^ (32 - s) = 4294967296 := by rw [← Nat.pow_add, show s + (32 - s) = 32 by omega]
    have hm : 0 < 2 ^ s := Nat.pow_pos (by decide)
    generalize 2 ^ (64 - s) = k at *
    generalize 2 ^ (32 - s) = j at *
    generalize 2 ^ s = m at *
    have e : x0 + 4294967296 * (x1 + 4294967296 * (x2 + 4294967296 * R)) = (x0 + x1 * 4294967296) + m * (k * (x2 + m * (j * R))) := by
      have : m * (k * (x2 + m * (j * R))) = (m * k) * (x2 + (m * j) * R) := by grind
      rw [this, h64, h32]
      omega
    rw [e, Nat.add_mul_div_left _ _ hm]
    have hdm := Nat.div_add_mod x2 m
    have e2 : k * (x2 + m * (j * R)) = k * (x2 % m) + 18446744073709551616 * (x2 / m + j * R) := by
      rw [← h64]
      conv => lhs; rw [← hdm]
      grind
    have hlt : (x0 + x1 * 4294967296) / m < k := by
      rw [Nat.div_lt_iff_lt_mul hm, Nat.mul_comm k m, h64]; omega
    have hr := Nat.mod_lt x2 hm
    have hb : k * (x2 % m) + k ≤ k * m := by
      have : k * (x2 % m + 1) ≤ k * m := Nat.mul_le_mul_left _ hr
      rwa [Nat.mul_add, Nat.mul_one] at this
    rw [Nat.mul_comm k m, h64] at hb
    rw [e2, ← Nat.add_assoc, Nat.add_mul_mod_self_left, Nat.mod_eq_of_lt (by omega), Nat.mul_comm k]

theorem val_at_split (xs : List Nat) (i : Nat) : val B32 (xs.drop i) = xs[i]?.getD 0 + B32 * val B32 (xs.drop (i + 1)) := by
  rcases Nat.lt_or_ge i xs.length with h | h
  · rw [drop_eq_cons xs i h, val_cons]
  · rw [List.drop_of_length_le h, List.drop_of_length_le (by omega), List.getElem?_eq_none h]; rfl

theorem val_drop_any (xs : List Nat) (hd : Dig B32 xs) (i : Nat) : val B32 xs / B32 ^ i = val B32 (xs.drop i) := by
  rcases Nat.lt_or_ge xs.length i with h | h
  · rw [List.drop_of_length_le (by omega)]
    have h1 := val_lt B32_pos hd
    have h2 : B32 ^ xs.length ≤ B32 ^ i := Nat.pow_le_pow_right B32_pos (by omega)
    exact Nat.div_eq_of_lt (by omega)
  · exact val_drop_div xs hd i h

/-- the window of 64 bits from the bit at 32 i + s on -/
theorem win_val {xs : List Nat} (hd : Dig B32 xs) (i s : Nat) (hs : s < 32) :
    val B32 xs / 2 ^ (32 * i + s) % 18446744073709551616 = (xs[i]?.getD 0 + xs[i + 1]?.getD 0 * 4294967296) / 2 ^ s + xs[i + 2]?.getD 0 % 2 ^ s * 2 ^ (64 - s) := by
  have e : 2 ^ (32 * i + s) = B32 ^ i * 2 ^ s := by
    rw [Nat.pow_add, Nat.pow_mul]; rfl
  rw [e, ← Nat.div_div_eq_div_mul, val_drop_any xs hd, val_at_split xs i, val_at_split xs (i + 1), val_at_split xs (i + 1 + 1)]
  have h0 := hd.get B32_pos i
  have h1 := hd.get B32_pos (i + 1)
  rw [B32_eq] at *
  rcases win_num (x0 := xs[i]?.getD 0) (x1 := xs[i + 1]?.getD 0) (x2 := xs[i + 2]?.getD 0) (R := val 4294967296 (xs.drop (i + 1 + 1 + 1))) hs with h | h
  · exact h
  · omega
end Go.Proofs.YtcgnmihabkgecaaGreat

/- combine, window. -/
set_option linter.unusedVariables false
namespace Go.Proofs.YtcgnmihabkgecaaGreat
open Go.RowKit

def CombRel (n f g : Nat) (xs ys : List Nat) (W : World) (cv dv wv iv : Value) (wr : World) : Prop :=
  ∃ (c d w i : Nat) (zs : List Nat), cv = .int .u64 (c : Int) ∧ dv = .int .u64 (d : Int) ∧ wv = .int .u64 (w : Int) ∧ iv = .int .i64 (i : Int) ∧ Blk .u32 wr W.heap.size 91 zs ∧ zs.length = n ∧ Dig B32 zs ∧ i ≤ n ∧ c ≤ f ∧ d ≤ g ∧ w ≤ 1 ∧
    val B32 zs + c * B32 ^ i + g * val B32 (ys.take i) = f * val B32 (xs.take i) + (d + w) * B32 ^ i ∧ (∀ j, i ≤ j → zs[j]?.getD 0 = 0) ∧ Below W.heap.size W wr

theorem u64_wrap_mod (z : Int) : IntKind.u64.wrap z = z % 18446744073709551616 := by
  simp [IntKind.wrap, IntKind.bits, IntKind.signed]

/-- one digit of a difference, with the borrow -/
theorem comb_digit (a b w : Nat) (ha : a < 4294967296) (hb : b < 4294967296) (hw : w ≤ 1) : ∃ nw w' : Nat, nw < 4294967296 ∧ w' ≤ 1 ∧ nw + b + w = a + w' * 4294967296 ∧
    IntKind.u64.wrap (IntKind.u64.wrap ((a : Int) - (b : Int)) - (w : Int)) % 4294967296 = (nw : Int) ∧ IntKind.u64.wrap (IntKind.u64.wrap ((a : Int) - (b : Int)) - (w : Int)) / 9223372036854775808 = (w' : Int) := by
  rw [u64_wrap_mod, u64_wrap_mod]
  by_cases h : a < b + w
  · exact ⟨a + 4294967296 - b - w, 1, by omega, by omega, by omega, by omega, by omega⟩
  · exact ⟨a - b - w, 0, by omega, by omega, by omega, by omega, by omega⟩

set_option maxRecDepth 8000 in
set_option maxHeartbeats 2000000 in
theorem combine_raw (ao bo : Option Addr) (la lb ca cb n f g D : Nat) (xs ys : List Nat) (F G : Int) (W : World) (ha : Sl .u32 W ao la xs) (hb : Sl .u32 W bo lb ys) (hda : Dig B32 xs) (hdb : Dig B32 ys) (hla : la ≤ 1000000000) (hlb : lb ≤ 1000000000) (hn : n = max la lb)
    (hF : F = (f : Int)) (hG : G = (g : Int)) (hf : f < 4294967296) (hg : g < 4294967296) (hD : f * val B32 xs = g * val B32 ys + D) (hDl : D < B32 ^ n) :
    Calls Tryz.prog 108 #[.slice ao la ca, .int .u64 F, .slice bo lb cb, .int .u64 G] W (Out32 W D) := by
  subst hF hG
  have HA := Lib.hid ha
  have HB := Lib.hid hb
  have HDA := Lib.hid hda
  have HDB := Lib.hid hdb
  have HD := Lib.hid hD
  have HDL := Lib.hid hDl
  have HN := Lib.hid hn
  have hn1 : max (la : Int) (lb : Int) = (n : Int) := by omega
  have hn2 : n ≤ 1000000000 := by omega
  have HG := Lib.hid (Nat.le_refl W.heap.size)
  clear ha hb hda hdb hD hDl hn
  go_enter Tryz.func108, Tryz.ntmps108
  go_wp2_with (at_make; refine wpList_mk rfl _ 23 rfl 91 .u32 4 Tryz.underlying23 (by kernel_rfl) _ n rfl (by omega) (by omega) (by omega) ?_; intro w1 hB1 hb1 hz1)
  go_loopw [10, 11, 12, 23] (fun cv dv wv iv wr => CombRel n f g xs ys W cv dv wv iv wr) (fun cv dv wv iv _ => n - (intOf iv).toNat)
  case atStart =>
    refine ⟨0, 0, 0, 0, _, rfl, rfl, rfl, rfl, hB1, by simp, Dig.replicate B32_pos _, by omega, by omega, by omega, by omega, ?_, ?_, hb1⟩
    · rw [val_replicate]; simp [val]
    · intro j hj; rw [List.getElem?_replicate]; split <;> rfl
  case round =>
    obtain ⟨c, d, w, i, zs, rfl, rfl, rfl, rfl, hB, hzl, hdz, hi, hc, hd, hw1, hv, h0, hbel⟩ := hrel
    have HZ := Lib.hid hB
    have HL := Lib.hid hzl
    have HDZ := Lib.hid hdz
    have HVV := Lib.hid hv
    have H0 := Lib.hid h0
    have HW := Lib.hid hbel
    clear hB hzl hdz hv h0 hbel
    by_cases hil : i < n
    · have hx := HDA.out.get B32_pos i
      have hy := HDB.out.get B32_pos i
      obtain ⟨x, hxe⟩ : ∃ x, x = xs[i]?.getD 0 := ⟨_, rfl⟩
      obtain ⟨y, hye⟩ : ∃ x, x = ys[i]?.getD 0 := ⟨_, rfl⟩
      rw [← hxe] at hx
      rw [← hye] at hy
      rw [B32_eq] at hx hy
      have HX := Lib.hid hxe
      have HY := Lib.hid hye
      obtain ⟨s, hs⟩ : ∃ s : Nat, s = x * f := ⟨_, rfl⟩
      obtain ⟨t, ht⟩ : ∃ t : Nat, t = y * g := ⟨_, rfl⟩
      have hs2 : (x : Int) * (f : Int) = (s : Int) := by rw [hs, Int.natCast_mul]
      have ht2 : (y : Int) * (g : Int) = (t : Int) := by rw [ht, Int.natCast_mul]
      have hs3 : s ≤ 18446744065119617025 := by rw [hs]; exact Nat.mul_le_mul (by omega : x ≤ 4294967295) (by omega : f ≤ 4294967295)
      have ht3 : t ≤ 18446744065119617025 := by rw [ht]; exact Nat.mul_le_mul (by omega : y ≤ 4294967295) (by omega : g ≤ 4294967295)
      have HS := Lib.hid hs
      have HT := Lib.hid ht
      clear hxe hye hs ht
      have b0 : (0 : Int) ≤ (i : Int) := by omega
      have b1 : (i : Int) < (n : Int) := by omega
      have cz1 := HZ.out.cell i (by rw [HL.out]; exact hil)
      have fz1 := HZ.out.frozen i
      have HAr := Lib.hid (HA.out.keep HW.out)
      have HBr := Lib.hid (HB.out.keep HW.out)
      go_wp2_with fail
      refine (digit_any _ _ _ xs _ i _ HAr.out rfl).mono ?_
      rw [← HX.out]
      rintro e w2 ⟨rfl, rfl⟩
      go_wp2_with fail
      refine (digit_any _ _ _ ys _ i _ HBr.out rfl).mono ?_
      rw [← HY.out]
      rintro e w2 ⟨rfl, rfl⟩
      go_wp2_with fail
      refine ⟨?_, by simp [intOf]; omega⟩
      obtain ⟨nw, w', hn1, hw2, hnw, hv1, hv2⟩ := comb_digit ((c + s) % 4294967296) ((d + t) % 4294967296) w (Nat.mod_lt _ (by decide)) (Nat.mod_lt _ (by decide)) hw1
      rw [Int.natCast_emod, Int.natCast_emod, Int.natCast_add, Int.natCast_add] at hv1 hv2
      have hv1' : IntKind.u64.wrap (IntKind.u64.wrap (((c : Int) + (s : Int)) % 4294967296 - ((d : Int) + (t : Int)) % 4294967296) - (w : Int)) % 4294967296 = (nw : Int) := hv1
      have hv2' : IntKind.u64.wrap (IntKind.u64.wrap (((c : Int) + (s : Int)) % 4294967296 - ((d : Int) + (t : Int)) % 4294967296) - (w : Int)) / 9223372036854775808 = (w' : Int) := hv2
      rw [hv1', hv2']
      have h00 := H0.out i (Nat.le_refl _)
      have hst := comb_step (B := B32) (w' := w') (nw := nw) (by rw [HL.out]; exact hil) h00 HVV.out (by rw [← HX.out, ← HY.out, ← HS.out, ← HT.out, B32_eq]; exact hnw)
      rw [← HX.out, ← HY.out, ← HS.out, ← HT.out] at hst
      have hc2 : (c + s) / B32 ≤ f := by rw [HS.out]; exact comb_carry B32_pos hc (by rw [B32_eq]; exact hx)
      have hd2 : (d + t) / B32 ≤ g := by rw [HT.out]; exact comb_carry B32_pos hd (by rw [B32_eq]; exact hy)
      refine ⟨(c + s) / B32, (d + t) / B32, w', i + 1, zs.set i nw, ?_, ?_, rfl, by go_num, HZ.out.set _ _ _ rfl, by simpa using HL.out, HDZ.out.set _ (by rw [B32_eq]; exact hn1), by omega, hc2, hd2, hw2, hst, ?_, HW.out.setCell (Nat.le_refl _) _⟩
      · exact congrArg (Value.int _) (by rw [B32_eq]; omega)
      · exact congrArg (Value.int _) (by rw [B32_eq]; omega)
      · intro j hj
        rw [List.getElem?_set_ne (by omega)]
        exact H0.out j (by omega)
    · obtain rfl : i = n := by omega
      have HSL := Lib.hid (HZ.out.whole HL.out)
      go_wp2_with fail
      refine (trim_raw _ _ _ _ _ HSL.out (Nat.le_refl _) (by omega)).mono ?_
      rintro e w3 ⟨⟨ao', m, rfl, hm, ha', hz', ht, hzz⟩, rfl⟩
      have HT := Lib.hid ht
      have HZZ := Lib.hid hzz
      have HAA := Lib.hid ha'
      clear ht hzz ha' hz'
      go_wp2
      go_ret
      refine ⟨ao', m, m, rfl, ⟨zs.take m, trim_sl HSL.out hm HAA.out, HDZ.out.take _, HT.out, ?_⟩, HW.out⟩
      rw [val_take_of_zeros HZZ.out]
      have hlx := HA.out.len
      have hly := HB.out.len
      have hnn := HN.out
      have hv := HVV.out
      rw [List.take_of_length_le (by omega), List.take_of_length_le (by omega)] at hv
      have hvl := val_lt B32_pos HDZ.out
      rw [HL.out] at hvl
      exact comb_end hv HD.out HDL.out hvl

theorem combine_any (ao bo : Option Addr) (la lb ca cb x f y g D : Nat) (F G : Int) (W : World) (ha : N32 W ao la x) (hb : N32 W bo lb y) (hla : la ≤ 1000000000) (hlb : lb ≤ 1000000000)
    (hF : F = (f : Int)) (hG : G = (g : Int)) (hf : f < 4294967296) (hg : g < 4294967296) (hD : f * x = g * y + D) (hDl : D ≤ x ∨ D ≤ y) :
    Calls Tryz.prog 108 #[.slice ao la ca, .int .u64 F, .slice bo lb cb, .int .u64 G] W (Out32 W D) := by
  have hx := ha.lt
  have hy := hb.lt
  have h1 : B32 ^ la ≤ B32 ^ max la lb := Nat.pow_le_pow_right B32_pos (by omega)
  have h2 : B32 ^ lb ≤ B32 ^ max la lb := Nat.pow_le_pow_right B32_pos (by omega)
  obtain ⟨xs, ha, hda, hta, hva⟩ := ha
  obtain ⟨ys, hb, hdb, htb, hvb⟩ := hb
  exact combine_raw ao bo la lb ca cb _ f g D xs ys F G W ha hb hda hdb hla hlb rfl hF hG hf hg (by rw [hva, hvb]; exact hD) (by omega)
end Go.Proofs.YtcgnmihabkgecaaGreat

/- window. -/
set_option linter.unusedVariables false
namespace Go.Proofs.YtcgnmihabkgecaaGreat
open Go.RowKit

theorem win_bits {p x s k : Nat} (hp : p < 18446744073709551616) (hs : s ≤ 64) (hk : k = 64 - s) :
    bits BinOp.or IntKind.u64 ((p : Int) / 2 ^ s) (IntKind.u64.wrap ((x : Int) * 2 ^ k)) = ((p / 2 ^ s + x % 2 ^ s * 2 ^ k : Nat) : Int) := by
  have h64 : 2 ^ s * 2 ^ k = 18446744073709551616 := by rw [hk]; exact pow64_split hs
  have hm : 0 < 2 ^ s := Nat.pow_pos (by decide)
  have e1 : (p : Int) / 2 ^ s = ((p / 2 ^ s : Nat) : Int) := by rw [Int.natCast_ediv, Int.natCast_pow]; rfl
  have e2 : IntKind.u64.wrap ((x : Int) * 2 ^ k) = ((x % 2 ^ s : Nat) : Int) * ((2 ^ k : Nat) : Int) := by
    have h1 : (x : Int) * 2 ^ k = ((x * 2 ^ k : Nat) : Int) := by push_cast; rfl
    have h2 : x * 2 ^ k % 18446744073709551616 = x % 2 ^ s * 2 ^ k := by rw [← h64, Nat.mul_mod_mul_right]
    rw [u64_wrap_mod, h1, ← Int.natCast_mul, ← h2]
    exact (Int.natCast_emod _ _).symm
  rw [e1, e2]
  have hlt : p / 2 ^ s < 2 ^ k := by rw [Nat.div_lt_iff_lt_mul hm, Nat.mul_comm, h64]; exact hp
  have hx : x % 2 ^ s * 2 ^ k < 18446744073709551616 := by
    rw [← h64]; exact Nat.mul_lt_mul_of_pos_right (Nat.mod_lt _ hm) (Nat.pow_pos (by decide))
  exact or_shift (p / 2 ^ s) (x % 2 ^ s) k (2 ^ k) hlt rfl hx (Nat.lt_of_le_of_lt (Nat.div_le_self _ _) hp)

set_option maxRecDepth 8000 in
set_option maxHeartbeats 2000000 in
theorem window_any (ao : Option Addr) (la ca n low : Nat) (I : Int) (W : World) (h : N32 W ao la n) (hI : I = (low : Int)) (hla : la ≤ 1000000000) (hlow : low ≤ 100000000000) :
    Calls Tryz.prog 78 #[.slice ao la ca, .int .i64 I] W (fun e w' => e = .returned (.int .u64 ((n / 2 ^ low % 18446744073709551616 : Nat) : Int)) ∧ Drew W w') := by
  subst hI
  obtain ⟨xs, hs, hd, ht, hv⟩ := h
  obtain ⟨i, hi⟩ : ∃ i, i = low / 32 := ⟨_, rfl⟩
  obtain ⟨s, hss⟩ : ∃ s, s = low % 32 := ⟨_, rfl⟩
  have hs32 : s < 32 := by omega
  have hlo : low = 32 * i + s := by omega
  have hx0 := hd.get B32_pos i
  have hx1 := hd.get B32_pos (i + 1)
  have hx2 := hd.get B32_pos (i + 2)
  have hwin := win_val hd i s hs32
  rw [← hlo, hv] at hwin
  obtain ⟨x0, e0⟩ : ∃ x, x = xs[i]?.getD 0 := ⟨_, rfl⟩
  obtain ⟨x1, e1⟩ : ∃ x, x = xs[i + 1]?.getD 0 := ⟨_, rfl⟩
  obtain ⟨x2, e2⟩ : ∃ x, x = xs[i + 2]?.getD 0 := ⟨_, rfl⟩
  rw [← e0, ← e1, ← e2] at hwin
  rw [← e0, B32_eq] at hx0
  rw [← e1, B32_eq] at hx1
  rw [← e2, B32_eq] at hx2
  have H := Lib.hid hs
  have E0 := Lib.hid e0
  have E1 := Lib.hid e1
  have E2 := Lib.hid e2
  have HW := Lib.hid hwin
  have t1 : (low : Int).tdiv 32 = (i : Int) := by rw [Int.tdiv_eq_ediv_of_nonneg (Int.natCast_nonneg _)]; omega
  have t2 : (low : Int).tmod 32 = (s : Int) := by rw [Int.tmod_eq_emod_of_nonneg (Int.natCast_nonneg _)]; omega
  have t3 : (low : Int) / 32 = (i : Int) := by omega
  have t4 : (low : Int) % 32 = (s : Int) := by omega
  obtain ⟨k, hk⟩ : ∃ k, k = 64 - s := ⟨_, rfl⟩
  have hk0 : 32 < k := by omega
  have hk1 : k ≤ 64 := by omega
  have t5 : (64 : Int) - (s : Int) = (k : Int) := by omega
  have HK := Lib.hid hk
  have s0 : (0 : Int) ≤ (s : Int) := by omega
  have s1 : (s : Int) < 32 := by omega
  clear hs hd ht hv e0 e1 e2 hwin hi hss hlo hk
  have ho : bits BinOp.or IntKind.u64 (x0 : Int) ((x1 : Int) * 4294967296) = ((x0 + x1 * 4294967296 : Nat) : Int) := or_shift x0 x1 32 4294967296 (by omega) (by decide) (by omega) (by omega)
  obtain ⟨p, hp⟩ : ∃ p, p = x0 + x1 * 4294967296 := ⟨_, rfl⟩
  rw [← hp] at ho
  have hp2 : p < 18446744073709551616 := by omega
  have HP := Lib.hid hp
  clear hp
  go_enter Tryz.func78, Tryz.ntmps78
  go_wp2_with fail
  refine (digit_any _ _ _ xs _ i _ H.out rfl).mono ?_
  rw [← E0.out]
  rintro e w2 ⟨rfl, rfl⟩
  go_wp2_with fail
  refine (digit_any _ _ _ xs _ (i + 1) _ H.out (by omega)).mono ?_
  rw [← E1.out]
  rintro e w2 ⟨rfl, rfl⟩
  go_wp2_with fail
  go_quiet ((go_at_call 102; exact digit_quiet _ _ _ xs _ (i + 2) x2 _ _ H.out (by omega) E2.out))
  go_wp2
  go_ret
  refine ⟨ret_int ?_, ⟨nq, rfl⟩⟩
  rw [win_bits hp2 (by omega) HK.out, HW.out, HP.out, HK.out]
end Go.Proofs.YtcgnmihabkgecaaGreat

/- foresee. -/
set_option linter.unusedVariables false
namespace Go.Proofs.YtcgnmihabkgecaaGreat
open Go.RowKit

def ForeOut (A B : Nat) (W : World) (e : Ending) (w' : World) : Prop :=
  ∃ (α β γ δ : Nat) (odd : Bool), e = .returned (.agg #[.int .u64 (α : Int), .int .u64 (β : Int), .int .u64 (γ : Int), .int .u64 (δ : Int), .bool odd]) ∧ (β = 0 ∨ Fore A B α β γ δ odd) ∧ Below W.heap.size W w'

def ForeRel (A B : Nat) (W : World) (av bv cv dv : Value) (wr : World) : Prop :=
  ∃ (a b α β na nb la lb : Nat) (odd : Bool), av = .int .u64 (a : Int) ∧ bv = .int .u64 (b : Int) ∧ cv = .int .u64 (la : Int) ∧ dv = .int .u64 (lb : Int) ∧
    Fr W wr [(100, #[.int .u64 0, .int .u64 0, .int .u64 0, .int .u64 0, .bool false]), (100, #[.int .u64 (α : Int), .int .u64 (β : Int), .int .u64 (na : Int), .int .u64 (nb : Int), .bool odd])] ∧
    ForeInv A B a b na nb la lb odd ∧ (β = 0 ∨ Fore A B α β na nb odd)

set_option maxRecDepth 8000 in
set_option maxHeartbeats 2000000 in
theorem foresee_any (A B : Nat) (X Y : Int) (W : World) (hX : X = (A : Int)) (hY : Y = (B : Int)) (hA : A < 18446744073709551616) (hBA : B ≤ A) :
    Calls Tryz.prog 77 #[.int .u64 X, .int .u64 Y] W (ForeOut A B W) := by
  subst hX hY
  have hf : Fr W ((W.alloc (.cells #[.int .u64 0, .int .u64 0, .int .u64 0, .int .u64 0, .bool false] 100)).alloc (.cells #[.int .u64 0, .int .u64 0, .int .u64 1, .int .u64 0, .bool true] 100))
      [(100, #[.int .u64 0, .int .u64 0, .int .u64 0, .int .u64 0, .bool false]), (100, #[.int .u64 0, .int .u64 0, .int .u64 1, .int .u64 0, .bool true])] :=
    ((Fr.nil W).alloc rfl _ _).alloc (by simp) _ _
  have HF := Lib.hid hf
  clear hf
  go_enter Tryz.func77, Tryz.ntmps77
  go_wp2
  go_loopw [0, 1, 6, 7] (fun av bv cv dv wr => ForeRel A B W av bv cv dv wr) (fun av bv cv dv _ => (intOf bv).toNat)
  case atStart =>
    exact ⟨A, B, 0, 0, 1, 0, 0, 1, true, rfl, rfl, rfl, rfl, HF.out, ForeInv.start hBA, .inl rfl⟩
  case round =>
    obtain ⟨a, b, α, β, na, nb, la, lb, odd, rfl, rfl, rfl, rfl, hf, hi, ho⟩ := hrel
    have GF := Lib.hid hf
    have GI := Lib.hid hi
    have GO := Lib.hid ho
    have hba : b ≤ a := hi.2.2.1
    have hlb1 : 1 ≤ lb := hi.2.2.2.2.1
    have c0 : wr.cell? ⟨W.heap.size + 1, 0, none⟩ = some (.int .u64 (α : Int)) := hf.cell 1 0 rfl rfl
    have c1 : wr.cell? ⟨W.heap.size + 1, 1, none⟩ = some (.int .u64 (β : Int)) := hf.cell 1 1 rfl rfl
    have c2 : wr.cell? ⟨W.heap.size + 1, 2, none⟩ = some (.int .u64 (na : Int)) := hf.cell 1 2 rfl rfl
    have c3 : wr.cell? ⟨W.heap.size + 1, 3, none⟩ = some (.int .u64 (nb : Int)) := hf.cell 1 3 rfl rfl
    have c4 : wr.cell? ⟨W.heap.size + 1, 4, none⟩ = some (.bool odd) := hf.cell 1 4 rfl rfl
    have f0 : wr.frozen? ⟨W.heap.size + 1, 0, none⟩ = false := hf.frozen 1 0 rfl
    have f1 : wr.frozen? ⟨W.heap.size + 1, 1, none⟩ = false := hf.frozen 1 1 rfl
    have f2 : wr.frozen? ⟨W.heap.size + 1, 2, none⟩ = false := hf.frozen 1 2 rfl
    have f3 : wr.frozen? ⟨W.heap.size + 1, 3, none⟩ = false := hf.frozen 1 3 rfl
    have f4 : wr.frozen? ⟨W.heap.size + 1, 4, none⟩ = false := hf.frozen 1 4 rfl
    by_cases h1 : lb ≤ b
    · obtain ⟨k1, k2, k3, k4, k5, k6, k7, k8, k9, k10⟩ := hi.bounds h1
      obtain ⟨q, hq⟩ : ∃ q, q = a / b := ⟨_, rfl⟩
      obtain ⟨r, hr⟩ : ∃ r, r = a % b := ⟨_, rfl⟩
      rw [← hq] at k2 k3 k4 k5
      have hb0 : 0 < b := by omega
      have t1 : (lb : Int) ≤ (b : Int) := by omega
      have tq : (a : Int).tdiv (b : Int) = (q : Int) := by rw [hq]; exact (Int.ofNat_tdiv _ _).symm
      have tr : (a : Int).tmod (b : Int) = (r : Int) := by rw [hr]; exact (Int.ofNat_tmod _ _).symm
      have tq2 : (a : Int) / (b : Int) = (q : Int) := by rw [hq]; exact (Int.natCast_ediv _ _).symm
      have tr2 : (a : Int) % (b : Int) = (r : Int) := by rw [hr]; exact (Int.natCast_emod _ _).symm
      have hrb : r < b := by rw [hr]; exact Nat.mod_lt _ hb0
      have hqa : q ≤ a := by rw [hq]; exact Nat.div_le_self _ _
      have tw : IntKind.u64.wrap (q : Int) = (q : Int) := u64_wrap_nat q (by omega)
      obtain ⟨s, hs⟩ : ∃ s : Nat, s = q * la := ⟨_, rfl⟩
      obtain ⟨t, ht⟩ : ∃ t : Nat, t = q * lb := ⟨_, rfl⟩
      have hs2 : (q : Int) * (la : Int) = (s : Int) := by rw [hs, Int.natCast_mul]
      have ht2 : (q : Int) * (lb : Int) = (t : Int) := by rw [ht, Int.natCast_mul]
      rw [← ht] at k2 k4
      rw [← hs] at k3 k5
      have HQ := Lib.hid hq
      have HR := Lib.hid hr
      have HS := Lib.hid hs
      have HT := Lib.hid ht
      clear hf hi ho hq hr hs ht
      by_cases h2 : nb + lb ≤ a - b
      · have t2 : (nb : Int) + (lb : Int) ≤ (a : Int) - (b : Int) := by omega
        have t3 : (0 : Int) < (b : Int) := by omega
        go_wp2
        go_quiet (fail)
        go_wp2
        refine ⟨?_, by simp [intOf]; omega⟩
        have hn := GI.out.next hb0
        have hfo : Hid (α = α) := rfl
        rw [← HQ.out, ← HR.out, ← HS.out, ← HT.out] at hn
        have hF := ((((((GF.out.later (below_drewN1 (Below.refl _ wr) nq)).set 1 0 rfl (.int .u64 (na : Int))).set 1 2 rfl (.int .u64 (la : Int))).set 1 1 rfl (.int .u64 (nb : Int))).set 1 3 rfl (.int .u64 (lb : Int))).set 1 4 rfl (.bool (!odd)))
        refine ⟨b, r, na, nb, la, lb, na + s, nb + t, !odd, rfl, rfl, by rw [Int.natCast_add], by rw [Int.natCast_add], hF, hn, ?_⟩
        by_cases hnb : nb = 0
        · exact .inl hnb
        · exact .inr (GI.out.fore hA h1 h2 hnb)
      · have t2 : ¬ (nb : Int) + (lb : Int) ≤ (a : Int) - (b : Int) := by omega
        have g0 : wr.cell? ⟨W.heap.size, 0, none⟩ = some (.int .u64 0) := GF.out.cell 0 0 rfl rfl
        have k0f : wr.frozen? ⟨W.heap.size, 0, none⟩ = false := GF.out.frozen 0 0 rfl
        have g1 : wr.cell? ⟨W.heap.size, 1, none⟩ = some (.int .u64 0) := GF.out.cell 0 1 rfl rfl
        have k1f : wr.frozen? ⟨W.heap.size, 1, none⟩ = false := GF.out.frozen 0 1 rfl
        have g2 : wr.cell? ⟨W.heap.size, 2, none⟩ = some (.int .u64 0) := GF.out.cell 0 2 rfl rfl
        have k2f : wr.frozen? ⟨W.heap.size, 2, none⟩ = false := GF.out.frozen 0 2 rfl
        have g3 : wr.cell? ⟨W.heap.size, 3, none⟩ = some (.int .u64 0) := GF.out.cell 0 3 rfl rfl
        have k3f : wr.frozen? ⟨W.heap.size, 3, none⟩ = false := GF.out.frozen 0 3 rfl
        have g4 : wr.cell? ⟨W.heap.size, 4, none⟩ = some (.bool false) := GF.out.cell 0 4 rfl rfl
        have k4f : wr.frozen? ⟨W.heap.size, 4, none⟩ = false := GF.out.frozen 0 4 rfl
        go_wp2
        have hF := ((((GF.out.set 0 0 rfl (.int .u64 (α : Int))).set 0 1 rfl (.int .u64 (β : Int))).set 0 2 rfl (.int .u64 (na : Int))).set 0 3 rfl (.int .u64 (nb : Int))).set 0 4 rfl (.bool odd)
        have e0 := hF.cell 0 0 rfl rfl
        have e1 := hF.cell 0 1 rfl rfl
        have e2 := hF.cell 0 2 rfl rfl
        have e3 := hF.cell 0 3 rfl rfl
        have e4 := hF.cell 0 4 rfl rfl
        exact bodyPost_ret (v := .agg #[.int .u64 (α : Int), .int .u64 (β : Int), .int .u64 (na : Int), .int .u64 (nb : Int), .bool odd]) (by simp only [Nat.add_zero] at e0 e1 e2 e3 e4; simp [results, Tryz.results77, go_sem, e0, e1, e2, e3, e4]) rfl ⟨α, β, na, nb, odd, rfl, GO.out, hF.below⟩
    · have t1 : ¬ (lb : Int) ≤ (b : Int) := by omega
      clear hf hi ho
      have g0 : wr.cell? ⟨W.heap.size, 0, none⟩ = some (.int .u64 0) := GF.out.cell 0 0 rfl rfl
      have k0f : wr.frozen? ⟨W.heap.size, 0, none⟩ = false := GF.out.frozen 0 0 rfl
      have g1 : wr.cell? ⟨W.heap.size, 1, none⟩ = some (.int .u64 0) := GF.out.cell 0 1 rfl rfl
      have k1f : wr.frozen? ⟨W.heap.size, 1, none⟩ = false := GF.out.frozen 0 1 rfl
      have g2 : wr.cell? ⟨W.heap.size, 2, none⟩ = some (.int .u64 0) := GF.out.cell 0 2 rfl rfl
      have k2f : wr.frozen? ⟨W.heap.size, 2, none⟩ = false := GF.out.frozen 0 2 rfl
      have g3 : wr.cell? ⟨W.heap.size, 3, none⟩ = some (.int .u64 0) := GF.out.cell 0 3 rfl rfl
      have k3f : wr.frozen? ⟨W.heap.size, 3, none⟩ = false := GF.out.frozen 0 3 rfl
      have g4 : wr.cell? ⟨W.heap.size, 4, none⟩ = some (.bool false) := GF.out.cell 0 4 rfl rfl
      have k4f : wr.frozen? ⟨W.heap.size, 4, none⟩ = false := GF.out.frozen 0 4 rfl
      go_wp2
      have hF := ((((GF.out.set 0 0 rfl (.int .u64 (α : Int))).set 0 1 rfl (.int .u64 (β : Int))).set 0 2 rfl (.int .u64 (na : Int))).set 0 3 rfl (.int .u64 (nb : Int))).set 0 4 rfl (.bool odd)
      have e0 := hF.cell 0 0 rfl rfl
      have e1 := hF.cell 0 1 rfl rfl
      have e2 := hF.cell 0 2 rfl rfl
      have e3 := hF.cell 0 3 rfl rfl
      have e4 := hF.cell 0 4 rfl rfl
      exact bodyPost_ret (v := .agg #[.int .u64 (α : Int), .int .u64 (β : Int), .int .u64 (na : Int), .int .u64 (nb : Int), .bool odd]) (by simp only [Nat.add_zero] at e0 e1 e2 e3 e4; simp [results, Tryz.results77, go_sem, e0, e1, e2, e3, e4]) rfl ⟨α, β, na, nb, odd, rfl, GO.out, hF.below⟩
end Go.Proofs.YtcgnmihabkgecaaGreat

/- (num.steps).apply. -/
set_option linter.unusedVariables false
namespace Go.Proofs.YtcgnmihabkgecaaGreat
open Go.RowKit

def ApplyPost (A B : Nat) (W : World) (e : Ending) (w' : World) : Prop :=
  ∃ ao la ca bo lb cb, e = .returned (.tuple #[.slice ao la ca, .slice bo lb cb]) ∧ N32 w' ao la A ∧ N32 w' bo lb B ∧ Below W.heap.size W w'

set_option maxRecDepth 8000 in
set_option maxHeartbeats 4000000 in
theorem apply_odd (ao bo : Option Addr) (la lb ca cb A B α β γ δ A' B' : Nat) (W : World) (ha : N32 W ao la A) (hb : N32 W bo lb B) (hlA : la ≤ 1000000000) (hlB : lb ≤ 1000000000)
    (hα : α < 4294967296) (hβ : β < 4294967296) (hγ : γ < 4294967296) (hδ : δ < 4294967296) (h1 : β * B = α * A + A') (h2 : γ * A = δ * B + B') (h3 : A' ≤ A) (h4 : B' ≤ A) :
    Calls Tryz.prog 79 #[.agg #[.int .u64 (α : Int), .int .u64 (β : Int), .int .u64 (γ : Int), .int .u64 (δ : Int), .bool true], .slice ao la ca, .slice bo lb cb] W (ApplyPost A' B' W) := by
  have hf : Fr W (W.alloc (.cells #[.int .u64 (α : Int), .int .u64 (β : Int), .int .u64 (γ : Int), .int .u64 (δ : Int), .bool true] 100)) [(100, #[.int .u64 (α : Int), .int .u64 (β : Int), .int .u64 (γ : Int), .int .u64 (δ : Int), .bool true])] := (Fr.nil W).alloc rfl _ _
  have HF := Lib.hid hf
  have HA := Lib.hid (ha.keep hf.below)
  have HB := Lib.hid (hb.keep hf.below)
  have H1 := Lib.hid h1
  have H2 := Lib.hid h2
  clear ha hb h1 h2 hf
  go_enter Tryz.func79, Tryz.ntmps79
  go_wp2_with fail
  obtain ⟨W1, hW1⟩ : ∃ W1, W1 = W.alloc (.cells #[.int .u64 (α : Int), .int .u64 (β : Int), .int .u64 (γ : Int), .int .u64 (δ : Int), .bool true] 100) := ⟨_, rfl⟩
  rw [← hW1] at HF HA HB ⊢
  clear hW1
  have c0 : W1.cell? ⟨W.heap.size, 0, none⟩ = some (.int .u64 (α : Int)) := HF.out.cell 0 0 rfl rfl
  have c1 : W1.cell? ⟨W.heap.size, 1, none⟩ = some (.int .u64 (β : Int)) := HF.out.cell 0 1 rfl rfl
  have c2 : W1.cell? ⟨W.heap.size, 2, none⟩ = some (.int .u64 (γ : Int)) := HF.out.cell 0 2 rfl rfl
  have c3 : W1.cell? ⟨W.heap.size, 3, none⟩ = some (.int .u64 (δ : Int)) := HF.out.cell 0 3 rfl rfl
  have c4 : W1.cell? ⟨W.heap.size, 4, none⟩ = some (.bool true) := HF.out.cell 0 4 rfl rfl
  go_region_held3 (fun w' => w'.cell? ⟨W.heap.size, 0, none⟩ = some (.int .u64 (α : Int)) ∧ w'.cell? ⟨W.heap.size, 1, none⟩ = some (.int .u64 (β : Int)) ∧ w'.cell? ⟨W.heap.size, 2, none⟩ = some (.int .u64 (γ : Int)) ∧ w'.cell? ⟨W.heap.size, 3, none⟩ = some (.int .u64 (δ : Int)) ∧ w'.cell? ⟨W.heap.size, 4, none⟩ = some (.bool true)) (go_keep)
    (first | (go_at_call 108; refine (combine_any _ _ _ _ _ _ A γ B δ B' _ _ w1 (HA.out.keep HB1.out) (HB.out.keep HB1.out) hlA hlB rfl rfl hγ hδ H2.out (.inl h4)).mono ?_; rintro e w2 ⟨o2, l2, c2_, rfl, hr2, hb2⟩; have HB2 := Lib.hid hb2; have HR2 := Lib.hid hr2; have HR12 := Lib.hid (HR1.out.keep hb2); have HF2 := Lib.hid (HF1.out.later hb2); clear hr2 hb2; have d20 : w2.cell? ⟨W.heap.size, 0, none⟩ = some (.int .u64 (α : Int)) := HF2.out.cell 0 0 rfl rfl; have d21 : w2.cell? ⟨W.heap.size, 1, none⟩ = some (.int .u64 (β : Int)) := HF2.out.cell 0 1 rfl rfl; have d22 : w2.cell? ⟨W.heap.size, 2, none⟩ = some (.int .u64 (γ : Int)) := HF2.out.cell 0 2 rfl rfl; have d23 : w2.cell? ⟨W.heap.size, 3, none⟩ = some (.int .u64 (δ : Int)) := HF2.out.cell 0 3 rfl rfl; have d24 : w2.cell? ⟨W.heap.size, 4, none⟩ = some (.bool true) := HF2.out.cell 0 4 rfl rfl) | (go_at_call 108; refine (combine_any _ _ _ _ _ _ B β A α A' _ _ W1.drew (HB.out.keep (Below.refl _ _).drew) (HA.out.keep (Below.refl _ _).drew) hlB hlA rfl rfl hβ hα H1.out (.inr h3)).mono ?_; rintro e w1 ⟨o1, l1, c1_, rfl, hr1, hb1⟩; have HB1 := Lib.hid (below_of_drew hb1); have HR1 := Lib.hid hr1; have HF1 := Lib.hid (HF.out.later HB1.out); clear hr1 hb1; have d10 : w1.cell? ⟨W.heap.size, 0, none⟩ = some (.int .u64 (α : Int)) := HF1.out.cell 0 0 rfl rfl; have d11 : w1.cell? ⟨W.heap.size, 1, none⟩ = some (.int .u64 (β : Int)) := HF1.out.cell 0 1 rfl rfl; have d12 : w1.cell? ⟨W.heap.size, 2, none⟩ = some (.int .u64 (γ : Int)) := HF1.out.cell 0 2 rfl rfl; have d13 : w1.cell? ⟨W.heap.size, 3, none⟩ = some (.int .u64 (δ : Int)) := HF1.out.cell 0 3 rfl rfl; have d14 : w1.cell? ⟨W.heap.size, 4, none⟩ = some (.bool true) := HF1.out.cell 0 4 rfl rfl))
  go_wp2
  go_ret2
  exact ⟨o1, l1, c1_, o2, l2, c2_, rfl, HR12.out, HR2.out, HF2.out.below⟩

set_option maxRecDepth 8000 in
set_option maxHeartbeats 4000000 in
theorem apply_even (ao bo : Option Addr) (la lb ca cb A B α β γ δ A' B' : Nat) (W : World) (ha : N32 W ao la A) (hb : N32 W bo lb B) (hlA : la ≤ 1000000000) (hlB : lb ≤ 1000000000)
    (hα : α < 4294967296) (hβ : β < 4294967296) (hγ : γ < 4294967296) (hδ : δ < 4294967296) (h1 : α * A = β * B + A') (h2 : δ * B = γ * A + B') (h3 : A' ≤ A) (h4 : B' ≤ A) :
    Calls Tryz.prog 79 #[.agg #[.int .u64 (α : Int), .int .u64 (β : Int), .int .u64 (γ : Int), .int .u64 (δ : Int), .bool false], .slice ao la ca, .slice bo lb cb] W (ApplyPost A' B' W) := by
  have hf : Fr W (W.alloc (.cells #[.int .u64 (α : Int), .int .u64 (β : Int), .int .u64 (γ : Int), .int .u64 (δ : Int), .bool false] 100)) [(100, #[.int .u64 (α : Int), .int .u64 (β : Int), .int .u64 (γ : Int), .int .u64 (δ : Int), .bool false])] := (Fr.nil W).alloc rfl _ _
  have HF := Lib.hid hf
  have HA := Lib.hid (ha.keep hf.below)
  have HB := Lib.hid (hb.keep hf.below)
  have H1 := Lib.hid h1
  have H2 := Lib.hid h2
  clear ha hb h1 h2 hf
  go_enter Tryz.func79, Tryz.ntmps79
  go_wp2_with fail
  obtain ⟨W1, hW1⟩ : ∃ W1, W1 = W.alloc (.cells #[.int .u64 (α : Int), .int .u64 (β : Int), .int .u64 (γ : Int), .int .u64 (δ : Int), .bool false] 100) := ⟨_, rfl⟩
  rw [← hW1] at HF HA HB ⊢
  clear hW1
  have c0 : W1.cell? ⟨W.heap.size, 0, none⟩ = some (.int .u64 (α : Int)) := HF.out.cell 0 0 rfl rfl
  have c1 : W1.cell? ⟨W.heap.size, 1, none⟩ = some (.int .u64 (β : Int)) := HF.out.cell 0 1 rfl rfl
  have c2 : W1.cell? ⟨W.heap.size, 2, none⟩ = some (.int .u64 (γ : Int)) := HF.out.cell 0 2 rfl rfl
  have c3 : W1.cell? ⟨W.heap.size, 3, none⟩ = some (.int .u64 (δ : Int)) := HF.out.cell 0 3 rfl rfl
  have c4 : W1.cell? ⟨W.heap.size, 4, none⟩ = some (.bool false) := HF.out.cell 0 4 rfl rfl
  go_region_held3 (fun w' => w'.cell? ⟨W.heap.size, 0, none⟩ = some (.int .u64 (α : Int)) ∧ w'.cell? ⟨W.heap.size, 1, none⟩ = some (.int .u64 (β : Int)) ∧ w'.cell? ⟨W.heap.size, 2, none⟩ = some (.int .u64 (γ : Int)) ∧ w'.cell? ⟨W.heap.size, 3, none⟩ = some (.int .u64 (δ : Int)) ∧ w'.cell? ⟨W.heap.size, 4, none⟩ = some (.bool false)) (go_keep)
    (first | (go_at_call 108; refine (combine_any _ _ _ _ _ _ B δ A γ B' _ _ w1 (HB.out.keep HB1.out) (HA.out.keep HB1.out) hlB hlA rfl rfl hδ hγ H2.out (.inr h4)).mono ?_; rintro e w2 ⟨o2, l2, c2_, rfl, hr2, hb2⟩; have HB2 := Lib.hid hb2; have HR2 := Lib.hid hr2; have HR12 := Lib.hid (HR1.out.keep hb2); have HF2 := Lib.hid (HF1.out.later hb2); clear hr2 hb2; have d20 : w2.cell? ⟨W.heap.size, 0, none⟩ = some (.int .u64 (α : Int)) := HF2.out.cell 0 0 rfl rfl; have d21 : w2.cell? ⟨W.heap.size, 1, none⟩ = some (.int .u64 (β : Int)) := HF2.out.cell 0 1 rfl rfl; have d22 : w2.cell? ⟨W.heap.size, 2, none⟩ = some (.int .u64 (γ : Int)) := HF2.out.cell 0 2 rfl rfl; have d23 : w2.cell? ⟨W.heap.size, 3, none⟩ = some (.int .u64 (δ : Int)) := HF2.out.cell 0 3 rfl rfl; have d24 : w2.cell? ⟨W.heap.size, 4, none⟩ = some (.bool false) := HF2.out.cell 0 4 rfl rfl) | (go_at_call 108; refine (combine_any _ _ _ _ _ _ A α B β A' _ _ W1.drew (HA.out.keep (Below.refl _ _).drew) (HB.out.keep (Below.refl _ _).drew) hlA hlB rfl rfl hα hβ H1.out (.inl h3)).mono ?_; rintro e w1 ⟨o1, l1, c1_, rfl, hr1, hb1⟩; have HB1 := Lib.hid (below_of_drew hb1); have HR1 := Lib.hid hr1; have HF1 := Lib.hid (HF.out.later HB1.out); clear hr1 hb1; have d10 : w1.cell? ⟨W.heap.size, 0, none⟩ = some (.int .u64 (α : Int)) := HF1.out.cell 0 0 rfl rfl; have d11 : w1.cell? ⟨W.heap.size, 1, none⟩ = some (.int .u64 (β : Int)) := HF1.out.cell 0 1 rfl rfl; have d12 : w1.cell? ⟨W.heap.size, 2, none⟩ = some (.int .u64 (γ : Int)) := HF1.out.cell 0 2 rfl rfl; have d13 : w1.cell? ⟨W.heap.size, 3, none⟩ = some (.int .u64 (δ : Int)) := HF1.out.cell 0 3 rfl rfl; have d14 : w1.cell? ⟨W.heap.size, 4, none⟩ = some (.bool false) := HF1.out.cell 0 4 rfl rfl))
  go_wp2
  go_ret2
  exact ⟨o1, l1, c1_, o2, l2, c2_, rfl, HR12.out, HR2.out, HF2.out.below⟩

theorem apply_any (ao bo : Option Addr) (la lb ca cb A B α β γ δ A' B' : Nat) (odd : Bool) (W : World) (ha : N32 W ao la A) (hb : N32 W bo lb B) (hlA : la ≤ 1000000000) (hlB : lb ≤ 1000000000)
    (hα : α < 4294967296) (hβ : β < 4294967296) (hγ : γ < 4294967296) (hδ : δ < 4294967296) (h : Stepped A B α β γ δ odd A' B') (h3 : A' ≤ A) (h4 : B' ≤ A) :
    Calls Tryz.prog 79 #[.agg #[.int .u64 (α : Int), .int .u64 (β : Int), .int .u64 (γ : Int), .int .u64 (δ : Int), .bool odd], .slice ao la ca, .slice bo lb cb] W (ApplyPost A' B' W) := by
  cases odd with
  | true => exact apply_odd ao bo la lb ca cb A B α β γ δ A' B' W ha hb hlA hlB hα hβ hγ hδ (h.odd rfl).1 (h.odd rfl).2 h3 h4
  | false => exact apply_even ao bo la lb ca cb A B α β γ δ A' B' W ha hb hlA hlB hα hβ hγ hδ (h.even rfl).1 (h.even rfl).2 h3 h4
end Go.Proofs.YtcgnmihabkgecaaGreat

/- Plain facts for the long division. No program. -/
set_option linter.unusedVariables false
namespace Go.Proofs.YtcgnmihabkgecaaGreat

/-- the estimate is not too great, and fits into a digit -/
theorem est_le {B n P D lp ld high dt : Nat} (hB : 0 < B) (hP : P = lp + B ^ n * high) (hlp : lp < B ^ n) (hD : D = ld + B ^ n * dt) (hld : ld < B ^ n) (hlt : P < D * B) :
    high / (dt + 1) * D ≤ P ∧ high / (dt + 1) < B := by
  have h1 : D ≤ B ^ n * (dt + 1) := by rw [Nat.mul_add]; omega
  have h2 : high / (dt + 1) * (dt + 1) ≤ high := Nat.div_mul_le_self _ _
  constructor
  · have h3 : high / (dt + 1) * D ≤ high / (dt + 1) * (B ^ n * (dt + 1)) := Nat.mul_le_mul_left _ h1
    have h4 : high / (dt + 1) * (B ^ n * (dt + 1)) = B ^ n * (high / (dt + 1) * (dt + 1)) := by
      rw [Nat.mul_left_comm]
    have h5 : B ^ n * (high / (dt + 1) * (dt + 1)) ≤ B ^ n * high := Nat.mul_le_mul_left _ h2
    omega
  · have h3 : B ^ n * high < B ^ n * ((dt + 1) * B) := by
      have : D * B ≤ B ^ n * (dt + 1) * B := Nat.mul_le_mul_right _ h1
      rw [Nat.mul_assoc] at this
      omega
    have h4 := Nat.lt_of_mul_lt_mul_left h3
    rw [Nat.div_lt_iff_lt_mul (by omega)]
    rw [Nat.mul_comm]
    exact h4

/-- the rest behind the digits that count -/
theorem post_zero {B a m : Nat} {pre seg post : List Nat} (hB : 0 < B) (ha : pre.length = a) (hm : seg.length = m) (h : val B (pre ++ seg ++ post) < B ^ (a + m)) : val B post = 0 := by
  rw [val_append, List.length_append, ha, hm] at h
  rcases Nat.eq_zero_or_pos (val B post) with h0 | h0
  · exact h0
  · have : B ^ (a + m) * 1 ≤ B ^ (a + m) * val B post := Nat.mul_le_mul_left _ h0
    omega

theorem three_val {B : Nat} (pre seg post : List Nat) (hp : val B post = 0) : val B (pre ++ seg ++ post) = val B pre + B ^ pre.length * val B seg := by
  rw [val_append, val_append, hp]; simp

/-- one subtraction of the long division -/
theorem div_sub {B N D a q t R R' S S' p Q Q' : Nat} (hR : R = p + B ^ a * S) (hR' : R' = p + B ^ a * S') (hS : S' + t * D = S) (hQ' : Q' = Q + B ^ a * t) (hN : Q * D + R = N) (hlt : q * D * B ^ a + R < D * B ^ (a + 1)) :
    Q' * D + R' = N ∧ (q + t) * D * B ^ a + R' < D * B ^ (a + 1) ∧ R' + B ^ a * (t * D) = R ∧ q + t < B := by
  have e1 : B ^ a * S = B ^ a * S' + B ^ a * (t * D) := by rw [← hS, Nat.mul_add]
  have e2 : R' + B ^ a * (t * D) = R := by omega
  have e3 : Q' * D = Q * D + B ^ a * (t * D) := by rw [hQ', Nat.add_mul, Nat.mul_assoc]
  have e4 : (q + t) * D * B ^ a = q * D * B ^ a + B ^ a * (t * D) := by
    rw [Nat.add_mul, Nat.add_mul, Nat.mul_comm (t * D)]
  refine ⟨by omega, by omega, e2, ?_⟩
  have h1 : (q + t) * D * B ^ a < D * B ^ (a + 1) := by omega
  have h2 : (q + t) * (D * B ^ a) < B * (D * B ^ a) := by
    rw [← Nat.mul_assoc]
    have : D * B ^ (a + 1) = B * (D * B ^ a) := by rw [Nat.pow_succ, ← Nat.mul_assoc, Nat.mul_comm]
    omega
  exact Nat.lt_of_mul_lt_mul_right h2

/-- one step down -/
theorem div_down {B D a R p S : Nat} (hR : R = p + B ^ (a + 1) * S) (hp : p < B ^ (a + 1)) (hS : S < D) : R < D * B ^ (a + 1) := by
  have : B ^ (a + 1) * (S + 1) ≤ B ^ (a + 1) * D := Nat.mul_le_mul_left _ hS
  rw [Nat.mul_comm D]
  rw [Nat.mul_add] at this
  omega

theorem div_start {B A b la lb s : Nat} (hs : 0 < s) (hA : A < B ^ la) (hb : B ^ (lb - 1) ≤ b) (hl : lb ≤ la) (h0 : 0 < lb) : A * s < b * s * B ^ (la - lb + 1) := by
  have h1 : B ^ la = B ^ (lb - 1) * B ^ (la - lb + 1) := by rw [← Nat.pow_add]; congr 1; omega
  have h2 : B ^ (lb - 1) * B ^ (la - lb + 1) ≤ b * B ^ (la - lb + 1) := Nat.mul_le_mul_right _ hb
  have h3 : A < b * B ^ (la - lb + 1) := by omega
  have h4 := Nat.mul_lt_mul_of_pos_right h3 hs
  have e : b * B ^ (la - lb + 1) * s = b * s * B ^ (la - lb + 1) := by rw [Nat.mul_right_comm]
  omega

theorem div_end {A b s Q R : Nat} (hs : 0 < s) (hb : 0 < b) (h : Q * (b * s) + R = A * s) (hR : R < b * s) : Q = A / b ∧ R / s = A % b := by
  have hA := Nat.div_add_mod A b
  have hm := Nat.mod_lt A hb
  have h1 : (A / b) * (b * s) + (A % b) * s = A * s := by
    rw [← Nat.mul_assoc, ← Nat.add_mul, Nat.mul_comm (A / b) b, hA]
  have h2 : (A % b) * s < b * s := Nat.mul_lt_mul_of_pos_right hm hs
  have hbs : 0 < b * s := Nat.mul_pos hb hs
  have hq : Q = A / b := by
    have e1 : (A * s) / (b * s) = Q := by
      rw [← h, Nat.mul_comm Q, Nat.mul_add_div hbs, Nat.div_eq_of_lt hR, Nat.add_zero]
    have e2 : (A * s) / (b * s) = A / b := Nat.mul_div_mul_right _ _ hs
    omega
  refine ⟨hq, ?_⟩
  subst hq
  have : R = (A % b) * s := by omega
  rw [this, Nat.mul_div_cancel _ hs]

end Go.Proofs.YtcgnmihabkgecaaGreat

/- estimate. -/
set_option linter.unusedVariables false
namespace Go.Proofs.YtcgnmihabkgecaaGreat
open Go.RowKit

def EstPost (t : Nat) (W : World) (e : Ending) (w' : World) : Prop := e = .returned (.int .u32 (t : Int)) ∧ ∃ m, w' = W.drewN m

set_option maxHeartbeats 1000000 in
theorem estimate_raw (po bo : Option Addr) (lp lb n pc bc : Nat) (seg ds : List Nat) (W : World) (hlp : lp = lb + 1) (hlb : lb = n + 1) (hp : Sl .u32 W po lp seg) (hdp : Dig B32 seg) (hb : Sl .u32 W bo lb ds) (hdb : Dig B32 ds) (hn : n ≤ 1000000000)
    (t : Nat) (ht : t = (seg[lb]?.getD 0 * B32 + seg[n]?.getD 0) / (ds[n]?.getD 0 + 1)) (htb : t < B32) :
    Calls Tryz.prog 125 #[.slice po lp pc, .slice bo lb bc] W (EstPost (max t 1) W) := by
  obtain ⟨hpl, pb, pf, hpo, hpc⟩ := hp
  obtain ⟨hbl, bb, bf, hbo, hbc⟩ := hb
  obtain rfl := hpo (by omega)
  obtain rfl := hbo (by omega)
  have c1 := hpc lb (by omega)
  have c2 := hpc n (by omega)
  have c3 := hbc n (by omega)
  have hx := hdp.get B32_pos lb
  have hy := hdp.get B32_pos n
  have hz := hdb.get B32_pos n
  obtain ⟨x, hxe⟩ : ∃ x, x = seg[lb]?.getD 0 := ⟨_, rfl⟩
  obtain ⟨y, hye⟩ : ∃ x, x = seg[n]?.getD 0 := ⟨_, rfl⟩
  obtain ⟨z, hze⟩ : ∃ x, x = ds[n]?.getD 0 := ⟨_, rfl⟩
  rw [← hxe] at c1 hx ht
  rw [← hye] at c2 hy ht
  rw [← hze] at c3 hz ht
  rw [B32_eq] at hx hy hz htb ht
  have HT := Lib.hid ht
  have HLB := Lib.hid hlb
  have b0 : (0 : Int) ≤ (lb : Int) := by omega
  have b1 : (1 : Int) ≤ (lb : Int) := by omega
  have b2 : (lb : Int) < (lp : Int) := by omega
  have b3 : (lb : Int) - 1 < (lp : Int) := by omega
  have b4 : (lb : Int) ≤ 2000000000 := by omega
  have b5 : (lb : Int) - 1 < (lb : Int) := by omega
  have b6 : (0 : Int) ≤ (lb : Int) - 1 := by omega
  have q1 : ((lb : Int) - 1).toNat = n := by omega
  have q3 : IntKind.i64.wrap ((lb : Int) - 1) = (lb : Int) - 1 := IntWalk.i64_in _ (by omega)
  clear hpl hbl hpo hpc hbo hbc hdp hdb hxe hye hze ht hlp hlb
  have ho : bits BinOp.or IntKind.u64 ((x : Int) * 4294967296) (y : Int) = ((x * 4294967296 + y : Nat) : Int) := or_shift' y x 32 4294967296 (by omega) (by decide) (by omega) (by omega)
  have HO := Lib.hid ho
  clear ho
  go_enter Tryz.func125, Tryz.ntmps125
  go_wp2
  go_quiet (fail)
  go_wp2
  go_ret
  refine ⟨ret_int ?_, nq, rfl⟩
  rw [HO.out, Int.tdiv_eq_ediv_of_nonneg (Int.natCast_nonneg _)]
  have e : (((x * 4294967296 + y : Nat) : Int) / ((z : Int) + 1)) = (t : Int) := by
    rw [HT.out, Int.natCast_ediv]; rfl
  rw [e, u64_wrap_nat t (by omega)]
  omega

/-- the estimate of the division of one part -/
theorem estimate_any (po bo : Option Addr) (lp lb pc bc : Nat) (seg ds : List Nat) (W : World) (hlp : lp = lb + 1) (hl0 : 0 < lb) (hp : Sl .u32 W po lp seg) (hdp : Dig B32 seg) (hb : Sl .u32 W bo lb ds) (hdb : Dig B32 ds) (hn : lb ≤ 1000000000)
    (hge : val B32 ds ≤ val B32 seg) (hlt : val B32 seg < val B32 ds * B32) :
    Calls Tryz.prog 125 #[.slice po lp pc, .slice bo lb bc] W fun e w' => ∃ t : Nat, e = .returned (.int .u32 (t : Int)) ∧ 0 < t ∧ t < B32 ∧ t * val B32 ds ≤ val B32 seg ∧ ∃ m, w' = W.drewN m := by
  obtain ⟨n, rfl⟩ : ∃ n, lb = n + 1 := ⟨lb - 1, by omega⟩
  have hsl := hp.len
  have hdl := hb.len
  have hP : val B32 seg = val B32 (seg.take n) + B32 ^ n * (seg[n + 1]?.getD 0 * B32 + seg[n]?.getD 0) := by
    have h1 : seg = seg.take (n + 1 + 1) := (List.take_of_length_le (by omega)).symm
    conv => lhs; rw [h1]
    rw [val_take_succ, val_take_succ, Nat.pow_succ]
    grind
  have hD : val B32 ds = val B32 (ds.take n) + B32 ^ n * ds[n]?.getD 0 := by
    have h1 : ds = ds.take (n + 1) := (List.take_of_length_le (by omega)).symm
    conv => lhs; rw [h1]
    rw [val_take_succ]
  have h1 := val_lt B32_pos (hdp.take n)
  rw [List.length_take, Nat.min_eq_left (by omega)] at h1
  have h2 := val_lt B32_pos (hdb.take n)
  rw [List.length_take, Nat.min_eq_left (by omega)] at h2
  obtain ⟨h3, h4⟩ := est_le B32_pos hP h1 hD h2 hlt
  obtain ⟨t, ht⟩ : ∃ t, t = (seg[n + 1]?.getD 0 * B32 + seg[n]?.getD 0) / (ds[n]?.getD 0 + 1) := ⟨_, rfl⟩
  rw [← ht] at h3 h4
  refine (estimate_raw po bo lp (n + 1) n pc bc seg ds W hlp rfl hp hdp hb hdb (by omega) t ht h4).mono ?_
  rintro e w' ⟨rfl, hw⟩
  refine ⟨max t 1, rfl, by omega, ?_, ?_, hw⟩
  · have : 1 < B32 := by decide
    omega
  · rcases Nat.lt_or_ge t 1 with h | h
    · rw [Nat.max_eq_right (by omega)]; omega
    · rw [Nat.max_eq_left h]; exact h3
end Go.Proofs.YtcgnmihabkgecaaGreat
