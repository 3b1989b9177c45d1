/- shrink: a division by one digit, in place. -/
import Derived.Test.YtdnnjjclklcihaaProd
set_option linter.unusedVariables false
namespace Go.Proofs.Ytdnnjjclklcihaa
open Go.RowKit

theorem or_shift' (a x i m : Nat) (ha : a < 2 ^ i) (hm : m = 2 ^ i) (h : x * m < 18446744073709551616) (h2 : a < 18446744073709551616) :
    bits BinOp.or IntKind.u64 ((x : Int) * (m : Int)) (a : Int) = ((x * m + a : Nat) : Int) := by
  rw [show ((x : Int) * (m : Int)) = ((x * m : Nat) : Int) by push_cast; rfl]
  rw [u64_or_nat _ _ h h2]
  congr 1
  subst hm
  have := Nat.two_pow_add_eq_or_of_lt ha x
  rw [Nat.mul_comm x, ← this]

/-- one step of a division by d, from the top -/
theorem shrink_step {B d r i : Nat} {zs : List Nat} {top : Nat} (hi : i < zs.length) (hd : 0 < d) (h : d * (B ^ (i + 1) * val B (zs.drop (i + 1))) + r * B ^ (i + 1) = B ^ (i + 1) * top) :
    d * (B ^ i * val B ((zs.set i ((r * B + zs[i]?.getD 0) / d)).drop i)) + ((r * B + zs[i]?.getD 0) % d) * B ^ i = B ^ i * (zs[i]?.getD 0 + B * top) := by
  have e : (zs.set i ((r * B + zs[i]?.getD 0) / d)).drop i = (r * B + zs[i]?.getD 0) / d :: zs.drop (i + 1) := by
    rw [drop_eq_cons _ i (by simpa using hi)]
    rw [List.drop_set_of_lt (by omega)]
    simp [List.getElem?_set_self hi]
  rw [e, val_cons]
  have h2 := Nat.div_add_mod (r * B + zs[i]?.getD 0) d
  generalize (r * B + zs[i]?.getD 0) / d = q at *
  generalize (r * B + zs[i]?.getD 0) % d = t at *
  generalize zs[i]?.getD 0 = z at *
  generalize val B (zs.drop (i + 1)) = v at *
  rw [Nat.pow_succ] at h
  generalize B ^ i = p at *
  grind

def ShrinkRel (g e la d : Nat) (xs post : List Nat) (W : World) (rv iv : Value) (wr : World) : Prop :=
  ∃ (r i : Nat) (zs : List Nat), rv = .int .u64 (r : Int) ∧ iv = .int .i64 ((i : Int) - 1) ∧ Blk .u32 wr g e (zs ++ post) ∧ zs.length = la ∧ Dig B32 zs ∧ i ≤ la ∧ r < d ∧
    d * (B32 ^ i * val B32 (zs.drop i)) + r * B32 ^ i = B32 ^ i * val B32 (xs.drop i) ∧ zs.take i = xs.take i ∧ W.grownBy wr (some g) ∧ wr.heap.size = W.heap.size

/-- the quotient in the same block, and the remainder -/
def ShrinkPost (g e la d : Nat) (xs post : List Nat) (W : World) (en : Ending) (w' : World) : Prop :=
  ∃ ao n zs, en = .returned (.tuple #[.slice ao n n, .int .u32 ((val B32 xs % d : Nat) : Int)]) ∧ Blk .u32 w' g e (zs ++ post) ∧ zs.length = la ∧ Dig B32 zs ∧ val B32 zs = val B32 xs / d ∧
    n ≤ la ∧ (0 < n → ao = some ⟨g, 0, none⟩) ∧ (n = 0 → ao = none) ∧ Top (zs.take n) ∧ val B32 (zs.take n) = val B32 xs / d ∧ W.grownBy w' (some g) ∧ w'.heap.size = W.heap.size

theorem shrink_rel {g e la d r i x q t : Nat} {xs zs post : List Nat} {W wr : World} (hB : Blk .u32 wr g e (zs ++ post)) (hl : zs.length = la) (hD : Dig B32 zs) (hi : i < la) (hd : 0 < d) (hd2 : d < B32) (hr : r < d) (hxl : xs.length = la)
    (hx : x = xs[i]?.getD 0) (hxb : x < B32)
    (hv : d * (B32 ^ (i + 1) * val B32 (zs.drop (i + 1))) + r * B32 ^ (i + 1) = B32 ^ (i + 1) * val B32 (xs.drop (i + 1))) (ht : zs.take (i + 1) = xs.take (i + 1)) (hb : W.grownBy wr (some g)) (hz : wr.heap.size = W.heap.size)
    (hq : q = (r * B32 + x) / d) (htt : t = (r * B32 + x) % d) (R I V : Int) (hR : R = (t : Int)) (hI : I = (i : Int) - 1) (hV : V = (q : Int)) :
    ShrinkRel g e la d xs post W (.int .u64 R) (.int .i64 I) (wr.setCell ⟨g, i, none⟩ (.int .u32 V)) := by
  have hzx : zs[i]?.getD 0 = x := by
    have := congrArg (fun l => l[i]?.getD 0) ht
    simp only [List.getElem?_take, show i < i + 1 by omega, if_true] at this
    rw [this, hx]
  have hs := shrink_step (B := B32) (d := d) (r := r) (i := i) (zs := zs) (top := val B32 (xs.drop (i + 1))) (by omega) hd hv
  rw [hzx, ← hq, ← htt] at hs
  have hq2 : q < B32 := by
    rw [hq]
    apply Nat.div_lt_of_lt_mul
    have : (r + 1) * B32 ≤ d * B32 := Nat.mul_le_mul_right _ hr
    rw [Nat.add_mul] at this
    omega
  refine ⟨t, i, zs.set i q, by rw [hR], by rw [hI], by have := hB.set i q V hV; rwa [List.set_append_left (h := by omega)] at this, by simpa using hl, hD.set _ hq2, by omega, by rw [htt]; exact Nat.mod_lt _ hd, ?_, ?_, grownBy_set hb 0 _ _, by simpa using hz⟩
  · rw [drop_eq_cons xs i (by omega), val_cons, ← hx]
    exact hs
  · rw [List.take_set_of_le (by omega)]
    have := congrArg (List.take i) ht
    rwa [List.take_take, List.take_take, Nat.min_eq_left (by omega)] at this

set_option maxHeartbeats 1000000 in
theorem shrink_any (g e la ca : Nat) (xs post : List Nat) (D : Int) (d : Nat) (W : World) (hB : Blk .u32 W g e (xs ++ post)) (hl : xs.length = la) (hd : Dig B32 xs) (hD : D = (d : Int)) (hd0 : 0 < d) (hdB : d < 4294967296)
    (hla : la ≤ 2000000000) (hlc : la ≤ ca) (hca : ca ≤ 9223372036854775807) :
    Calls Try.prog 108 #[.slice (some ⟨g, 0, none⟩) la ca, .int .u32 D] W (ShrinkPost g e la d xs post W) := by
  subst hD
  have HB := Lib.hid hB
  have HX := Lib.hid hl
  have HD := Lib.hid hd
  clear hB hl hd
  go_enter Try.func108, Try.ntmps108
  go_wp2
  go_loopw [6, 7] (fun rv iv wr => ShrinkRel g e la d xs post W rv iv wr) (fun rv iv _ => (intOf iv + 1).toNat)
  case atStart =>
    exact ⟨0, la, xs, rfl, rfl, HB.out, HX.out, HD.out, Nat.le_refl _, hd0, by rw [List.drop_of_length_le (by rw [HX.out]; exact Nat.le_refl _)]; simp [val], rfl, World.grownBy.refl _ _, rfl⟩
  case round =>
    obtain ⟨r, i, zs, rfl, rfl, hB, hzl, hdz, hi, hr, hv, ht, hbel, hz⟩ := hrel
    have GZ := Lib.hid hB
    have GL := Lib.hid hzl
    have GD := Lib.hid hdz
    have GV := Lib.hid hv
    have GT := Lib.hid ht
    have GW := Lib.hid hbel
    have GH := Lib.hid hz
    clear hB hzl hdz hv ht hbel hz
    by_cases hi0 : i = 0
    · subst hi0
      have HS : Hid (Sl .u32 wr (some ⟨g, 0, none⟩) la zs) := by
        have := GZ.out.sl0 la (by have := GL.out; simp; omega)
        rwa [List.take_append_of_le_length (by rw [GL.out]; exact Nat.le_refl _), List.take_of_length_le (by rw [GL.out]; exact Nat.le_refl _)] at this
      go_wp2_with (go_at_call 98; refine (trim_raw _ _ _ _ _ HS.out (by omega) (by omega)).mono ?_; rintro e w3 ⟨⟨ao', m, rfl, hm, ha', hz', ht, hzz⟩, rfl⟩)
      go_ret2
      have hv := GV.out
      simp only [Nat.pow_zero, List.drop_zero, Nat.one_mul, Nat.mul_one] at hv
      have hq : val B32 zs = val B32 xs / d := by
        rw [← hv, Nat.mul_add_div hd0, Nat.div_eq_of_lt hr, Nat.add_zero]
      have hm2 : r = val B32 xs % d := by
        rw [← hv, Nat.mul_add_mod, Nat.mod_eq_of_lt hr]
      exact ⟨ao', m, zs, by rw [← hm2]; rfl, GZ.out, GL.out, GD.out, hq, hm, ha', hz', ht, by rw [val_take_of_zeros hzz, hq], GW.out, GH.out⟩
    · obtain ⟨j, rfl⟩ : ∃ j, i = j + 1 := ⟨i - 1, by omega⟩
      have e1 : (((j + 1 : Nat) : Int) - 1) = (j : Int) := by omega
      rw [e1]
      clear e1
      have hzx : zs[j]?.getD 0 = xs[j]?.getD 0 := by
        have := congrArg (fun l => l[j]?.getD 0) GT.out
        simpa only [List.getElem?_take, show j < j + 1 by omega, if_true] using this
      have c1 := GZ.out.cell j (by have := GL.out; simp; omega)
      rw [List.getElem?_append_left (by rw [GL.out]; omega)] at c1
      have f1 := GZ.out.frozen j
      rw [hzx] at c1
      have hx := HD.out.get B32_pos j
      obtain ⟨x, hxe⟩ : ∃ x, x = xs[j]?.getD 0 := ⟨_, rfl⟩
      rw [← hxe] at c1 hx
      have HXE := Lib.hid hxe
      have HXB := Lib.hid hx
      rw [B32_eq] at hx
      clear hxe hzx
      have b1 : (0 : Int) ≤ (j : Int) := by omega
      have b2 : (j : Int) < (la : Int) := by omega
      go_wp2
      refine ⟨?_, by simp [intOf]⟩
      have hor := or_shift' x r 32 4294967296 (by omega) (by decide) (by omega) (by omega)
      have hor2 : bits BinOp.or IntKind.u64 ((r : Int) * 4294967296) (x : Int) = ((r * 4294967296 + x : Nat) : Int) := hor
      rw [hor2]
      have hN : r * 4294967296 + x < d * 4294967296 := by
        have : (r + 1) * 4294967296 ≤ d * 4294967296 := Nat.mul_le_mul_right _ hr
        omega
      have hq : (r * 4294967296 + x) / d < 4294967296 := Nat.div_lt_of_lt_mul hN
      refine shrink_rel GZ.out GL.out GD.out (by omega) hd0 (by rw [B32_eq]; exact hdB) hr HX.out HXE.out HXB.out GV.out GT.out GW.out GH.out rfl rfl _ _ _ ?_ rfl ?_
      · rw [B32_eq]; exact (Int.ofNat_tmod _ _).symm
      · have e : ((r * 4294967296 + x : Nat) : Int).tdiv (d : Int) = (((r * 4294967296 + x) / d : Nat) : Int) := (Int.ofNat_tdiv _ _).symm
        rw [e, B32_eq]
        generalize (r * 4294967296 + x) / d = q at *
        rw [IntWalk.u64_in (q : Int) ⟨by omega, by omega⟩]
        omega
end Go.Proofs.Ytdnnjjclklcihaa
