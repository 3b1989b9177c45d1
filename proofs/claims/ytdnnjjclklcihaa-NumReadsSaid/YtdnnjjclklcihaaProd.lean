/- product. -/
import Derived.Test.YtdnnjjclklcihaaSub
set_option linter.unusedVariables false
namespace Go.Proofs.Ytdnnjjclklcihaa
open Go.RowKit

theorem prod_step {B : Nat} {zs xb : List Nat} {i k c x vi vb : Nat} (hi : i + k < zs.length) (h : val B zs + c * B ^ (i + k) = vi * vb + x * val B (xb.take k) * B ^ i) :
    val B (zs.set (i + k) ((c + (x * (xb[k]?.getD 0) + zs[i + k]?.getD 0)) % B)) + (c + (x * (xb[k]?.getD 0) + zs[i + k]?.getD 0)) / B * B ^ (i + (k + 1)) = vi * vb + x * val B (xb.take (k + 1)) * B ^ i := by
  have h1 := val_set B zs (i + k) ((c + (x * (xb[k]?.getD 0) + zs[i + k]?.getD 0)) % B) hi
  have h2 := Nat.mod_add_div (c + (x * (xb[k]?.getD 0) + zs[i + k]?.getD 0)) B
  rw [val_take_succ]
  generalize (c + (x * (xb[k]?.getD 0) + zs[i + k]?.getD 0)) % B = d at *
  generalize (c + (x * (xb[k]?.getD 0) + zs[i + k]?.getD 0)) / B = c' at *
  generalize zs[i + k]?.getD 0 = z at *
  generalize xb[k]?.getD 0 = y at *
  generalize val B (zs.set (i + k) d) = v at *
  rw [← Nat.add_assoc, Nat.pow_succ]
  simp only [Nat.pow_add] at *
  generalize B ^ i = p at *
  generalize B ^ k = q at *
  grind

theorem prod_carry {c x y z : Nat} (hc : c < 4294967296) (hx : x < 4294967296) (hy : y < 4294967296) (hz : z < 4294967296) : c + (x * y + z) < 18446744073709551616 := by
  have h1 : x * y ≤ 4294967295 * 4294967295 := Nat.mul_le_mul (by omega) (by omega)
  omega

def ProdRel (g la lb : Nat) (xa xb : List Nat) (W : World) (iv : Value) (wr : World) : Prop :=
  ∃ (i : Nat) (zs : List Nat), iv = .int .i64 (i : Int) ∧ Blk .u32 wr g 104 zs ∧ zs.length = la + lb ∧ Dig B32 zs ∧ i ≤ la ∧
    val B32 zs = val B32 (xa.take i) * val B32 xb ∧ (∀ j, i + lb ≤ j → zs[j]?.getD 0 = 0) ∧ Below W.heap.size W wr

def ProdIn (g la lb i x : Nat) (xa xb : List Nat) (W : World) (cv kv : Value) (wr : World) : Prop :=
  ∃ (c k : Nat) (zs : List Nat), cv = .int .u64 (c : Int) ∧ kv = .int .i64 (k : Int) ∧ Blk .u32 wr g 104 zs ∧ zs.length = la + lb ∧ Dig B32 zs ∧ k ≤ lb ∧ c < 4294967296 ∧
    val B32 zs + c * B32 ^ (i + k) = val B32 (xa.take i) * val B32 xb + x * val B32 (xb.take k) * B32 ^ i ∧ (∀ j, i + lb ≤ j → zs[j]?.getD 0 = 0) ∧ Below W.heap.size W wr

theorem prod_in {g la lb i k c x y z : Nat} {xa xb zs : List Nat} {W wr : World} (hB : Blk .u32 wr g 104 zs) (hl : zs.length = la + lb) (hd : Dig B32 zs) (hk : k < lb) (hi : i < la) (hc : c < 4294967296)
    (hx : x < 4294967296) (hy : y < 4294967296) (hz : z < 4294967296) (hye : y = xb[k]?.getD 0) (hze : z = zs[i + k]?.getD 0)
    (hv : val B32 zs + c * B32 ^ (i + k) = val B32 (xa.take i) * val B32 xb + x * val B32 (xb.take k) * B32 ^ i) (h0 : ∀ j, i + lb ≤ j → zs[j]?.getD 0 = 0) (hb : Below W.heap.size W wr) (hg : W.heap.size ≤ g)
    (t : Nat) (ht : t = x * y) :
    ProdIn g la lb i x xa xb W (.int .u64 (((c : Int) + ((t : Int) + (z : Int))) / 4294967296)) (.int .i64 ((k : Int) + 1))
      (wr.setCell ⟨g, i + k, none⟩ (.int .u32 (((c : Int) + ((t : Int) + (z : Int))) % 4294967296))) := by
  subst ht
  have hs := prod_step (B := B32) (zs := zs) (xb := xb) (i := i) (k := k) (c := c) (x := x) (vi := val B32 (xa.take i)) (vb := val B32 xb) (by omega) hv
  rw [← hye, ← hze] at hs
  have hcc := prod_carry hc hx hy hz
  refine ⟨(c + (x * y + z)) / B32, k + 1, zs.set (i + k) ((c + (x * y + z)) % B32), ?_, by go_num, hB.set _ _ _ ?_, by simpa using hl, hd.set _ (Nat.mod_lt _ B32_pos), by omega, ?_, hs, ?_, hb.setCell hg _⟩
  · generalize x * y = t at *
    exact congrArg (Value.int _) (by rw [B32_eq]; omega)
  · generalize x * y = t at *
    rw [B32_eq]; omega
  · generalize x * y = t at *
    rw [B32_eq]; omega
  · intro j hj
    rw [List.getElem?_set_ne (by omega)]
    exact h0 j hj

theorem prod_out {g la lb i c : Nat} {xa xb zs : List Nat} {W wr : World} (hB : Blk .u32 wr g 104 zs) (hl : zs.length = la + lb) (hd : Dig B32 zs) (hi : i < la) (hc : c < 4294967296)
    (hxb : xb.length = lb)
    (hv : val B32 zs + c * B32 ^ (i + lb) = val B32 (xa.take i) * val B32 xb + (xa[i]?.getD 0) * val B32 (xb.take lb) * B32 ^ i) (h0 : ∀ j, i + lb ≤ j → zs[j]?.getD 0 = 0) (hb : Below W.heap.size W wr) (hg : W.heap.size ≤ g) :
    ProdRel g la lb xa xb W (.int .i64 ((i : Int) + 1)) (wr.setCell ⟨g, i + lb, none⟩ (.int .u32 (c : Int))) := by
  refine ⟨i + 1, zs.set (i + lb) c, by go_num, hB.set _ _ _ rfl, by simpa using hl, hd.set _ (by rw [B32_eq]; exact hc), by omega, ?_, ?_, hb.setCell hg _⟩
  · have h1 := val_set B32 zs (i + lb) c (by omega)
    rw [h0 _ (Nat.le_refl _)] at h1
    rw [List.take_of_length_le (l := xb) (by omega)] at hv
    rw [val_take_succ]
    generalize val B32 (zs.set (i + lb) c) = v at *
    simp only [Nat.pow_add] at *
    generalize B32 ^ i = p at *
    generalize B32 ^ lb = q at *
    grind
  · intro j hj
    rw [List.getElem?_set_ne (by omega)]
    exact h0 j (by omega)

set_option maxHeartbeats 1000000 in
theorem product_any (ao bo : Option Addr) (la lb ca cb : Nat) (m n : Nat) (W : World) (ha : N32 W ao la m) (hb : N32 W bo lb n) (hla : la ≤ 1000000000) (hlb : lb ≤ 1000000000) :
    Calls Try.prog 94 #[.slice ao la ca, .slice bo lb cb] W (Out32 W (m * n)) := by
  obtain ⟨xa, ⟨hxa, ba, oa, hao, hca⟩, hda, hta, rfl⟩ := ha
  obtain ⟨xb, ⟨hxb, bb, ob, hbo, hcb⟩, hdb, htb, rfl⟩ := hb
  have HA := Lib.hid hca
  have HB := Lib.hid hcb
  have HDA := Lib.hid hda
  have HDB := Lib.hid hdb
  have HXA := Lib.hid hxa
  have HXB := Lib.hid hxb
  have HAO := Lib.hid hao
  have HBO := Lib.hid hbo
  have HG := Lib.hid (Nat.le_refl W.heap.size)
  clear hca hcb hda hdb hta htb hxa hxb hao hbo
  go_enter Try.func94, Try.ntmps94
  go_wp2_with (at_make; refine wpList_mk rfl _ 22 rfl 104 .u32 4 Try.underlying22 (by kernel_rfl) _ (la + lb) rfl (by omega) (by omega) (by omega) ?_; intro w1 hB1 hb1 hz1)
  go_loopw [19] (fun iv wr => ProdRel W.heap.size la lb xa xb W iv wr) (fun iv _ => la - (intOf iv).toNat)
  case atStart =>
    refine ⟨0, _, rfl, hB1, by simp, Dig.replicate B32_pos _, by omega, ?_, ?_, hb1⟩
    · rw [val_replicate]; simp [val]
    · intro j hj; rw [List.getElem?_replicate]; split <;> rfl
  case round =>
    obtain ⟨i, zs, rfl, hB, hzl, hdz, hi, hv, h0, hbel⟩ := hrel
    obtain ⟨wo, rfl⟩ : ∃ wo : World, wo = wr := ⟨_, rfl⟩
    have HZ := Lib.hid hB
    have HL := Lib.hid hzl
    have HD := Lib.hid hdz
    have HV := Lib.hid hv
    have H0 := Lib.hid h0
    have HW := Lib.hid hbel
    clear hB hzl hdz hv h0 hbel
    by_cases hil : i < la
    · obtain rfl := HAO.out (by omega)
      have ca1 := cell_later HW.out (HA.out i hil)
      have hx := HDA.out.get B32_pos i
      obtain ⟨x, hxe⟩ : ∃ x, x = xa[i]?.getD 0 := ⟨_, rfl⟩
      rw [← hxe] at ca1 hx
      rw [B32_eq] at hx
      have HX := Lib.hid hxe
      clear hxe
      have b1 : (i : Int) < (la : Int) := by omega
      go_wp2
      go_loopw [8, 26] (fun cv kv wr => ProdIn W.heap.size la lb i x xa xb W cv kv wr) (fun cv kv _ => lb - (intOf kv).toNat)
      case atStart =>
        exact ⟨0, 0, zs, rfl, rfl, HZ.out, HL.out, HD.out, by omega, by omega, by rw [HV.out]; simp [val], H0.out, HW.out⟩
      case round =>
        obtain ⟨c, k, ys, rfl, rfl, hB, hzl, hdz, hk, hc, hv, h0, hbel⟩ := hrel
        have GZ := Lib.hid hB
        have GL := Lib.hid hzl
        have GD := Lib.hid hdz
        have GV := Lib.hid hv
        have G0 := Lib.hid h0
        have GW := Lib.hid hbel
        clear hB hzl hdz hv h0 hbel
        by_cases hkl : k < lb
        · obtain rfl := HBO.out (by omega)
          have cb1 := cell_later GW.out (HB.out k hkl)
          have hy := HDB.out.get B32_pos k
          obtain ⟨y, hye⟩ : ∃ x, x = xb[k]?.getD 0 := ⟨_, rfl⟩
          rw [← hye] at cb1 hy
          rw [B32_eq] at hy
          have cz1 := GZ.out.cell (i + k) (by rw [GL.out]; omega)
          have fz1 := GZ.out.frozen (i + k)
          have hz := GD.out.get B32_pos (i + k)
          obtain ⟨z, hze⟩ : ∃ x, x = ys[i + k]?.getD 0 := ⟨_, rfl⟩
          rw [← hze] at cz1 hz
          rw [B32_eq] at hz
          have HY := Lib.hid hye
          have HHZ := Lib.hid hze
          clear hye hze
          have hm0 : (0 : Int) ≤ (x : Int) * (y : Int) := Int.mul_nonneg (by omega) (by omega)
          have hm1 : (x : Int) * (y : Int) ≤ 18446744065119617025 := by
            have h1 : x * y ≤ 4294967295 * 4294967295 := Nat.mul_le_mul (by omega) (by omega)
            have h2 : ((x * y : Nat) : Int) ≤ ((4294967295 * 4294967295 : Nat) : Int) := Int.ofNat_le.2 h1
            rw [Int.natCast_mul] at h2
            exact h2
          have b2 : (k : Int) < (lb : Int) := by omega
          obtain ⟨t, ht⟩ : ∃ t : Nat, t = x * y := ⟨_, rfl⟩
          have ht2 : (x : Int) * (y : Int) = (t : Int) := by rw [ht, Int.natCast_mul]
          have HT := Lib.hid ht
          have HT2 := Lib.hid ht2
          clear ht ht2
          go_wp2
          rw [HT2.out]
          exact ⟨prod_in GZ.out GL.out GD.out hkl hil hc hx hy hz HY.out HHZ.out GV.out G0.out GW.out HG.out t HT.out, by simp [intOf]; omega⟩
        · obtain rfl : k = lb := by omega
          have cz1 := GZ.out.cell (i + k) (by rw [GL.out]; omega)
          have fz1 := GZ.out.frozen (i + k)
          go_wp2
          exact ⟨prod_out GZ.out GL.out GD.out hil hc HXB.out (by rw [← HX.out]; exact GV.out) G0.out GW.out HG.out, by simp [intOf]; omega⟩
    · obtain rfl : i = la := by omega
      have HS := Lib.hid (HZ.out.whole HL.out)
      go_wp2_with (go_at_call 98; refine (trim_raw _ _ _ _ _ HS.out (by omega) (by omega)).mono ?_; rintro e w3 ⟨⟨ao', m, rfl, hm, ha', hz', ht, hzz⟩, rfl⟩)
      go_ret
      refine ⟨ao', m, m, rfl, ⟨_, trim_sl HS.out hm ha', HD.out.take _, ht, ?_⟩, HW.out⟩
      rw [val_take_of_zeros hzz, HV.out, List.take_of_length_le (by rw [HXA.out]; exact Nat.le_refl _)]
end Go.Proofs.Ytdnnjjclklcihaa
