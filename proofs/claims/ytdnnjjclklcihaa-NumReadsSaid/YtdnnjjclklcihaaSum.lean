/- sum. -/
import Derived.Test.YtdnnjjclklcihaaDig3
set_option linter.unusedVariables false
namespace Go.Proofs.Ytdnnjjclklcihaa
open Go.RowKit

/-- one step of an addition: the value of all, with the carry -/
theorem sum_step {B : Nat} {zs xb : List Nat} {i c va : Nat} (hi : i < zs.length) (h : val B zs + c * B ^ i = va + val B (xb.take i)) (hB : 0 < B) :
    val B (zs.set i ((c + (zs[i]?.getD 0 + xb[i]?.getD 0)) % B)) + (c + (zs[i]?.getD 0 + xb[i]?.getD 0)) / B * B ^ (i + 1) = va + val B (xb.take (i + 1)) := by
  have h1 := val_set B zs i ((c + (zs[i]?.getD 0 + xb[i]?.getD 0)) % B) hi
  have h2 := Nat.mod_add_div (c + (zs[i]?.getD 0 + xb[i]?.getD 0)) B
  rw [val_take_succ]
  generalize (c + (zs[i]?.getD 0 + xb[i]?.getD 0)) % B = d at *
  generalize (c + (zs[i]?.getD 0 + xb[i]?.getD 0)) / B = c' at *
  generalize zs[i]?.getD 0 = z at *
  generalize xb[i]?.getD 0 = x at *
  generalize val B (zs.set i d) = v at *
  rw [Nat.pow_succ]
  generalize B ^ i = p at *
  grind

def SumRel (g la : Nat) (xa xb : List Nat) (W : World) (cv iv : Value) (wr : World) : Prop :=
  ∃ (c i : Nat) (zs : List Nat), cv = .int .u64 (c : Int) ∧ iv = .int .i64 (i : Int) ∧ Blk .u32 wr g 104 zs ∧ zs.length = la + 1 ∧ Dig B32 zs ∧ i ≤ la + 1 ∧ c ≤ 1 ∧
    val B32 zs + c * B32 ^ i = val B32 xa + val B32 (xb.take i) ∧ Below W.heap.size W wr

theorem sum_rel {g la c i x y nq : Nat} {xa xb zs : List Nat} {W wr : World} (hB : Blk .u32 wr g 104 zs) (hl : zs.length = la + 1) (hd : Dig B32 zs) (hi : i < la + 1) (hc : c ≤ 1)
    (hx : x < 4294967296) (hy : y < 4294967296)
    (hst : val B32 (zs.set i ((c + (x + y)) % B32)) + (c + (x + y)) / B32 * B32 ^ (i + 1) = val B32 xa + val B32 (xb.take (i + 1))) (hb : Below W.heap.size W wr) (hg : W.heap.size ≤ g) :
    SumRel g la xa xb W (.int .u64 (((c : Int) + ((x : Int) + (y : Int))) / 4294967296)) (.int .i64 ((i : Int) + 1))
      ((wr.drewN nq).setCell ⟨g, i, none⟩ (.int .u32 (((c : Int) + ((x : Int) + (y : Int))) % 4294967296))) := by
  refine ⟨(c + (x + y)) / B32, i + 1, zs.set i ((c + (x + y)) % B32), ?_, by go_num, (hB.drewN nq).set i _ _ ?_, by simpa using hl, hd.set i (Nat.mod_lt _ B32_pos), by omega, ?_, hst, ?_⟩
  · exact congrArg (Value.int _) (by rw [B32_eq]; omega)
  · rw [B32_eq]; omega
  · rw [B32_eq]; omega
  · exact (below_drewN hb nq).setCell hg _

set_option maxHeartbeats 1000000 in
theorem sum_core (ao bo : Option Addr) (la lb ca cb : Nat) (xa xb : List Nat) (W : World) (ha : Sl .u32 W ao la xa) (hb : Sl .u32 W bo lb xb) (hda : Dig B32 xa) (hdb : Dig B32 xb)
    (hla : la ≤ 1000000000) (hlb : lb ≤ la) :
    Calls Try.prog 87 #[.slice ao la ca, .slice bo lb cb] W fun e w' => Out32 W (val B32 xa + val B32 xb) e w' := by
  have HA := Lib.hid ha
  have HB := Lib.hid hb
  have HDA := Lib.hid hda
  have HDB := Lib.hid hdb
  have t1 : ¬ (la : Int) < (lb : Int) := by omega
  have hg : W.heap.size ≤ W.heap.size := Nat.le_refl _
  have HG := Lib.hid hg
  clear ha hb hda hdb hg
  go_enter Try.func87, Try.ntmps87
  go_wp2_with (first
    | (at_make; refine wpList_mk rfl _ 22 rfl 104 .u32 4 Try.underlying22 (by kernel_rfl) _ (la + 1) rfl (by omega) (by omega) (by omega) ?_; intro w1 hB1 hb1 hz1)
    | ((with_reducible show wpList _ _ _ _ _ _); refine wpList_cp rfl _ _ _ _ rfl 104 .u32 Try.underlying22 (by kernel_rfl) W.heap.size _ _ _ _ _ rfl rfl (List.replicate (la + 1) 0) xa hB1 (HA.out.keep hb1) (by omega) (by simp) W.heap.size W hb1 HG.out ?_; intro w2 hB2 hb2 hz2))
  go_loopw [6, 7] (fun cv iv wr => SumRel W.heap.size la xa xb W cv iv wr) (fun cv iv _ => la + 2 - (intOf iv).toNat)
  case atStart =>
    refine ⟨0, 0, _, rfl, rfl, hB2, ?_, ?_, by omega, by omega, ?_, hb2⟩
    · have := HA.out.len
      simp; omega
    · exact HDA.out.append ((Dig.replicate B32_pos _).drop _)
    · rw [List.drop_replicate, show la + 1 - la = 1 by omega]
      simp [val_snoc, val]
  case round =>
    obtain ⟨c, i, zs, rfl, rfl, hB, hzl, hdz, hi, hc, hv, hbel⟩ := hrel
    have HZ := Lib.hid hB
    have HL := Lib.hid hzl
    have HD := Lib.hid hdz
    have HV := Lib.hid hv
    have HW := Lib.hid hbel
    clear hB hzl hdz hv hbel
    by_cases hgo : i < lb ∨ c = 1
    · have hil : i < la + 1 := by
        rcases hgo with h | h
        · omega
        · have h1 := val_lt B32_pos HDA.out
          have h2 := val_lt B32_pos (HDB.out.take i)
          have h3 := HV.out
          rw [HA.out.len] at h1
          rw [List.length_take, HB.out.len] at h2
          rcases Nat.lt_or_ge i (la + 1) with h4 | h4
          · exact h4
          · exfalso
            obtain rfl : i = la + 1 := by omega
            subst h
            have h5 : B32 ^ min (la + 1) lb ≤ B32 ^ la := Nat.pow_le_pow_right B32_pos (by omega)
            rw [Nat.pow_succ, B32_eq] at h3
            rw [B32_eq] at h1 h2 h5
            omega
      have c1 := HZ.out.cell i (by rw [HL.out]; exact hil)
      have f1 := HZ.out.frozen i
      have hx := HD.out.get B32_pos i
      have hy := HDB.out.get B32_pos i
      have hst := sum_step (B := B32) (c := c) (by rw [HL.out]; exact hil) HV.out B32_pos
      obtain ⟨x, hxe⟩ : ∃ x, x = zs[i]?.getD 0 := ⟨_, rfl⟩
      obtain ⟨y, hye⟩ : ∃ x, x = xb[i]?.getD 0 := ⟨_, rfl⟩
      rw [← hxe] at c1 hx hst
      rw [← hye] at hy hst
      rw [B32_eq] at hx hy
      have HST := Lib.hid hst
      have HX := Lib.hid hxe
      have HY := Lib.hid hye
      have b1 : (0 : Int) ≤ (i : Int) := by omega
      have b2 : (i : Int) < (la : Int) + 1 := by omega
      have HBr := Lib.hid (HB.out.keep HW.out)
      have hc2 : (c : Int) ≤ 1 := by omega
      have u1 := Lib.hid (IntWalk.u64_in (x : Int) ⟨by omega, by omega⟩)
      have u2 := Lib.hid (IntWalk.u64_in (y : Int) ⟨by omega, by omega⟩)
      have u3 := Lib.hid (IntWalk.u64_in ((x : Int) + (y : Int)) ⟨by omega, by omega⟩)
      have u4 := Lib.hid (IntWalk.u64_in ((c : Int) + ((x : Int) + (y : Int))) ⟨by omega, by omega⟩)
      clear hst hxe hye
      rcases Nat.lt_or_ge i lb with hlt | hge
      · have t2 : (i : Int) < (lb : Int) := by omega
        go_wp2
        have v1 := u1.out
        have v2 := u2.out
        have v3 := u3.out
        have v4 := u4.out
        go_quiet ((go_at_call 101; exact digit_quiet _ _ _ xb _ i y _ _ HBr.out rfl HY.out))
        clear v1 v2 v3 v4
        go_wp2
        go_roundw
        case rel => exact sum_rel HZ.out HL.out HD.out hil hc hx hy HST.out HW.out (Nat.le_refl _)
        case measure => simp [intOf]; omega
      · obtain rfl : c = 1 := by omega
        have t2 : ¬ (i : Int) < (lb : Int) := by omega
        go_wp2
        have v1 := u1.out
        have v2 := u2.out
        have v3 := u3.out
        have v4 := u4.out
        go_quiet ((go_at_call 101; exact digit_quiet _ _ _ xb _ i y _ _ HBr.out rfl HY.out))
        clear v1 v2 v3 v4
        go_wp2
        go_roundw
        case rel => exact sum_rel HZ.out HL.out HD.out hil hc hx hy HST.out HW.out (Nat.le_refl _)
        case measure => simp [intOf]; omega
    · obtain rfl : c = 0 := by omega
      have t2 : ¬ (i : Int) < (lb : Int) := by omega
      have HS := Lib.hid (HZ.out.whole HL.out)
      go_wp2_with (go_at_call 98; refine (trim_raw _ _ _ _ _ HS.out (by omega) (by omega)).mono ?_; rintro e w3 ⟨⟨ao', m, rfl, hm, ha', hz', ht, hzz⟩, rfl⟩)
      go_ret
      have hS := HS.out
      refine ⟨ao', m, m, rfl, ⟨_, trim_sl hS hm ha', HD.out.take _, ht, ?_⟩, HW.out⟩
      rw [val_take_of_zeros hzz]
      have h := HV.out
      rw [List.take_of_length_le (l := xb) (by rw [HB.out.len]; omega)] at h
      omega

set_option maxHeartbeats 1000000 in
theorem sum_swap (ao bo : Option Addr) (la lb ca cb : Nat) (xa xb : List Nat) (W : World) (ha : Sl .u32 W ao la xa) (hb : Sl .u32 W bo lb xb) (hda : Dig B32 xa) (hdb : Dig B32 xb)
    (hla : la ≤ 1000000000) (hlb : lb < la) :
    Calls Try.prog 87 #[.slice bo lb cb, .slice ao la ca] W fun e w' => Out32 W (val B32 xa + val B32 xb) e w' := by
  have HA := Lib.hid ha
  have HB := Lib.hid hb
  have HDA := Lib.hid hda
  have HDB := Lib.hid hdb
  have t1 : (lb : Int) < (la : Int) := by omega
  have hg : W.heap.size ≤ W.heap.size := Nat.le_refl _
  have HG := Lib.hid hg
  clear ha hb hda hdb hg
  go_enter Try.func87, Try.ntmps87
  go_wp2_with (first
    | (at_make; refine wpList_mk rfl _ 22 rfl 104 .u32 4 Try.underlying22 (by kernel_rfl) _ (la + 1) rfl (by omega) (by omega) (by omega) ?_; intro w1 hB1 hb1 hz1)
    | ((with_reducible show wpList _ _ _ _ _ _); refine wpList_cp rfl _ _ _ _ rfl 104 .u32 Try.underlying22 (by kernel_rfl) W.heap.size _ _ _ _ _ rfl rfl (List.replicate (la + 1) 0) xa hB1 (HA.out.keep hb1) (by omega) (by simp) W.heap.size W hb1 HG.out ?_; intro w2 hB2 hb2 hz2))
  go_loopw [6, 7] (fun cv iv wr => SumRel W.heap.size la xa xb W cv iv wr) (fun cv iv _ => la + 2 - (intOf iv).toNat)
  case atStart =>
    refine ⟨0, 0, _, rfl, rfl, hB2, ?_, ?_, by omega, by omega, ?_, hb2⟩
    · have := HA.out.len
      simp; omega
    · exact HDA.out.append ((Dig.replicate B32_pos _).drop _)
    · rw [List.drop_replicate, show la + 1 - la = 1 by omega]
      simp [val_snoc, val]
  case round =>
    obtain ⟨c, i, zs, rfl, rfl, hB, hzl, hdz, hi, hc, hv, hbel⟩ := hrel
    have HZ := Lib.hid hB
    have HL := Lib.hid hzl
    have HD := Lib.hid hdz
    have HV := Lib.hid hv
    have HW := Lib.hid hbel
    clear hB hzl hdz hv hbel
    by_cases hgo : i < lb ∨ c = 1
    · have hil : i < la + 1 := by
        rcases hgo with h | h
        · omega
        · have h1 := val_lt B32_pos HDA.out
          have h2 := val_lt B32_pos (HDB.out.take i)
          have h3 := HV.out
          rw [HA.out.len] at h1
          rw [List.length_take, HB.out.len] at h2
          rcases Nat.lt_or_ge i (la + 1) with h4 | h4
          · exact h4
          · exfalso
            obtain rfl : i = la + 1 := by omega
            subst h
            have h5 : B32 ^ min (la + 1) lb ≤ B32 ^ la := Nat.pow_le_pow_right B32_pos (by omega)
            rw [Nat.pow_succ, B32_eq] at h3
            rw [B32_eq] at h1 h2 h5
            omega
      have c1 := HZ.out.cell i (by rw [HL.out]; exact hil)
      have f1 := HZ.out.frozen i
      have hx := HD.out.get B32_pos i
      have hy := HDB.out.get B32_pos i
      have hst := sum_step (B := B32) (c := c) (by rw [HL.out]; exact hil) HV.out B32_pos
      obtain ⟨x, hxe⟩ : ∃ x, x = zs[i]?.getD 0 := ⟨_, rfl⟩
      obtain ⟨y, hye⟩ : ∃ x, x = xb[i]?.getD 0 := ⟨_, rfl⟩
      rw [← hxe] at c1 hx hst
      rw [← hye] at hy hst
      rw [B32_eq] at hx hy
      have HST := Lib.hid hst
      have HX := Lib.hid hxe
      have HY := Lib.hid hye
      have b1 : (0 : Int) ≤ (i : Int) := by omega
      have b2 : (i : Int) < (la : Int) + 1 := by omega
      have HBr := Lib.hid (HB.out.keep HW.out)
      have hc2 : (c : Int) ≤ 1 := by omega
      have u1 := Lib.hid (IntWalk.u64_in (x : Int) ⟨by omega, by omega⟩)
      have u2 := Lib.hid (IntWalk.u64_in (y : Int) ⟨by omega, by omega⟩)
      have u3 := Lib.hid (IntWalk.u64_in ((x : Int) + (y : Int)) ⟨by omega, by omega⟩)
      have u4 := Lib.hid (IntWalk.u64_in ((c : Int) + ((x : Int) + (y : Int))) ⟨by omega, by omega⟩)
      clear hst hxe hye
      rcases Nat.lt_or_ge i lb with hlt | hge
      · have t2 : (i : Int) < (lb : Int) := by omega
        go_wp2
        have v1 := u1.out
        have v2 := u2.out
        have v3 := u3.out
        have v4 := u4.out
        go_quiet ((go_at_call 101; exact digit_quiet _ _ _ xb _ i y _ _ HBr.out rfl HY.out))
        clear v1 v2 v3 v4
        go_wp2
        go_roundw
        case rel => exact sum_rel HZ.out HL.out HD.out hil hc hx hy HST.out HW.out (Nat.le_refl _)
        case measure => simp [intOf]; omega
      · obtain rfl : c = 1 := by omega
        have t2 : ¬ (i : Int) < (lb : Int) := by omega
        go_wp2
        have v1 := u1.out
        have v2 := u2.out
        have v3 := u3.out
        have v4 := u4.out
        go_quiet ((go_at_call 101; exact digit_quiet _ _ _ xb _ i y _ _ HBr.out rfl HY.out))
        clear v1 v2 v3 v4
        go_wp2
        go_roundw
        case rel => exact sum_rel HZ.out HL.out HD.out hil hc hx hy HST.out HW.out (Nat.le_refl _)
        case measure => simp [intOf]; omega
    · obtain rfl : c = 0 := by omega
      have t2 : ¬ (i : Int) < (lb : Int) := by omega
      have HS := Lib.hid (HZ.out.whole HL.out)
      go_wp2_with (go_at_call 98; refine (trim_raw _ _ _ _ _ HS.out (by omega) (by omega)).mono ?_; rintro e w3 ⟨⟨ao', m, rfl, hm, ha', hz', ht, hzz⟩, rfl⟩)
      go_ret
      have hS := HS.out
      refine ⟨ao', m, m, rfl, ⟨_, trim_sl hS hm ha', HD.out.take _, ht, ?_⟩, HW.out⟩
      rw [val_take_of_zeros hzz]
      have h := HV.out
      rw [List.take_of_length_le (l := xb) (by rw [HB.out.len]; omega)] at h
      omega

set_option maxHeartbeats 1000000 in
theorem sum_any (ao bo : Option Addr) (la lb ca cb : Nat) (m n : Nat) (W : World) (ha : N32 W ao la m) (hb : N32 W bo lb n) (hla : la ≤ 1000000000) (hlb : lb ≤ 1000000000) :
    Calls Try.prog 87 #[.slice ao la ca, .slice bo lb cb] W (Out32 W (m + n)) := by
  obtain ⟨xa, ha, hda, hta, rfl⟩ := ha
  obtain ⟨xb, hb, hdb, htb, rfl⟩ := hb
  by_cases hl : la < lb
  · rw [Nat.add_comm]
    exact sum_swap bo ao lb la cb ca xb xa W hb ha hdb hda hlb (by omega)
  · exact sum_core ao bo la lb ca cb xa xb W ha hb hda hdb hla (by omega)
end Go.Proofs.Ytdnnjjclklcihaa
