/- subtractProduct, in place; difference. -/
import Derived.Test.YtdnnjjclklcihaaSum
set_option linter.unusedVariables false
namespace Go.Proofs.Ytdnnjjclklcihaa
open Go.RowKit

theorem seg_get (pre seg post : List Nat) (i : Nat) (hi : i < seg.length) : (pre ++ seg ++ post)[pre.length + i]?.getD 0 = seg[i]?.getD 0 := by
  rw [List.append_assoc, List.getElem?_append_right (by omega), Nat.add_sub_cancel_left, List.getElem?_append_left hi]

theorem seg_set (pre seg post : List Nat) (i x : Nat) (hi : i < seg.length) : (pre ++ seg ++ post).set (pre.length + i) x = pre ++ seg.set i x ++ post := by
  rw [List.append_assoc, List.set_append_right (h := by omega), Nat.add_sub_cancel_left, List.set_append_left (h := hi), List.append_assoc]

/-- one step of a subtraction -/
theorem sub_step {B : Nat} {seg ys : List Nat} {i c f v0 nw br : Nat} (hi : i < seg.length) (h : val B seg + f * val B (ys.take i) = v0 + c * B ^ i)
    (hn : nw + (c + ys[i]?.getD 0 * f) % B = seg[i]?.getD 0 + br * B) :
    val B (seg.set i nw) + f * val B (ys.take (i + 1)) = v0 + ((c + ys[i]?.getD 0 * f) / B + br) * B ^ (i + 1) := by
  have h1 := val_set B seg i nw hi
  have h2 := Nat.mod_add_div (c + ys[i]?.getD 0 * f) B
  rw [val_take_succ]
  generalize (c + ys[i]?.getD 0 * f) % B = d at *
  generalize (c + ys[i]?.getD 0 * f) / B = c' at *
  generalize seg[i]?.getD 0 = z at *
  generalize ys[i]?.getD 0 = x at *
  generalize val B (seg.set i nw) = v at *
  rw [Nat.pow_succ]
  generalize B ^ i = p at *
  grind

theorem sub_carry {c f y br B s : Nat} (hB : 0 < B) (hc : c ≤ f) (hy : y < B) (hs : s < B) (hbr : br = 0 ∨ (br = 1 ∧ s < (c + y * f) % B)) : (c + y * f) / B + br ≤ f := by
  have h1 : c + y * f ≤ B * f := by
    have : (y + 1) * f ≤ B * f := Nat.mul_le_mul_right _ hy
    rw [Nat.add_mul] at this
    omega
  have h2 := Nat.div_add_mod (c + y * f) B
  rcases hbr with rfl | ⟨rfl, hlt⟩
  · have := Nat.div_le_div_right (c := B) h1
    rw [Nat.mul_div_cancel_left _ hB] at this
    omega
  · have h3 : B * ((c + y * f) / B) < B * f := by omega
    have := Nat.lt_of_mul_lt_mul_left h3
    omega

def SubRel (g e : Nat) (pre post ys : List Nat) (la f v0 : Nat) (W : World) (cv iv : Value) (wr : World) : Prop :=
  ∃ (c i : Nat) (seg : List Nat), cv = .int .u64 (c : Int) ∧ iv = .int .i64 (i : Int) ∧ Blk .u32 wr g e (pre ++ seg ++ post) ∧ seg.length = la ∧ Dig B32 seg ∧ i ≤ la ∧ c ≤ f ∧
    val B32 seg + f * val B32 (ys.take i) = v0 + c * B32 ^ i ∧ W.grownBy wr (some g) ∧ wr.heap.size = W.heap.size

def SubPost (g e : Nat) (pre post : List Nat) (la f y v0 : Nat) (W : World) (en : Ending) (w' : World) : Prop :=
  en = .returned (.tuple #[]) ∧ W.grownBy w' (some g) ∧ w'.heap.size = W.heap.size ∧ ∃ seg, Blk .u32 w' g e (pre ++ seg ++ post) ∧ seg.length = la ∧ Dig B32 seg ∧ val B32 seg + f * y = v0

theorem grownBy_set {W wr : World} {g : Nat} (h : W.grownBy wr (some g)) (nq i : Nat) (v : Value) : W.grownBy ((wr.drewN nq).setCell ⟨g, i, none⟩ v) (some g) := by
  refine ⟨h.os, h.tape, h.output, by have := h.size; simpa using this, fun k hk hne => ?_⟩
  rw [Below.heap_setCell _ _ _ _ (by intro e; exact hne (by rw [e]))]
  exact h.block k hk hne

theorem sub_rel {g e la i c f y s nw br off : Nat} {pre seg post ys : List Nat} {W wr : World} {v0 : Nat} (hB : Blk .u32 wr g e (pre ++ seg ++ post)) (hl : seg.length = la) (hd : Dig B32 seg) (hi : i < la) (hc : c ≤ f)
    (hy : y < 4294967296) (hs : s < 4294967296) (hye : y = ys[i]?.getD 0) (hse : s = seg[i]?.getD 0) (hoff : off = pre.length)
    (hv : val B32 seg + f * val B32 (ys.take i) = v0 + c * B32 ^ i)
    (hn : nw + (c + y * f) % 4294967296 = s + br * 4294967296) (hbr : br = 0 ∨ (br = 1 ∧ s < (c + y * f) % 4294967296)) (hnw : nw < 4294967296)
    (hb : W.grownBy wr (some g)) (hz : wr.heap.size = W.heap.size) (C V : Int) (hC : C = (((c + y * f) / 4294967296 + br : Nat) : Int)) (hV : V = (nw : Int)) :
    SubRel g e pre post ys la f v0 W (.int .u64 C) (.int .i64 ((i : Int) + 1)) (wr.setCell ⟨g, off + i, none⟩ (.int .u32 V)) := by
  subst hC hoff
  refine ⟨(c + y * f) / 4294967296 + br, i + 1, seg.set i nw, rfl, by go_num, ?_, by simpa using hl, hd.set i hnw, by omega, ?_, ?_, grownBy_set hb 0 _ _, by simpa using hz⟩
  · rw [← seg_set pre seg post i nw (by omega)]
    exact hB.set _ _ _ hV
  · exact sub_carry (by decide) hc hy hs hbr
  · have := sub_step (B := B32) (seg := seg) (ys := ys) (i := i) (c := c) (f := f) (v0 := v0) (nw := nw) (br := br) (by omega) hv (by rw [← hye, ← hse]; exact hn)
    rw [← hye] at this
    exact this

set_option maxHeartbeats 1000000 in
theorem subtractProduct_any (g e off la ca : Nat) (pre seg0 post : List Nat) (bo : Option Addr) (lb cb : Nat) (ys : List Nat) (F : Int) (f : Nat) (W : World)
    (hB : Blk .u32 W g e (pre ++ seg0 ++ post)) (hoff : off = pre.length) (hl : seg0.length = la) (hd : Dig B32 seg0)
    (hb : ∀ w', W.grownBy w' (some g) → Sl .u32 w' bo lb ys) (hdy : Dig B32 ys) (hF : F = (f : Int)) (hf : f < 4294967296) (hlb : lb ≤ la) (hla : la ≤ 2000000000)
    (hle : f * val B32 ys ≤ val B32 seg0) :
    Calls Try.prog 113 #[.slice (some ⟨g, off, none⟩) la ca, .slice bo lb cb, .int .u32 F] W (SubPost g e pre post la f (val B32 ys) (val B32 seg0) W) := by
  subst hF
  have HB := Lib.hid hb
  have HDY := Lib.hid hdy
  have HLE := Lib.hid hle
  have HO := Lib.hid hoff
  have HLY : Hid (ys.length = lb) := (hb W (World.grownBy.refl _ _)).len
  have HB0 := Lib.hid hB
  have HD0 := Lib.hid hd
  have HL0 := Lib.hid hl
  clear hb hdy hle hoff hB hd hl
  go_enter Try.func113, Try.ntmps113
  go_wp2
  go_loopw [6, 7] (fun cv iv wr => SubRel g e pre post ys la f (val B32 seg0) W cv iv wr) (fun cv iv _ => la + 2 - (intOf iv).toNat)
  case atStart =>
    exact ⟨0, 0, seg0, rfl, rfl, HB0.out, HL0.out, HD0.out, by omega, by omega, by simp [val], World.grownBy.refl _ _, rfl⟩
  case round =>
    obtain ⟨c, i, seg, rfl, rfl, hB, hsl, hds, hi, hc, hv, hbel, hz⟩ := hrel
    have HZ := Lib.hid hB
    have HL := Lib.hid hsl
    have HD := Lib.hid hds
    have HV := Lib.hid hv
    have HW := Lib.hid hbel
    have HHZ := Lib.hid hz
    clear hB hsl hds hv hbel hz
    by_cases hgo : i < lb ∨ 0 < c
    · have hil : i < la := by
        rcases hgo with h | h
        · omega
        · rcases Nat.lt_or_ge i la with h4 | h4
          · exact h4
          · exfalso
            obtain rfl : i = la := by omega
            have h1 := val_lt B32_pos HD.out
            rw [HL.out] at h1
            have h3 := HV.out
            rw [List.take_of_length_le (by rw [HLY.out]; exact hlb)] at h3
            have h5 : 1 * B32 ^ i ≤ c * B32 ^ i := Nat.mul_le_mul_right _ h
            have := HLE.out
            omega
      have hgl : pre.length + i < (pre ++ seg ++ post).length := by
        have := HL.out
        simp; omega
      have c1 := HZ.out.cell (pre.length + i) hgl
      rw [seg_get _ _ _ _ (by rw [HL.out]; exact hil), ← HO.out] at c1
      have f1 := HZ.out.frozen (off + i)
      have hs := HD.out.get B32_pos i
      have hy := HDY.out.get B32_pos i
      obtain ⟨s, hse⟩ : ∃ x, x = seg[i]?.getD 0 := ⟨_, rfl⟩
      obtain ⟨y, hye⟩ : ∃ x, x = ys[i]?.getD 0 := ⟨_, rfl⟩
      rw [← hse] at c1 hs
      rw [← hye] at hy
      rw [B32_eq] at hs hy
      have HS := Lib.hid hse
      have HY := Lib.hid hye
      have b1 : (0 : Int) ≤ (i : Int) := by omega
      have b2 : (i : Int) < (la : Int) := by omega
      have HBr := Lib.hid (HB.out wr HW.out)
      have hm0 : (0 : Int) ≤ (y : Int) * (f : Int) := Int.mul_nonneg (by omega) (by omega)
      have hm1 : (y : Int) * (f : Int) ≤ 18446744065119617025 := by
        have h1 : y * f ≤ 4294967295 * 4294967295 := Nat.mul_le_mul (by omega) (by omega)
        have h2 : ((y * f : Nat) : Int) ≤ ((4294967295 * 4294967295 : Nat) : Int) := Int.ofNat_le.2 h1
        rw [Int.natCast_mul] at h2
        exact h2
      obtain ⟨t, ht⟩ : ∃ t : Nat, t = y * f := ⟨_, rfl⟩
      have ht2 : (y : Int) * (f : Int) = (t : Int) := by rw [ht, Int.natCast_mul]
      have HT := Lib.hid ht
      have HT2 := Lib.hid ht2
      clear hse hye ht ht2
      rcases Nat.lt_or_ge i lb with hlt | hge
      · have t2 : (i : Int) < (lb : Int) := by omega
        go_wp2_with (go_at_call 101; refine (digit_any _ _ _ ys _ i _ HBr.out rfl).mono ?_; rw [← HY.out]; rintro e w1 ⟨rfl, rfl⟩)
        · have h : (s : Int) < ((c : Int) + (y : Int) * (f : Int)) % 4294967296 := by assumption
          rw [HT2.out] at h ⊢
          refine ⟨?_, by simp [intOf]; omega⟩
          have ht := HT.out
          refine sub_rel (nw := s + 4294967296 - (c + y * f) % 4294967296) (br := 1) HZ.out HL.out HD.out hil hc hy hs HY.out HS.out HO.out HV.out ?_ (Or.inr ⟨rfl, ?_⟩) ?_ HW.out HHZ.out _ _ ?_ ?_ <;> rw [← ht] <;> omega
        · have h : ((c : Int) + (y : Int) * (f : Int)) % 4294967296 ≤ (s : Int) := by assumption
          rw [HT2.out] at h ⊢
          refine ⟨?_, by simp [intOf]; omega⟩
          have ht := HT.out
          refine sub_rel (nw := s - (c + y * f) % 4294967296) (br := 0) HZ.out HL.out HD.out hil hc hy hs HY.out HS.out HO.out HV.out ?_ (Or.inl rfl) ?_ HW.out HHZ.out _ _ ?_ ?_ <;> (try rw [← ht]) <;> omega
      · have t2 : ¬ (i : Int) < (lb : Int) := by omega
        have t3 : (0 : Int) < (c : Int) := by omega
        go_wp2_with (go_at_call 101; refine (digit_any _ _ _ ys _ i _ HBr.out rfl).mono ?_; rw [← HY.out]; rintro e w1 ⟨rfl, rfl⟩)
        · have h : (s : Int) < ((c : Int) + (y : Int) * (f : Int)) % 4294967296 := by assumption
          rw [HT2.out] at h ⊢
          refine ⟨?_, by simp [intOf]; omega⟩
          have ht := HT.out
          refine sub_rel (nw := s + 4294967296 - (c + y * f) % 4294967296) (br := 1) HZ.out HL.out HD.out hil hc hy hs HY.out HS.out HO.out HV.out ?_ (Or.inr ⟨rfl, ?_⟩) ?_ HW.out HHZ.out _ _ ?_ ?_ <;> rw [← ht] <;> omega
        · have h : ((c : Int) + (y : Int) * (f : Int)) % 4294967296 ≤ (s : Int) := by assumption
          rw [HT2.out] at h ⊢
          refine ⟨?_, by simp [intOf]; omega⟩
          have ht := HT.out
          refine sub_rel (nw := s - (c + y * f) % 4294967296) (br := 0) HZ.out HL.out HD.out hil hc hy hs HY.out HS.out HO.out HV.out ?_ (Or.inl rfl) ?_ HW.out HHZ.out _ _ ?_ ?_ <;> (try rw [← ht]) <;> omega
    · obtain rfl : c = 0 := by omega
      have t2 : ¬ (i : Int) < (lb : Int) := by omega
      go_wp2
      go_end0
      refine ⟨rfl, HW.out, HHZ.out, seg, HZ.out, HL.out, HD.out, ?_⟩
      have h := HV.out
      rw [List.take_of_length_le (l := ys) (by rw [HLY.out]; omega)] at h
      omega

set_option maxHeartbeats 400000 in
theorem subtractProduct_nil (bo : Option Addr) (cb : Nat) (F : Int) (W : World) :
    Calls Try.prog 113 #[.slice none 0 0, .slice bo 0 cb, .int .u32 F] W (fun e w' => e = .returned (.tuple #[]) ∧ W = w') := by
  go_enter Try.func113, Try.ntmps113
  go_wp2
  go_loop [6, 7] (fun cv iv => cv = .int .u64 0 ∧ iv = .int .i64 0) (fun cv iv => 0)
  case atStart => exact ⟨rfl, rfl⟩
  case round =>
    obtain ⟨rfl, rfl⟩ := hrel
    go_wp2
    go_end0
    exact ⟨rfl, rfl⟩

set_option maxHeartbeats 1000000 in
theorem difference_any (ao bo : Option Addr) (la lb ca cb : Nat) (m n : Nat) (W : World) (ha : N32 W ao la m) (hb : N32 W bo lb n) (hla : la ≤ 1000000000) (hle : n ≤ m) :
    Calls Try.prog 88 #[.slice ao la ca, .slice bo lb cb] W (Out32 W (m - n)) := by
  obtain ⟨xa, ha, hda, hta, rfl⟩ := ha
  obtain ⟨xb, hb, hdb, htb, rfl⟩ := hb
  have hlb : lb ≤ la := by
    have h1 := val_lt B32_pos hda
    rw [ha.len] at h1
    have := len_le_of_lt B32_gt htb (Nat.lt_of_le_of_lt hle h1)
    rwa [hb.len] at this
  have HA := Lib.hid ha
  have HB := Lib.hid hb
  have HDA := Lib.hid hda
  have HDB := Lib.hid hdb
  have HLE := Lib.hid hle
  clear ha hb hda hdb hle hta htb
  by_cases h0 : la = 0
  · obtain rfl : lb = 0 := by omega
    subst h0
    have ea : xa = [] := List.eq_nil_of_length_eq_zero HA.out.len
    have eb : xb = [] := List.eq_nil_of_length_eq_zero HB.out.len
    subst ea eb
    go_enter Try.func88, Try.ntmps88
    go_wp2_with fail
    refine (duplicate_any _ _ _ _ _ HA.out (by omega)).mono ?_
    rintro e w1 (⟨_, rfl, rfl⟩ | ⟨h, _⟩)
    · go_wp2_with fail
      refine (subtractProduct_nil _ _ _ _).mono ?_
      rintro e w2 ⟨rfl, rfl⟩
      go_wp2_with (go_at_call 98; refine (trim_raw _ _ _ _ _ (Sl.nil _ _ _) (by omega) (by omega)).mono ?_; rintro e w3 ⟨⟨ao', m, rfl, hm, ha', hz', ht, hzz⟩, rfl⟩)
      go_ret
      obtain rfl : m = 0 := by omega
      exact ⟨ao', 0, 0, rfl, N32.nil _ _, Below.refl _ _⟩
    · omega
  · go_enter Try.func88, Try.ntmps88
    go_wp2_with fail
    refine (duplicate_any _ _ _ _ _ HA.out (by omega)).mono ?_
    rintro e w1 (⟨h, _⟩ | ⟨_, rfl, hB, hb1, hz1⟩)
    · omega
    · have H1 := Lib.hid hB
      clear hB
      go_wp2_with fail
      refine (subtractProduct_any W.heap.size 104 0 la la [] xa [] bo lb cb xb 1 1 w1 (by simpa using H1.out) rfl HA.out.len HDA.out ?_ HDB.out rfl (by decide) hlb (by omega) (by have := HLE.out; omega)).mono ?_
      · intro w' hg
        exact HB.out.keep (hb1.grown hg hb1.size (fun k hk => by cases hk; exact Nat.le_refl _))
      · rintro e w2 ⟨rfl, hg2, hz2, seg, hB2, hl2, hd2, hv2⟩
        simp only [List.nil_append, List.append_nil] at hB2
        have H2 := Lib.hid (hB2.whole hl2)
        have HV := Lib.hid hv2
        clear hB2 hv2
        go_wp2_with (go_at_call 98; refine (trim_raw _ _ _ _ _ H2.out (by omega) (by omega)).mono ?_; rintro e w3 ⟨⟨ao', m, rfl, hm, ha', hz', ht, hzz⟩, rfl⟩)
        go_ret
        refine ⟨ao', m, m, rfl, ⟨_, trim_sl H2.out hm ha', hd2.take _, ht, ?_⟩, ?_⟩
        · rw [val_take_of_zeros hzz]
          have := HV.out
          omega
        · exact hb1.grown hg2 hb1.size (fun k hk => by cases hk; exact Nat.le_refl _)
end Go.Proofs.Ytdnnjjclklcihaa
