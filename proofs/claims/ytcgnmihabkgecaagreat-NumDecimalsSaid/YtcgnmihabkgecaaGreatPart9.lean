/- Part 9 of the contracts: Long, DivA, LehF, RatP, Numeral, Law3. -/
import Derived.WalkMore
import Derived.Deep.CutRange
import Derived.Test.YtcgnmihabkgecaaGreatPart8

/- divideLong, divide. -/
set_option linter.unusedVariables false
namespace Go.Proofs.YtcgnmihabkgecaaGreat
open Go.RowKit

/-- what the numbers of a block are worth -/
def readBlk (w : World) (g : Nat) : Nat :=
  match w.heap[g]? with
  | some (.cells c _ _) => val B32 (c.toList.map fun v => match v with | .int _ x => x.toNat | _ => 0)
  | _ => 0

theorem readBlk_of {w : World} {g e : Nat} {zs : List Nat} (h : Blk .u32 w g e zs) : readBlk w g = val B32 zs := by
  unfold readBlk
  rw [show w.heap[g]? = some (.cells (cs .u32 zs) e (0, 0)) from h]
  simp only [cs, List.map_map]
  congr 1
  have : ((fun v => match v with | Value.int _ x => x.toNat | _ => 0) ∘ fun z : Nat => Value.int IntKind.u32 ((z : Nat) : Int)) = id := by
    funext z; simp
  rw [this, List.map_id]

def LongRel (g1 g2 g3 la lq k D N : Nat) (dz : List Nat) (W : World) (av : Value) (wr : World) : Prop :=
  ∃ (i : Nat) (rs qs : List Nat), av = .int .i64 (i : Int) ∧ Blk .u32 wr g1 91 dz ∧ Blk .u32 wr g2 91 rs ∧ Blk .u32 wr g3 91 qs ∧ rs.length = la + 1 ∧ Dig B32 rs ∧ qs.length = lq ∧ Dig B32 qs ∧ i + 1 ≤ lq ∧
    val B32 qs * D + val B32 rs = N ∧ (qs[i]?.getD 0) * D * B32 ^ i + val B32 rs < D * B32 ^ (i + 1) ∧ (∀ j, j < i → qs[j]?.getD 0 = 0) ∧ Below W.heap.size W wr

set_option maxHeartbeats 1000000 in
theorem compare_big (ao bo : Option Addr) (la lb ca cb : Nat) (m n : Nat) (w : World) (ha : N32 w ao la m) (hb : N32 w bo lb n) (hla : la ≤ 2000000000) (hlb : lb ≤ 2000000000) :
    Calls Tryz.prog 65 #[.slice ao la ca, .slice bo lb cb] w (CmpPost m n w) := by
  obtain ⟨xs, ⟨hx, b, off, h0, hc⟩, hd, ht, hv⟩ := ha
  obtain ⟨ys, ⟨hy, b', off', h0', hc'⟩, hd', ht', hv'⟩ := hb
  by_cases hl : la = lb
  · subst hl
    have Hx := Lib.hid hx
    have Hy := Lib.hid hy
    have Hv := Lib.hid hv
    have Hv' := Lib.hid hv'
    have Hd := Lib.hid hd
    have Hd' := Lib.hid hd'
    have H0 := Lib.hid h0
    have H0' := Lib.hid h0'
    have HC := Lib.hid hc
    have HC' := Lib.hid hc'
    clear hx hy hv hv' hd hd' ht ht' h0 h0' hc hc'
    have hbb : ((la : Int) != (la : Int)) = false := by simp
    go_enter Tryz.func65, Tryz.ntmps65
    go_wp2
    go_loopw [5] (fun t wr => ∃ i : Nat, i ≤ la ∧ t = .int .i64 ((i : Int) - 1) ∧ xs.drop i = ys.drop i ∧ Drew w wr) (fun t _ => (intOf t + 1).toNat)
    case atStart => exact ⟨la, Nat.le_refl _, rfl, by rw [List.drop_of_length_le (by have := Hx.out; omega), List.drop_of_length_le (by have := Hy.out; omega)], Drew.refl _⟩
    case round =>
      obtain ⟨i, hi, rfl, hdr, hw⟩ := hrel
      have HD := Lib.hid hdr
      have HW := Lib.hid hw
      clear hdr hw
      by_cases hi0 : i = 0
      · subst hi0
        go_wp2
        go_ret
        refine ⟨ret_int ?_, HW.out⟩
        rw [cmpN_eq]
        have := HD.out
        simp at this
        rw [← Hv.out, ← Hv'.out, this]
      · obtain ⟨j, rfl⟩ : ∃ j, i = j + 1 := ⟨i - 1, by omega⟩
        have hlen : 0 < la := by omega
        obtain rfl := H0.out hlen
        obtain rfl := H0'.out hlen
        have e1 : (((j + 1 : Nat) : Int) - 1) = (j : Int) := by omega
        rw [e1]
        clear e1
        have c1 := (HW.out.cell ⟨b, off + j, none⟩).trans (HC.out j (by omega))
        have c2 := (HW.out.cell ⟨b', off' + j, none⟩).trans (HC'.out j (by omega))
        have b1 : (0 : Int) ≤ (j : Int) := by omega
        have b2 : (j : Int) < (la : Int) := by omega
        obtain ⟨x, hxe⟩ : ∃ x, x = xs[j]?.getD 0 := ⟨_, rfl⟩
        obtain ⟨y, hye⟩ : ∃ x, x = ys[j]?.getD 0 := ⟨_, rfl⟩
        rw [← hxe] at c1
        rw [← hye] at c2
        have Ex := Lib.hid hxe
        have Ey := Lib.hid hye
        clear hxe hye
        have hjx : j < xs.length := by have := Hx.out; omega
        have hxy : xs.length = ys.length := by rw [Hx.out, Hy.out]
        have HXY := Lib.hid hxy
        have HJX := Lib.hid hjx
        clear hjx hxy
        rcases Nat.lt_trichotomy x y with hlt | heq | hgt
        · have t1 : (x : Int) < (y : Int) := by omega
          go_wp2
          go_quiet (fail)
          go_wp2
          go_ret
          refine ⟨ret_int ?_, HW.out.more _⟩
          have hlt2 := hlt
          rw [Ex.out, Ey.out] at hlt2
          have := val_lt_of_part B32_pos HXY.out Hd.out HJX.out HD.out hlt2
          rw [Hv.out, Hv'.out] at this
          rw [cmpN_lt this]
        · subst heq
          go_wp2
          go_quiet (fail)
          go_wp2
          go_quiet (fail)
          go_wp2
          go_roundw
          case rel => exact ⟨j, by omega, rfl, eq_of_drop HXY.out j HJX.out HD.out (by rw [← Ex.out, ← Ey.out]), by first | exact HW.out.more _ | exact (HW.out.more _).more _⟩
          case measure => simp [intOf]
        · have t1 : (y : Int) < (x : Int) := by omega
          have t2 : ¬ (x : Int) < (y : Int) := by omega
          go_wp2
          go_quiet (fail)
          go_wp2
          go_quiet (fail)
          go_wp2
          go_ret
          refine ⟨ret_int ?_, by first | exact HW.out.more _ | exact (HW.out.more _).more _⟩
          have hlt2 := hgt
          rw [Ex.out, Ey.out] at hlt2
          have := val_lt_of_part B32_pos HXY.out.symm Hd'.out (HXY.out ▸ HJX.out) HD.out.symm hlt2
          rw [Hv.out, Hv'.out] at this
          rw [cmpN_gt this]
  · have hbb : ((la : Int) != (lb : Int)) = true := by simp; omega
    rcases Nat.lt_or_gt_of_ne hl with hlt | hgt
    · have t1 : (la : Int) < (lb : Int) := by omega
      have hvv := val_lt_of_len B32_pos hd ht' (by omega)
      rw [hv, hv'] at hvv
      rw [show CmpPost m n w = CmpPost m n w from rfl]
      have HV := Lib.hid hvv
      clear hx hy hv hv' hd hd' ht ht' h0 h0' hc hc' hvv
      go_enter Tryz.func65, Tryz.ntmps65
      go_wp2
      go_ret
      exact ⟨ret_int (cmpN_lt HV.out).symm, Drew.refl _⟩
    · have t1 : ¬ (la : Int) < (lb : Int) := by omega
      have hvv := val_lt_of_len B32_pos hd' ht (by omega)
      rw [hv, hv'] at hvv
      have HV := Lib.hid hvv
      clear hx hy hv hv' hd hd' ht ht' h0 h0' hc hc' hvv
      go_enter Tryz.func65, Tryz.ntmps65
      go_wp2
      go_ret
      exact ⟨ret_int (cmpN_gt HV.out).symm, Drew.refl _⟩

set_option maxHeartbeats 400000 in
theorem shiftRight_nil (s : Nat) (w : World) :
    Calls Tryz.prog 126 #[.slice none 0 0, .int .i64 (s : Int)] w fun e w' => e = .returned (.slice none 0 0) ∧ w = w' := by
  go_enter Tryz.func126, Tryz.ntmps126
  go_wp2
  go_loop [9] (fun iv => iv = .int .i64 0) (fun iv => 0)
  case atStart => rfl
  case round =>
    obtain rfl := hrel
    have HS := Lib.hid (Sl.nil .u32 w none)
    go_wp2_with fail
    refine (trim_raw _ _ _ [] _ HS.out (by omega) (by omega)).mono ?_
    rintro e w3 ⟨⟨ao', m, rfl, hm, ha', hz', ht, hzz⟩, rfl⟩
    obtain rfl : m = 0 := by omega
    obtain rfl := hz' rfl
    clear ha' hz' ht hzz
    go_wp2
    go_ret
    exact ⟨rfl, rfl⟩

theorem shift_top {n m x l s : Nat} (hn : n = m + B32 ^ l * x) (hm : m < B32 ^ l) (hs : blen x + s = 32) : n * 2 ^ s < B32 ^ (l + 1) := by
  have h1 : x + 1 ≤ 2 ^ blen x := blen_lt x
  have h2 : n + 1 ≤ B32 ^ l * (x + 1) := by rw [Nat.mul_add]; omega
  have h3 : (n + 1) * 2 ^ s ≤ B32 ^ l * (x + 1) * 2 ^ s := Nat.mul_le_mul_right _ h2
  have h4 : B32 ^ l * (x + 1) * 2 ^ s ≤ B32 ^ l * 2 ^ blen x * 2 ^ s := Nat.mul_le_mul_right _ (Nat.mul_le_mul_left _ h1)
  have h5 : B32 ^ l * 2 ^ blen x * 2 ^ s = B32 ^ (l + 1) := by
    rw [Nat.mul_assoc, ← Nat.pow_add, hs, Nat.pow_succ]; rfl
  have h6 : 0 < 2 ^ s := Nat.pow_pos (by decide)
  rw [Nat.add_mul] at h3
  omega

set_option maxHeartbeats 4000000 in
theorem divideLong_any (ao bo : Option Addr) (la lb ca cb A n : Nat) (W : World) (ha : N32 W ao la A) (hb : N32 W bo lb n) (hn : 0 < n) (hnA : n ≤ A) (hla : la ≤ 1000000000) :
    Calls Tryz.prog 100 #[.slice ao la ca, .slice bo lb cb] W (DivPost A n W) := by
  have hA := ha.lt
  have hlba : lb ≤ la := by
    obtain ⟨ys, h1, h2, h3, h4⟩ := hb
    have := len_le_of_lt B32_gt h3 (Nat.lt_of_le_of_lt (by rw [h4]; exact hnA) hA)
    rw [h1.len] at this; exact this
  have hb0 := hb
  obtain ⟨xs, ⟨hx, b, off, hbo, hc⟩, hd, ht, hv⟩ := hb
  have hlb0 : 0 < lb := by
    rcases Nat.eq_zero_or_pos lb with h | h
    · subst h
      obtain rfl : xs = [] := List.eq_nil_of_length_eq_zero hx
      simp [val] at hv; omega
    · exact h
  obtain ⟨l, rfl⟩ : ∃ l, lb = l + 1 := ⟨lb - 1, by omega⟩
  obtain rfl := hbo (by omega)
  have hcl := hc l (by omega)
  have hxb := hd.get B32_pos l
  have hne : xs[l]?.getD 0 ≠ 0 := by
    have := ht (by intro e; simp [e] at hx)
    rw [List.getLastD_eq_getLast?, List.getLast?_eq_getElem?, hx] at this
    simpa using this
  have hsplit : n = val B32 (xs.take l) + B32 ^ l * (xs[l]?.getD 0) := by
    rw [← hv, ← val_take_succ, List.take_of_length_le (by omega)]
  have hlow : val B32 (xs.take l) < B32 ^ l := by
    have := val_lt B32_pos (hd.take l)
    rwa [List.length_take, Nat.min_eq_left (by omega)] at this
  have hge : B32 ^ l ≤ n := by
    have := val_ge (B := B32) ht (by intro e; simp [e] at hx)
    rwa [hx, hv] at this
  obtain ⟨x, hxe⟩ : ∃ x, x = xs[l]?.getD 0 := ⟨_, rfl⟩
  rw [← hxe] at hcl hxb hne hsplit
  rw [B32_eq] at hxb
  obtain ⟨s, hs⟩ : ∃ s, blen x + s = 32 := ⟨32 - blen x, by have := (blen_le (n := x) (k := 32)).2 hxb; omega⟩
  have hs32 : s < 32 := by
    have h2 := blen_lt x
    rcases Nat.eq_zero_or_pos (blen x) with h | h
    · rw [h] at h2; simp at h2; exact absurd h2 hne
    · omega
  have HTOP := Lib.hid (shift_top hsplit hlow hs)
  have HGE := Lib.hid hge
  have HA := Lib.hid ha
  have HB := Lib.hid hb0
  have HALT := Lib.hid hA
  have HS := Lib.hid hs
  have HE := Lib.hid (lib_blen x hxb)
  have hbl : blen x ≤ 32 := by omega
  have hsi : (32 : Int) - ((blen x : Nat) : Int) = (s : Int) := by omega
  have HSI := Lib.hid hsi
  clear ha hb0 hA hx hbo hc hd ht hv hlow hsplit hge hs hne hxe hsi hbl
  have hDpos : 0 < n * 2 ^ s := Nat.mul_pos hn (Nat.pow_pos (by decide))
  obtain ⟨D, hDe⟩ : ∃ D, D = n * 2 ^ s := ⟨_, rfl⟩
  obtain ⟨N, hNe⟩ : ∃ N, N = A * 2 ^ s := ⟨_, rfl⟩
  have hstart : N < D * B32 ^ (la - (l + 1) + 1) := by rw [hDe, hNe]; exact div_start (Nat.pow_pos (by decide)) HALT.out (by simpa using HGE.out) hlba (by omega)
  have hDlt : D < B32 ^ (l + 1) := by rw [hDe]; exact HTOP.out
  rw [← hDe] at hDpos
  obtain ⟨lq, hq1, hq2⟩ : ∃ lq, lq + l ≤ la ∧ la ≤ lq + l := ⟨la - l, by omega, by omega⟩
  have HDE := Lib.hid hDe
  have HNE := Lib.hid hNe
  have HST := Lib.hid hstart
  have HDL := Lib.hid hDlt
  clear hDe hNe hstart hDlt
  go_enter Tryz.func100, Tryz.ntmps100
  go_wp2_with fail
  go_step3
  go_wp2_with (go_at_call 107; refine (Tryz.bits_LeadingZeros32 _ _ (by omega) (by omega)).mono ?_; rw [Int.toNat_natCast, HE.out]; rintro e w1 ⟨rfl, hw⟩; obtain rfl : W = w1 := (by first | exact hw | exact hw.symm); clear hw; rw [HSI.out])
  refine (shiftLeft_any _ _ _ n s _ W HB.out rfl hs32 (by omega)).mono ?_
  rintro e w1 ⟨rfl, zs, hz1, hzl, hzd, hzv, hb1⟩
  rw [← HDE.out] at hzv
  have HSL := Lib.hid (hz1.whole hzl)
  have HZ1 := Lib.hid hz1
  have HZL := Lib.hid hzl
  have HZD := Lib.hid hzd
  have HZV := Lib.hid hzv
  have HB1 := Lib.hid hb1
  have hg12 : W.heap.size < w1.heap.size := hz1.lt
  clear hz1 hzl hzd hzv hb1
  go_wp2_with fail
  refine (trim_raw _ _ _ zs _ HSL.out (by omega) (by omega)).mono ?_
  rintro e w2 ⟨⟨ao', k, rfl, hk, ha', hz', ht, hzz⟩, hw⟩
  obtain rfl : w1 = w2 := hw
  have hND : N32 w1 ao' k D := ⟨zs.take k, trim_sl HSL.out hk ha', HZD.out.take _, ht, by rw [val_take_of_zeros hzz, HZV.out]⟩
  have hk0 : 0 < k := by
    rcases Nat.eq_zero_or_pos k with h | h
    · have := hND.zero.2 h; omega
    · exact h
  have hkl : k ≤ l + 1 := hND.len_le HDL.out
  have hdlt : D < B32 ^ k := hND.lt
  obtain rfl := ha' hk0
  have HTK := Lib.hid ht
  have HVK : Hid (val B32 (zs.take k) = D) := by show _ = _; rw [val_take_of_zeros hzz, HZV.out]
  have HDK := Lib.hid hdlt
  clear ha' hz' ht hzz hND hdlt
  go_wp2_with fail
  refine (shiftLeft_any _ _ _ A s _ w1 (HA.out.keep HB1.out) rfl hs32 (by omega)).mono ?_
  rintro e w3 ⟨rfl, rs0, hr1, hrl, hrd, hrv, hb3⟩
  rw [← HNE.out] at hrv
  have HR1 := Lib.hid hr1
  have HRL := Lib.hid hrl
  have HRD := Lib.hid hrd
  have HRV := Lib.hid hrv
  have HB3 := Lib.hid hb3
  have hg23 : w1.heap.size < w3.heap.size := hr1.lt
  have HZ3 := Lib.hid (HZ1.out.below hb3 hg12)
  obtain ⟨g1, hg1⟩ : ∃ g, g = W.heap.size := ⟨_, rfl⟩
  obtain ⟨g2, hg2⟩ : ∃ g, g = w1.heap.size := ⟨_, rfl⟩
  obtain ⟨g3, hg3⟩ : ∃ g, g = w3.heap.size := ⟨_, rfl⟩
  have HG1 := Lib.hid hg1
  have HG2 := Lib.hid hg2
  have HG3 := Lib.hid hg3
  have hlq0 : 0 < lq := by omega
  clear hr1 hrl hrd hrv hb3 hg1 hg2 hg3
  go_wp2_with (at_make; refine wpList_mk rfl _ 23 rfl 91 .u32 4 Tryz.underlying23 (by kernel_rfl) _ lq rfl (by omega) (by omega) (by omega) ?_; intro w4 hQ1 hb4 hz4)
  go_step3
  go_wp2
  go_loopw [10] (fun av wr => LongRel W.heap.size w1.heap.size w3.heap.size la lq k D N zs W av wr) (fun av wr => readBlk wr w1.heap.size + (intOf av).toNat)
  case atStart =>
    have hbW : Below W.heap.size W w4 := (HB1.out.trans (HB3.out.mono HB1.out.size)).trans (hb4.mono (Nat.le_trans HB1.out.size HB3.out.size))
    refine ⟨lq - 1, rs0, _, congrArg (Value.int _) (by omega), HZ3.out.below hb4 (by omega), HR1.out.below hb4 hg23, hQ1, HRL.out, HRD.out, by simp, Dig.replicate B32_pos _, by omega, ?_, ?_, ?_, hbW⟩
    · rw [val_replicate, HRV.out]; simp
    · rw [HRV.out]
      have e : (List.replicate lq 0)[lq - 1]?.getD 0 = 0 := by rw [List.getElem?_replicate]; split <;> rfl
      rw [e]
      have h := HST.out
      rw [show la - (l + 1) + 1 = lq - 1 + 1 by omega] at h
      simpa using h
    · intro j _
      rw [List.getElem?_replicate]; split <;> rfl
  case round =>
    obtain ⟨i, rs, qs, rfl, hz, hr, hq, hrl, hrd, hql, hqd, hi, hN, hlt, hzero, hbel⟩ := hrel
    have GZ := Lib.hid hz
    have GR := Lib.hid hr
    have GQ := Lib.hid hq
    have GRL := Lib.hid hrl
    have GRD := Lib.hid hrd
    have GQL := Lib.hid hql
    have GQD := Lib.hid hqd
    have GN := Lib.hid hN
    have GLT := Lib.hid hlt
    have G0 := Lib.hid hzero
    have GB := Lib.hid hbel
    have GM := Lib.hid (readBlk_of hr)
    clear hz hr hq hrl hrd hql hqd hN hlt hzero hbel
    have hrs : rs = rs.take i ++ (rs.drop i).take (k + 1) ++ rs.drop (i + (k + 1)) := by
      rw [List.append_assoc, ← List.drop_drop, List.take_append_drop, List.take_append_drop]
    obtain ⟨pre, hpre⟩ : ∃ p, p = rs.take i := ⟨_, rfl⟩
    obtain ⟨seg, hseg⟩ : ∃ p, p = (rs.drop i).take (k + 1) := ⟨_, rfl⟩
    obtain ⟨post, hpost⟩ : ∃ p, p = rs.drop (i + (k + 1)) := ⟨_, rfl⟩
    rw [← hpre, ← hseg, ← hpost] at hrs
    have hprel : pre.length = i := by rw [hpre, List.length_take, GRL.out]; omega
    have hsegl : seg.length = k + 1 := by rw [hseg, List.length_take, List.length_drop, GRL.out]; omega
    have hdpre : Dig B32 pre := by rw [hpre]; exact GRD.out.take _
    have hdseg : Dig B32 seg := by rw [hseg]; exact (GRD.out.drop _).take _
    have hdpost : Dig B32 post := by rw [hpost]; exact GRD.out.drop _
    have hrlt : val B32 rs < D * B32 ^ (i + 1) := Nat.lt_of_le_of_lt (Nat.le_add_left _ _) GLT.out
    have hp0 : val B32 post = 0 := by
      refine post_zero B32_pos hprel hsegl ?_
      rw [← hrs]
      refine Nat.lt_of_lt_of_le hrlt ?_
      rw [show i + (k + 1) = k + (i + 1) by omega, Nat.pow_add B32 k (i + 1)]
      exact Nat.mul_le_mul_right _ (Nat.le_of_lt HDK.out)
    have hrv : val B32 rs = val B32 pre + B32 ^ i * val B32 seg := by
      rw [hrs, three_val _ _ _ hp0, hprel]
    have hPB : val B32 seg < D * B32 := by
      have h1 : B32 ^ i * val B32 seg < B32 ^ i * (D * B32) := by
        have e : D * B32 ^ (i + 1) = B32 ^ i * (D * B32) := by rw [Nat.pow_succ]; grind
        omega
      exact Nat.lt_of_mul_lt_mul_left h1
    have hprelt : val B32 pre < B32 ^ i := by have := val_lt B32_pos hdpre; rwa [hprel] at this
    have hsl : Sl .u32 wr (some ⟨w1.heap.size, i, none⟩) (i + k + 1 - i) seg := by
      have h := GR.out.sl i (k + 1) (by rw [GRL.out]; omega)
      rw [show i + k + 1 - i = k + 1 by omega, hseg]
      exact h
    have hdsl : Sl .u32 wr (some ⟨W.heap.size, 0, none⟩) k (zs.take k) := GZ.out.sl0 k (by rw [HZL.out]; omega)
    have HRS := Lib.hid hrs
    have HPREL := Lib.hid hprel
    have HSEGL := Lib.hid hsegl
    have HDPRE := Lib.hid hdpre
    have HDSEG := Lib.hid hdseg
    have HDPOST := Lib.hid hdpost
    have HRV2 := Lib.hid hrv
    have HPB := Lib.hid hPB
    have HPRELT := Lib.hid hprelt
    have HP0 := Lib.hid hp0
    have HSG := Lib.hid hsl
    have HDSL := Lib.hid hdsl
    have hik : i + k ≤ la := by omega
    clear hpre hseg hpost hrs hprel hsegl hdpre hdseg hdpost hrlt hp0 hrv hPB hprelt hsl hdsl
    go_wp2_with fail
    refine (trim_raw _ _ _ seg _ HSG.out (by omega) (by omega)).mono ?_
    rintro e w5 ⟨⟨a5, m5, rfl, hm5, ha5, hz5, ht5, hzz5⟩, hw⟩
    obtain rfl : wr = w5 := hw
    have HP := Lib.hid (show N32 wr a5 m5 (val B32 seg) from ⟨seg.take m5, trim_sl HSG.out hm5 ha5, HDSEG.out.take _, ht5, val_take_of_zeros hzz5⟩)
    have HDV := Lib.hid (show N32 wr (some ⟨W.heap.size, 0, none⟩) k D from ⟨zs.take k, HDSL.out, HZD.out.take _, HTK.out, HVK.out⟩)
    clear ha5 hz5 ht5 hzz5
    go_wp2_with fail
    refine (compare_big _ _ _ _ _ _ (val B32 seg) D wr HP.out HDV.out (by omega) (by omega)).mono ?_
    rintro e w6 ⟨rfl, j, rfl⟩
    by_cases hPD : D ≤ val B32 seg
    · obtain ⟨z, hz⟩ : ∃ z, z = cmpN (val B32 seg) D := ⟨_, rfl⟩
      rw [← hz]
      have tz : 0 ≤ z := by rw [hz]; unfold cmpN; rw [if_neg (by omega)]; split <;> decide
      have HPD := Lib.hid hPD
      clear hz hPD
      go_wp2_with fail
      refine (estimate_any _ _ _ _ _ _ seg (zs.take k) _ (by omega) hk0 (HSG.out.drewN j) HDSEG.out (HDSL.out.drewN j) (HZD.out.take _) (by omega) (by rw [HVK.out]; exact HPD.out) (by rw [HVK.out]; exact HPB.out)).mono ?_
      rintro e w7 ⟨t, rfl, ht0, htB, htD, m, rfl⟩
      rw [HVK.out] at htD
      rw [B32_eq] at htB
      have HTD := Lib.hid htD
      clear htD
      have hq0 := GQD.out.get B32_pos i
      obtain ⟨q, hqe⟩ : ∃ q, q = qs[i]?.getD 0 := ⟨_, rfl⟩
      rw [← hqe] at hq0
      rw [B32_eq] at hq0
      have HQE := Lib.hid hqe
      clear hqe
      go_wp2_with fail
      have hblk : Blk .u32 (wr.drewN (j + m)) w1.heap.size 91 (pre ++ seg ++ post) := by rw [← HRS.out]; exact GR.out
      refine (subtractProduct_any w1.heap.size 91 i (i + k + 1 - i) _ pre seg post _ k _ (zs.take k) _ t _ hblk HPREL.out.symm (by rw [HSEGL.out]; omega) HDSEG.out
        (fun w' hg => ((GZ.out.drewN (j + m)).grown hg (by simp; omega)).sl0 k (by rw [HZL.out]; omega)) (HZD.out.take _) rfl htB (by omega) (by omega) (by rw [HVK.out]; exact HTD.out)).mono ?_
      rintro e w8 ⟨rfl, hg8, hs8, seg', hB8, hl8, hd8, hv8⟩
      rw [HVK.out] at hv8
      have hq8 : Blk .u32 w8 w3.heap.size 91 qs := (GQ.out.drewN (j + m)).grown hg8 (by simp; omega)
      have hz8 : Blk .u32 w8 W.heap.size 91 zs := (GZ.out.drewN (j + m)).grown hg8 (by simp; omega)
      have hvset := val_set B32 qs i (q + t) (by rw [GQL.out]; omega)
      rw [← HQE.out] at hvset
      have hq2 : val B32 (qs.set i (q + t)) = val B32 qs + B32 ^ i * t := by rw [Nat.mul_add] at hvset; omega
      have hlt2 := GLT.out
      rw [← HQE.out] at hlt2
      have hr2 : val B32 (pre ++ seg' ++ post) = val B32 pre + B32 ^ i * val B32 seg' := by rw [three_val _ _ _ HP0.out, HPREL.out]
      obtain ⟨r1, r2, r3, r4⟩ := div_sub HRV2.out hr2 hv8 hq2 GN.out hlt2
      rw [B32_eq] at r4
      have cq := hq8.cell i (by rw [GQL.out]; omega)
      rw [← HQE.out] at cq
      have fq := hq8.frozen i
      have b1 : (i : Int) < (lq : Int) := by omega
      have b0 : (0 : Int) ≤ (i : Int) := by omega
      have HB8 := Lib.hid hB8
      have HQ8 := Lib.hid hq8
      have HZ8 := Lib.hid hz8
      have HG8 := Lib.hid hg8
      have HL8 := Lib.hid hl8
      have HD8 := Lib.hid hd8
      have R1 := Lib.hid r1
      have R2 := Lib.hid r2
      have R3 := Lib.hid r3
      have htD0 : 0 < B32 ^ i * (t * D) := Nat.mul_pos (Nat.pow_pos B32_pos) (Nat.mul_pos ht0 hDpos)
      have hlt3 : val B32 (pre ++ seg' ++ post) < val B32 rs := by omega
      have HLT3 := Lib.hid hlt3
      have hqt : (q : Int) + (t : Int) ≤ 4294967295 := by omega
      have HSZ := Lib.hid (show w3.heap.size < w8.heap.size from hq8.lt)
      clear hB8 hq8 hz8 hg8 hl8 hd8 r1 r2 r3 hvset hq2 hlt2 hr2 hv8 hblk htD0 hlt3
      go_wp2
      have hb2 : Blk .u32 (w8.setCell ⟨w3.heap.size, i, none⟩ (.int .u32 ((q : Int) + (t : Int)))) w1.heap.size 91 (pre ++ seg' ++ post) := HB8.out.of_block (Below.heap_setCell _ _ _ _ (by simp; omega))
      refine ⟨⟨i, pre ++ seg' ++ post, qs.set i (q + t), rfl, HZ8.out.of_block (Below.heap_setCell _ _ _ _ (by simp; omega)), hb2, HQ8.out.set i (q + t) _ (by push_cast; rfl), ?_, (HDPRE.out.append HD8.out).append HDPOST.out, by simpa using GQL.out, GQD.out.set i (by rw [B32_eq]; exact r4), by omega, R1.out, ?_, ?_, ?_⟩, ?_⟩
      · have h := congrArg List.length HRS.out
        rw [GRL.out] at h
        simp only [List.length_append, HSEGL.out] at h
        simp only [List.length_append, HL8.out]
        omega
      · rw [List.getElem?_set_self (by rw [GQL.out]; omega)]
        exact R2.out
      · intro j' hj'
        rw [List.getElem?_set_ne (by omega)]
        exact G0.out j' hj'
      · refine ((below_drewN1 GB.out (j + m)).grown HG8.out GB.out.size (fun k' hk' => ?_)).setCell (by simp; omega) _
        cases hk'; omega
      · rw [readBlk_of hb2, GM.out]
        have := HLT3.out
        simp only [intOf]
        omega
    · have hlt : val B32 seg < D := by omega
      rw [cmpN_lt hlt]
      have HLT := Lib.hid hlt
      clear hPD hlt
      by_cases hi0 : i = 0
      · subst hi0
        have b1 : ¬ (0 : Int) < ((0 : Nat) : Int) := by decide
        have hRD : val B32 rs < D := by
          have h1 := HRV2.out
          have h2 := HPRELT.out
          have h3 := HLT.out
          simp only [Nat.pow_zero, Nat.one_mul] at h1 h2
          omega
        have hfin := div_end (A := A) (b := n) (s := 2 ^ s) (Q := val B32 qs) (R := val B32 rs) (Nat.pow_pos (by decide)) hn (by rw [← HDE.out, ← HNE.out]; exact GN.out) (by rw [← HDE.out]; exact hRD)
        have HFIN := Lib.hid hfin
        have HSQ := Lib.hid ((GQ.out.drewN j).whole GQL.out)
        have HSR := Lib.hid ((GR.out.drewN j).whole GRL.out)
        clear hRD hfin
        go_wp2_with fail
        refine (trim_raw _ _ _ qs _ HSQ.out (by omega) (by omega)).mono ?_
        rintro e w9 ⟨⟨qo, qk, rfl, hqk, hqo, hqz, hqt, hqzz⟩, hw⟩
        obtain rfl := hw
        have HQO := Lib.hid hqo
        have HQT := Lib.hid hqt
        have HQZZ := Lib.hid hqzz
        clear hqo hqz hqt hqzz
        go_wp2_with fail
        refine (trim_raw _ _ _ rs _ HSR.out (by omega) (by omega)).mono ?_
        rintro e w9 ⟨⟨ro, rk, rfl, hrk, hro, hrz, hrt, hrzz⟩, hw⟩
        obtain rfl := hw
        by_cases hrk0 : rk = 0
        · have hr0 : val B32 rs = 0 := by
            rw [← val_take_of_zeros hrzz, hrk0]; rfl
          have HR0 := Lib.hid hr0
          obtain rfl := hrz hrk0
          subst hrk0
          clear hro hrt hrzz hr0
          go_wp2_with fail
          refine (shiftRight_nil s _).mono ?_
          rintro e w9 ⟨rfl, hw⟩
          obtain rfl := hw
          go_wp2
          rw [Exit.noGoto_ret]
          go_ret2
          refine ⟨qo, qk, qk, none, 0, 0, rfl, ?_, ?_, below_drewN1 GB.out j⟩
          · rw [← HFIN.out.1]
            exact ⟨qs.take qk, trim_sl HSQ.out hqk HQO.out, GQD.out.take _, HQT.out, val_take_of_zeros HQZZ.out⟩
          · rw [← HFIN.out.2, HR0.out, Nat.zero_div]
            exact N32.nil _ _
        · obtain rfl := hro (by omega)
          have hrv : val B32 (rs.take rk) = val B32 rs := val_take_of_zeros hrzz
          have HRV3 := Lib.hid hrv
          clear hro hrz hrt hrzz hrv
          have hblk : Blk .u32 (wr.drewN j) w1.heap.size 91 (rs.take rk ++ rs.drop rk) := by rw [List.take_append_drop]; exact GR.out
          have HBLK := Lib.hid hblk
          clear hblk
          go_wp2_with fail
          refine (shiftRight_any w1.heap.size 91 rk _ s (rs.take rk) (rs.drop rk) _ _ HBLK.out (by rw [List.length_take, GRL.out]; omega) (GRD.out.take _) rfl hs32 (by omega) (Nat.le_refl _) (by omega)).mono ?_
          rintro e w9 ⟨so, sk, rfl, hsn, hsg, hsz⟩
          have HSN := Lib.hid hsn
          have HSG2 := Lib.hid hsg
          clear hsn hsg hsz
          go_wp2
          rw [Exit.noGoto_ret]
          go_ret2
          have hq9 : Blk .u32 w9 w3.heap.size 91 qs := (GQ.out.drewN j).grown HSG2.out (by simp; omega)
          refine ⟨qo, qk, qk, so, sk, sk, rfl, ?_, ?_, ?_⟩
          · rw [← HFIN.out.1]
            exact ⟨qs.take qk, trim_sl (hq9.whole GQL.out) hqk HQO.out, GQD.out.take _, HQT.out, val_take_of_zeros HQZZ.out⟩
          · rw [← HFIN.out.2, ← HRV3.out]
            exact HSN.out
          · refine (below_drewN1 GB.out j).grown HSG2.out GB.out.size (fun k' hk' => ?_)
            cases hk'; omega
      · obtain ⟨i', rfl⟩ : ∃ i', i = i' + 1 := ⟨i - 1, by omega⟩
        have b1 : (0 : Int) < ((i' + 1 : Nat) : Int) := by omega
        go_wp2
        refine ⟨⟨i', rs, qs, rfl, GZ.out.drewN j, GR.out.drewN j, GQ.out.drewN j, GRL.out, GRD.out, GQL.out, GQD.out, by omega, GN.out, ?_, fun j' hj' => G0.out j' (by omega), below_drewN1 GB.out j⟩, ?_⟩
        · rw [G0.out i' (by omega)]
          have := div_down HRV2.out HPRELT.out HLT.out
          simpa using this
        · have e : readBlk (wr.drewN j) w1.heap.size = readBlk wr w1.heap.size := rfl
          rw [e]
          simp only [intOf]
          omega
end Go.Proofs.YtcgnmihabkgecaaGreat

/- divide, for all numbers. -/
set_option linter.unusedVariables false
namespace Go.Proofs.YtcgnmihabkgecaaGreat
open Go.RowKit

set_option maxHeartbeats 1000000 in
theorem divide_ok (m n : Nat) (hn : 0 < n) : DivOk m n := by
  intro ao bo la lb ca cb W ha hb hla hlb
  by_cases h1 : lb = 1
  · have hlt := hb.lt
    rw [h1, Nat.pow_one] at hlt
    exact divide_easy m n hn hlt ao bo la lb ca cb W ha hb hla hlb
  · have hb0 : ((lb : Int) == 1) = false := by simp; omega
    have HA := Lib.hid ha
    have HB := Lib.hid hb
    clear ha hb h1
    by_cases hmn : m < n
    · have HM := Lib.hid hmn
      go_enter Tryz.func63, Tryz.ntmps63
      go_wp2_with fail
      refine (compare_any _ _ _ _ _ _ m n W HA.out HB.out hla hlb).mono ?_
      rintro e w1 ⟨rfl, j, rfl⟩
      rw [cmpN_lt HM.out]
      have HA1 := Lib.hid (HA.out.drewN j)
      clear hmn
      go_wp2_with fail
      refine (duplicate_n _ _ _ m _ HA1.out hla).mono ?_
      rintro e w2 ⟨do_, dc, rfl, hd, hb1⟩
      have HD := Lib.hid hd
      have HB1 := Lib.hid hb1
      clear hd hb1
      go_wp2
      go_ret2
      refine ⟨none, 0, 0, do_, la, dc, rfl, ?_, ?_, ?_⟩
      · rw [Nat.div_eq_of_lt HM.out]; exact N32.nil _ _
      · rw [Nat.mod_eq_of_lt HM.out]; exact HD.out
      · exact (below_drewN1 (Below.refl _ W) j).trans HB1.out
    · obtain ⟨z, hz⟩ : ∃ z, z = cmpN m n := ⟨_, rfl⟩
      have tz : 0 ≤ z := by rw [hz]; unfold cmpN; rw [if_neg (by omega)]; split <;> decide
      have HZ := Lib.hid hz
      have hnm : n ≤ m := by omega
      clear hz hmn
      go_enter Tryz.func63, Tryz.ntmps63
      go_wp2_with fail
      refine (compare_any _ _ _ _ _ _ m n W HA.out HB.out hla hlb).mono ?_
      rintro e w1 ⟨rfl, j, rfl⟩
      rw [← HZ.out]
      go_wp2_with fail
      refine (divideLong_any _ _ _ _ _ _ m n _ (HA.out.drewN j) (HB.out.drewN j) hn hnm hla).mono ?_
      rintro e w2 ⟨qo, ql, qc, ro, rl, rc, rfl, hq, hr, hb1⟩
      have HQ := Lib.hid hq
      have HR := Lib.hid hr
      have HB1 := Lib.hid hb1
      clear hq hr hb1
      go_wp2
      go_ret2
      exact ⟨qo, ql, qc, ro, rl, rc, rfl, HQ.out, HR.out, (below_drewN1 (Below.refl _ W) j).trans HB1.out⟩
end Go.Proofs.YtcgnmihabkgecaaGreat

/- commonDivisor, for all numbers. -/
set_option linter.unusedVariables false
namespace Go.Proofs.YtcgnmihabkgecaaGreat
open Go.RowKit

theorem readNat_n {w : World} {ao : Option Addr} {len cap n : Nat} (h : N32 w ao len n) : readNat w (.slice ao len cap) = n := by
  obtain ⟨xs, hs, hd, ht, hv⟩ := h
  rw [readNat_of hs, hv]

theorem cmpN_neg {m n : Nat} : cmpN m n < 0 ↔ m < n := by
  unfold cmpN
  by_cases h : m < n
  · simp [h]
  · simp only [h, iff_false, if_false]
    split <;> omega

theorem blen_top {n low : Nat} (h : blen n = low + 64) : n / 2 ^ low < 18446744073709551616 := by
  have h1 := blen_lt n
  rw [h, Nat.pow_add] at h1
  rw [Nat.div_lt_iff_lt_mul (Nat.pow_pos (by decide)), Nat.mul_comm]
  exact h1

def GcdRel (L G : Nat) (W : World) (av bv : Value) (wr : World) : Prop :=
  ∃ (ao bo : Option Addr) (la lb ca cb A B : Nat), av = .slice ao la ca ∧ bv = .slice bo lb cb ∧ N32 wr ao la A ∧ N32 wr bo lb B ∧ B ≤ A ∧ A < B32 ^ L ∧ Nat.gcd A B = G ∧ Below W.heap.size W wr

set_option maxRecDepth 8000 in
set_option maxHeartbeats 4000000 in
theorem gcd_ok (m n : Nat) : GcdOk m n := by
  intro ao bo la lb ca cb W ha hb hla hlb
  obtain ⟨L, hLe⟩ : ∃ L, L = max la lb := ⟨_, rfl⟩
  have hL : L ≤ 1000000000 := by omega
  have hmL : m < B32 ^ L := Nat.lt_of_lt_of_le ha.lt (Nat.pow_le_pow_right B32_pos (by omega))
  have hnL : n < B32 ^ L := Nat.lt_of_lt_of_le hb.lt (Nat.pow_le_pow_right B32_pos (by omega))
  have HML := Lib.hid hmL
  have HNL := Lib.hid hnL
  have HA := Lib.hid ha
  have HB := Lib.hid hb
  obtain ⟨G, hG⟩ : ∃ G, G = Nat.gcd m n := ⟨_, rfl⟩
  have HG := Lib.hid hG
  rw [← hG]
  clear ha hb hmL hnL hLe hG
  go_enter Tryz.func34, Tryz.ntmps34
  go_wp2_with fail
  refine (duplicate_n _ _ _ m _ HA.out hla).mono ?_
  rintro e w1 ⟨ao1, ca1, rfl, ha1, hb1⟩
  have HA1 := Lib.hid ha1
  have HW1 := Lib.hid hb1
  clear ha1 hb1
  go_wp2_with fail
  refine (duplicate_n _ _ _ n _ (HB.out.keep HW1.out) hlb).mono ?_
  rintro e w2 ⟨bo2, cb2, rfl, hb2, hw2⟩
  have HA2 := Lib.hid (HA1.out.keep hw2)
  have HB2 := Lib.hid hb2
  have HW2 := Lib.hid (below_then HW1.out hw2)
  clear hb2 hw2
  go_wp2_with fail
  refine (compare_any _ _ _ _ _ _ m n _ HA2.out HB2.out hla hlb).mono ?_
  rintro e w3 ⟨rfl, hd3⟩
  have HA3 := Lib.hid (HA2.out.keep hd3.below)
  have HB3 := Lib.hid (HB2.out.keep hd3.below)
  have HW3 := Lib.hid (HW2.out.trans (hd3.below))
  clear hd3
  obtain ⟨cc, hcc⟩ : ∃ c, c = cmpN m n := ⟨_, rfl⟩
  rw [← hcc]
  have HC := Lib.hid hcc
  clear hcc
  go_upto_if 16 with fail
  go_cut [0, 1] from 13 to 18 (fun av bv wx => GcdRel L G W av bv wx)
  case first =>
    by_cases hmn : m < n
    · have t1 : cc < 0 := by rw [HC.out]; exact cmpN_neg.2 hmn
      go_wp2_with fail
      go_meet
      case rel => exact ⟨bo2, ao1, lb, la, cb2, ca1, n, m, rfl, rfl, HB3.out, HA3.out, by omega, HNL.out, by rw [HG.out, Nat.gcd_comm], HW3.out⟩
    · have t1 : ¬ cc < 0 := by rw [HC.out]; exact fun h => hmn (cmpN_neg.1 h)
      go_wp2_with fail
      go_meet
      case rel => exact ⟨ao1, bo2, la, lb, ca1, cb2, m, n, rfl, rfl, HA3.out, HB3.out, by omega, HML.out, HG.out.symm, HW3.out⟩
  case rest =>
    clear HA HB HA1 HA2 HB2 HW1 HW2 HA3 HB3 HW3 HC HG HML HNL
    go_wp2_with fail
    go_loopw [0, 1] (fun av bv wr => GcdRel L G W av bv wr) (fun av bv wr => readNat wr av + readNat wr bv)
    case atStart => exact hcut
    case round =>
      obtain ⟨ao, bo, la, lb, ca, cb, A, B, rfl, rfl, ha, hb, hBA, hAL, hG, hw⟩ := hrel
      have hla : la ≤ 1000000000 := Nat.le_trans (ha.len_le hAL) hL
      have hlb : lb ≤ 1000000000 := Nat.le_trans (hb.len_le (Nat.lt_of_le_of_lt hBA hAL)) hL
      have HA := Lib.hid ha
      have HB := Lib.hid hb
      have HAL := Lib.hid hAL
      have HG := Lib.hid hG
      have HW := Lib.hid hw
      clear ha hb hAL hG hw
      by_cases hl0 : lb = 0
      · have hB0 : B = 0 := HB.out.zero.2 hl0
        subst hl0
        have HR : Hid (G = A) := by show _ = _; rw [← HG.out, hB0, Nat.gcd_zero_right]
        clear hB0
        go_wp2
        go_ret
        exact ⟨ao, la, ca, rfl, by rw [HR.out]; exact HA.out, HW.out⟩
      · have b1 : (0 : Int) < (lb : Int) := by omega
        have b2 : ((lb : Int) == 0) = false := by simp; omega
        have hB0 : 0 < B := by
          rcases Nat.eq_zero_or_pos B with h | h
          · exact absurd (HB.out.zero.1 h) hl0
          · exact h
        by_cases h64 : blen A ≤ 64
        · have t1 : ¬ (64 : Int) < (blen A : Int) := by omega
          have hA64 : A < 18446744073709551616 := blen_le.1 h64
          have hla2 : la ≤ 2 := HA.out.len_le (small2 hA64)
          have hlb2 : lb ≤ 2 := HB.out.len_le (small2 (Nat.lt_of_le_of_lt hBA hA64))
          clear h64
          go_wp2_with fail
          refine (bitLength_any _ _ _ A _ HA.out hla).mono ?_
          rintro e w4 ⟨rfl, rfl⟩
          go_wp2_with fail
          refine (toWord_any _ _ _ A _ HA.out hla2).mono ?_
          rintro e w5 ⟨rfl, rfl⟩
          go_wp2_with fail
          refine (toWord_any _ _ _ B _ HB.out hlb2).mono ?_
          rintro e w6 ⟨rfl, rfl⟩
          go_wp2_with fail
          refine (commonWord_any _ _ A B _ rfl rfl hA64 (Nat.lt_of_le_of_lt hBA hA64)).mono ?_
          rintro e w7 ⟨rfl, hd7⟩
          go_wp2_with fail
          refine (fromWord_any _ (Nat.gcd A B) _ rfl (Nat.le_trans (Nat.gcd_le_right A hB0) (by omega))).mono ?_
          rintro e w8 ⟨ro, rl, rc, rfl, hr, hb8⟩
          go_wp2
          go_ret
          exact ⟨ro, rl, rc, rfl, by rw [← HG.out]; exact hr, below_then (HW.out.trans hd7.below) hb8⟩
        · obtain ⟨low, hlow⟩ : ∃ low, blen A = low + 64 := ⟨blen A - 64, by omega⟩
          have t1 : (64 : Int) < (blen A : Int) := by omega
          have t2 : (blen A : Int) - 64 = (low : Int) := by omega
          have hlw : low ≤ 100000000000 := by
            have h1 := HA.out.lt
            have h2 : blen A ≤ 32 * la := by
              refine blen_le.2 ?_
              have : B32 ^ la = 2 ^ (32 * la) := by rw [Nat.pow_mul]; rfl
              rwa [← this]
            omega
          have hbA : blen A ≤ 100000000064 := by omega
          have hAt := blen_top hlow
          have hBt : B / 2 ^ low ≤ A / 2 ^ low := Nat.div_le_div_right hBA
          have HAT := Lib.hid hAt
          have HBT := Lib.hid hBt
          clear hlow h64 hAt hBt
          go_wp2_with fail
          refine (bitLength_any _ _ _ A _ HA.out hla).mono ?_
          rintro e w4 ⟨rfl, rfl⟩
          go_wp2_with fail
          refine (bitLength_any _ _ _ A _ HA.out hla).mono ?_
          rintro e w5 ⟨rfl, rfl⟩
          go_wp2_with fail
          refine (window_any _ _ _ A low _ _ HA.out (by first | exact t2 | rfl) hla hlw).mono ?_
          rintro e w6 ⟨rfl, hd6⟩
          rw [Nat.mod_eq_of_lt HAT.out]
          have HA6 := Lib.hid (HA.out.keep hd6.below)
          have HB6 := Lib.hid (HB.out.keep hd6.below)
          have HW6 := Lib.hid (HW.out.trans hd6.below)
          clear hd6
          go_wp2_with fail
          refine (window_any _ _ _ B low _ _ HB6.out (by first | exact t2 | rfl) hlb hlw).mono ?_
          rintro e w7 ⟨rfl, hd7⟩
          rw [Nat.mod_eq_of_lt (Nat.lt_of_le_of_lt HBT.out HAT.out)]
          have HA7 := Lib.hid (HA6.out.keep hd7.below)
          have HB7 := Lib.hid (HB6.out.keep hd7.below)
          have HW7 := Lib.hid (HW6.out.trans hd7.below)
          clear hd7
          go_wp2_with fail
          refine (foresee_any (A / 2 ^ low) (B / 2 ^ low) _ _ _ rfl rfl HAT.out HBT.out).mono ?_
          rintro e w8 ⟨α, β, γ, δ, odd, rfl, hfo, hb8⟩
          have HA8 := Lib.hid (HA7.out.keep hb8)
          have HB8 := Lib.hid (HB7.out.keep hb8)
          have HW8 := Lib.hid (below_then HW7.out hb8)
          have HFO := Lib.hid hfo
          clear hb8 hfo
          have HKA := Lib.hid (readNat_n (cap := ca) HA.out)
          have HKB := Lib.hid (readNat_n (cap := cb) HB.out)
          have HA9 := Lib.hid (HA8.out.keep (box_below w8 100 #[.int .u64 (α : Int), .int .u64 (β : Int), .int .u64 (γ : Int), .int .u64 (δ : Int), .bool odd]))
          have HB9 := Lib.hid (HB8.out.keep (box_below w8 100 #[.int .u64 (α : Int), .int .u64 (β : Int), .int .u64 (γ : Int), .int .u64 (δ : Int), .bool odd]))
          have HW9 := Lib.hid (below_then HW8.out (box_below w8 100 #[.int .u64 (α : Int), .int .u64 (β : Int), .int .u64 (γ : Int), .int .u64 (δ : Int), .bool odd]))
          clear HA6 HB6 HW6 HA7 HB7 HW7 HA8 HB8 HW8
          by_cases hβ : β = 0
          · subst hβ
            go_wp2_with fail
            refine (divide_ok A B hB0 _ _ _ _ _ _ _ HA9.out HB9.out hla hlb).mono ?_
            rintro e w9 ⟨qo, ql, qc, ro, rl, rc, rfl, hq9, hr9, hb9⟩
            have HR10 := Lib.hid hr9
            have HB10 := Lib.hid (HB9.out.keep hb9)
            have HW10 := Lib.hid (below_then HW9.out hb9)
            clear hq9 hr9 hb9
            go_wp2_with fail
            go_roundw
            case rel => exact ⟨bo, ro, lb, rl, cb, rc, B, A % B, rfl, rfl, HB10.out, HR10.out, Nat.le_of_lt (Nat.mod_lt _ hB0), Nat.lt_of_le_of_lt hBA HAL.out, by rw [← HG.out, Nat.gcd_comm A B, Nat.gcd_rec B A, Nat.gcd_comm], HW10.out⟩
            case measure => rw [readNat_n HB10.out, readNat_n HR10.out, HKA.out, HKB.out]; have := Nat.mod_lt A hB0; omega
          · have hβ0 : ((β : Int) == 0) = false := by simp; omega
            have hfo := HFO.out.resolve_left hβ
            obtain ⟨A', B', hst⟩ := Fore.stepped (Nat.pow_pos (n := low) (show 0 < 2 by decide)) hfo
            obtain ⟨_, _, _, _, _, _, k1, k2, k3, k4, k5, k6, _⟩ := hfo
            have hle := hst.le (by omega) k5 k2
            have HST := Lib.hid hst
            clear hst hβ
            go_wp2_with fail
            refine (apply_any _ _ _ _ _ _ A B α β γ δ A' B' odd _ HA9.out HB9.out hla hlb (by omega) (by omega) (by omega) k6 HST.out hle.1 hle.2.1).mono ?_
            rintro e w9 ⟨ao9, la9, ca9, bo9, lb9, cb9, rfl, ha9, hb9, hbel9⟩
            have HA10 := Lib.hid ha9
            have HB10 := Lib.hid hb9
            have HW10 := Lib.hid (below_then HW9.out hbel9)
            clear ha9 hb9 hbel9
            go_wp2_with fail
            go_roundw
            case rel => exact ⟨ao9, bo9, la9, lb9, ca9, cb9, A', B', rfl, rfl, HA10.out, HB10.out, Nat.le_of_lt HST.out.lt, Nat.lt_of_le_of_lt hle.1 HAL.out, HST.out.gcd.trans HG.out, HW10.out⟩
            case measure => rw [readNat_n HA10.out, readNat_n HB10.out, HKA.out, HKB.out]; omega
end Go.Proofs.YtcgnmihabkgecaaGreat

/- ParseRat. -/
set_option linter.unusedVariables false
namespace Go.Proofs.YtcgnmihabkgecaaGreat
open Go.RowKit Go.Proofs

set_option maxHeartbeats 2000000 in
theorem parseRat_none (a : List UInt8) (W : World) (hl : a.length ≤ 100000000) (hc : 47 ∉ a) :
    Calls Tryz.prog 8 #[.string ⟨a.toArray⟩] W (OutRE W a none) := by
  have hf : Fr W (W.alloc (.cells #[.bool false, .slice none 0 0, .slice none 0 0] 27)) [(27, #[.bool false, .slice none 0 0, .slice none 0 0])] := (Fr.nil W).alloc rfl _ _
  have HF := Lib.hid hf
  clear hf
  go_enter Tryz.func8, Tryz.ntmps8
  go_wp2_with fail
  refine (cut_none a 47 _ hc).mono ?_
  rintro e w1 ⟨rfl, rfl⟩
  go_wp2_with fail
  refine (isNumeral_any a _ (by omega)).mono ?_
  cases hn : isNum a with
  | false =>
    rintro e w1 ⟨rfl, rfl⟩
    have HN := Lib.hid hn
    clear hn
    go_wp2
    exact bodyPost_ret (v := .tuple #[.agg #[.bool false, .slice none 0 0, .slice none 0 0], .int .i64 4]) (by simp [results, Tryz.results8, go_sem]) rfl ⟨false, none, 0, 0, none, 0, 0, 4, 0, 1, rfl, by omega, by omega, Q32.zero _, HF.out.below, .inl ⟨HN.out, rfl, rfl, rfl⟩⟩
  | true =>
    rintro e w1 ⟨rfl, rfl⟩
    by_cases hfit : Fits (numZ a)
    · have HN := Lib.hid hn
      have HFIT := Lib.hid hfit
      go_wp2_with fail
      refine ((readNumeral_any a _ hl hn).mono fun e w h => h.fit hfit).mono ?_
      clear hn hfit
      rintro e w2 ⟨na, ao, la, ca, rfl, hla, hz, hb⟩
      have HF2 := Lib.hid (HF.out.later hb)
      have hf3 : Fr w2 (w2.alloc (.cells #[.bool na, .slice ao la ca] 25)) [(25, #[.bool na, .slice ao la ca])] := (Fr.nil w2).alloc rfl _ _
      have HF3 := Lib.hid (HF2.out.later hf3.below)
      have HZ3 := Lib.hid (hz.keep hf3.below)
      have HG := Lib.hid hf3
      have c0 : (w2.alloc (.cells #[.bool na, .slice ao la ca] 25)).cell? ⟨w2.heap.size, 0, none⟩ = some (.bool na) := hf3.cell 0 0 rfl rfl
      have c1 : (w2.alloc (.cells #[.bool na, .slice ao la ca] 25)).cell? ⟨w2.heap.size, 1, none⟩ = some (.slice ao la ca) := hf3.cell 0 1 rfl rfl
      have g0 : (w2.alloc (.cells #[.bool na, .slice ao la ca] 25)).cell? ⟨W.heap.size, 0, none⟩ = some (.bool false) := HF3.out.cell 0 0 rfl rfl
      have g1 : (w2.alloc (.cells #[.bool na, .slice ao la ca] 25)).cell? ⟨W.heap.size, 1, none⟩ = some (.slice none 0 0) := HF3.out.cell 0 1 rfl rfl
      have g2 : (w2.alloc (.cells #[.bool na, .slice ao la ca] 25)).cell? ⟨W.heap.size, 2, none⟩ = some (.slice none 0 0) := HF3.out.cell 0 2 rfl rfl
      have g3 : (w2.alloc (.cells #[.bool na, .slice ao la ca] 25)).frozen? ⟨W.heap.size, 0, none⟩ = false := HF3.out.frozen 0 0 rfl
      have g4 : (w2.alloc (.cells #[.bool na, .slice ao la ca] 25)).frozen? ⟨W.heap.size, 1, none⟩ = false := HF3.out.frozen 0 1 rfl
      have g5 : (w2.alloc (.cells #[.bool na, .slice ao la ca] 25)).frozen? ⟨W.heap.size, 2, none⟩ = false := HF3.out.frozen 0 2 rfl
      clear hz hb hf3
      go_wp2
      obtain ⟨e0, e1, e2, hq, hbel⟩ := HF3.out.finQ (cap := ca) (bc := 0) (bo := none) (bl := 0) (q := 1) 0 rfl ⟨HZ3.out, .inl ⟨rfl, rfl⟩⟩
      exact bodyPost_ret (v := .tuple #[.agg #[.bool na, .slice ao la ca, .slice none 0 0], .int .i64 0]) (by simp only [Nat.add_zero] at e0 e1 e2; simp [results, Tryz.results8, go_sem, e0, e1, e2]) rfl ⟨na, ao, la, ca, none, 0, 0, 0, numZ a, 1, rfl, hla, by omega, hq, hbel, .inr (.inr (.inr ⟨HN.out, HFIT.out, Nat.gcd_one_right _, rfl, rfl, rfl⟩))⟩
    · have HN := Lib.hid hn
      have HFIT := Lib.hid hfit
      go_wp2_with fail
      refine ((readNumeral_any a _ hl hn).mono fun e w h => h.nofit hfit).mono ?_
      clear hn hfit
      rintro e w2 ⟨rfl, hb⟩
      have HF2 := Lib.hid (HF.out.later hb)
      have hf3 : Fr w2 (w2.alloc (.cells #[.bool false, .slice none 0 0] 25)) [(25, #[.bool false, .slice none 0 0])] := (Fr.nil w2).alloc rfl _ _
      have HF3 := Lib.hid (HF2.out.later hf3.below)
      have g0 : (w2.alloc (.cells #[.bool false, .slice none 0 0] 25)).cell? ⟨W.heap.size, 0, none⟩ = some (.bool false) := HF3.out.cell 0 0 rfl rfl
      have g1 : (w2.alloc (.cells #[.bool false, .slice none 0 0] 25)).cell? ⟨W.heap.size, 1, none⟩ = some (.slice none 0 0) := HF3.out.cell 0 1 rfl rfl
      have g2 : (w2.alloc (.cells #[.bool false, .slice none 0 0] 25)).cell? ⟨W.heap.size, 2, none⟩ = some (.slice none 0 0) := HF3.out.cell 0 2 rfl rfl
      have g3 : (w2.alloc (.cells #[.bool false, .slice none 0 0] 25)).frozen? ⟨W.heap.size, 0, none⟩ = false := HF3.out.frozen 0 0 rfl
      have g4 : (w2.alloc (.cells #[.bool false, .slice none 0 0] 25)).frozen? ⟨W.heap.size, 1, none⟩ = false := HF3.out.frozen 0 1 rfl
      have g5 : (w2.alloc (.cells #[.bool false, .slice none 0 0] 25)).frozen? ⟨W.heap.size, 2, none⟩ = false := HF3.out.frozen 0 2 rfl
      clear hb hf3
      go_wp2
      obtain ⟨e0, e1, e2, hq, hbel⟩ := HF3.out.finQ (cap := 0) (bc := 0) 0 rfl (Q32.zero _)
      exact bodyPost_ret (v := .tuple #[.agg #[.bool false, .slice none 0 0, .slice none 0 0], .int .i64 3]) (by simp only [Nat.add_zero] at e0 e1 e2; simp [results, Tryz.results8, go_sem, e0, e1, e2]) rfl ⟨false, none, 0, 0, none, 0, 0, 3, 0, 1, rfl, by omega, by omega, hq, hbel, .inr (.inl ⟨HN.out, HFIT.out, rfl, rfl, rfl⟩)⟩

set_option maxHeartbeats 4000000 in
theorem parseRat_at (a t : List UInt8) (W : World) (hl : (a ++ 47 :: t).length ≤ 100000000) (hc : 47 ∉ a) :
    Calls Tryz.prog 8 #[.string ⟨(a ++ 47 :: t).toArray⟩] W (OutRE W a (some t)) := by
  have hf : Fr W (W.alloc (.cells #[.bool false, .slice none 0 0, .slice none 0 0] 27)) [(27, #[.bool false, .slice none 0 0, .slice none 0 0])] := (Fr.nil W).alloc rfl _ _
  have HF := Lib.hid hf
  have hla0 : a.length ≤ 100000000 := by simp at hl; omega
  have hlt0 : t.length ≤ 100000000 := by simp at hl; omega
  clear hf
  go_enter Tryz.func8, Tryz.ntmps8
  go_wp2_with fail
  refine (cut_at a t 47 _ hc (by omega)).mono ?_
  rintro e w1 ⟨rfl, hb1⟩
  clear hc hl
  have HF1 := Lib.hid (HF.out.later hb1)
  clear hb1
  have g0 : w1.cell? ⟨W.heap.size, 0, none⟩ = some (.bool false) := HF1.out.cell 0 0 rfl rfl
  have g1 : w1.cell? ⟨W.heap.size, 1, none⟩ = some (.slice none 0 0) := HF1.out.cell 0 1 rfl rfl
  have g2 : w1.cell? ⟨W.heap.size, 2, none⟩ = some (.slice none 0 0) := HF1.out.cell 0 2 rfl rfl
  have gf0 : w1.frozen? ⟨W.heap.size, 0, none⟩ = false := HF1.out.frozen 0 0 rfl
  have gf1 : w1.frozen? ⟨W.heap.size, 1, none⟩ = false := HF1.out.frozen 0 1 rfl
  have gf2 : w1.frozen? ⟨W.heap.size, 2, none⟩ = false := HF1.out.frozen 0 2 rfl
  go_wp2_with fail
  refine (isNumeral_any a _ (by omega)).mono ?_
  cases hn : isNum a with
  | false =>
    rintro e w2 ⟨rfl, rfl⟩
    have HN : Hid (textOk a (some t) = false) := by show (isNum a && (isPos t && decide (t ≠ [49]))) = false; rw [hn]; rfl
    clear hn
    go_wp2
    obtain ⟨e0, e1, e2, hq, hbel⟩ := HF1.out.finQ (cap := 0) (bc := 0) 0 rfl (Q32.zero _)
    exact bodyPost_ret (v := .tuple #[.agg #[.bool false, .slice none 0 0, .slice none 0 0], .int .i64 4]) (by simp only [Nat.add_zero] at e0 e1 e2; simp [results, Tryz.results8, go_sem, e0, e1, e2]) rfl ⟨false, none, 0, 0, none, 0, 0, 4, 0, 1, rfl, by omega, by omega, hq, hbel, .inl ⟨HN.out, rfl, rfl, rfl⟩⟩
  | true =>
    rintro e w2 ⟨rfl, rfl⟩
    go_wp2_with fail
    refine (isPositive_any t _ (by omega)).mono ?_
    cases hp : isPos t with
    | false =>
      rintro e w2 ⟨rfl, rfl⟩
      have HN : Hid (textOk a (some t) = false) := by show (isNum a && (isPos t && decide (t ≠ [49]))) = false; rw [hn, hp]; rfl
      clear hn hp
      go_wp2
      obtain ⟨e0, e1, e2, hq, hbel⟩ := HF1.out.finQ (cap := 0) (bc := 0) 0 rfl (Q32.zero _)
      exact bodyPost_ret (v := .tuple #[.agg #[.bool false, .slice none 0 0, .slice none 0 0], .int .i64 4]) (by simp only [Nat.add_zero] at e0 e1 e2; simp [results, Tryz.results8, go_sem, e0, e1, e2]) rfl ⟨false, none, 0, 0, none, 0, 0, 4, 0, 1, rfl, by omega, by omega, hq, hbel, .inl ⟨HN.out, rfl, rfl, rfl⟩⟩
    | true =>
      rintro e w2 ⟨rfl, rfl⟩
      by_cases h1 : t = [49]
      · have HN : Hid (textOk a (some t) = false) := by show (isNum a && (isPos t && decide (t ≠ [49]))) = false; rw [hn, hp, h1]; rfl
        have h2 : (t == [49]) = true := by simpa using h1
        clear hn hp
        go_wp2
        obtain ⟨e0, e1, e2, hq, hbel⟩ := HF1.out.finQ (cap := 0) (bc := 0) 0 rfl (Q32.zero _)
        exact bodyPost_ret (v := .tuple #[.agg #[.bool false, .slice none 0 0, .slice none 0 0], .int .i64 4]) (by simp only [Nat.add_zero] at e0 e1 e2; simp [results, Tryz.results8, go_sem, e0, e1, e2]) rfl ⟨false, none, 0, 0, none, 0, 0, 4, 0, 1, rfl, by omega, by omega, hq, hbel, .inl ⟨HN.out, rfl, rfl, rfl⟩⟩
      · have HN : Hid (textOk a (some t) = true) := by show (isNum a && (isPos t && decide (t ≠ [49]))) = true; rw [hn, hp, decide_eq_true h1]; rfl
        have h2 : (t == [49]) = false := by simpa using h1
        have hgt : 1 < dec t := (isPos_gt hp).2 h1
        have hz0 := (isPos_num hp).1
        have hnt := (isPos_num hp).2
        have HZT := Lib.hid hz0
        have HGT := Lib.hid hgt
        clear hz0 hgt hp
        by_cases hfa : Fits (numZ a)
        · go_wp2_with fail
          refine ((readNumeral_any a _ hla0 hn).mono fun e w h => h.fit hfa).mono ?_
          rintro e w2 ⟨na, ao, la, ca, rfl, hla, hz, hb⟩
          have HF2 := Lib.hid (HF1.out.later hb)
          have HFA := Lib.hid hfa
          clear hn h1 h2 hfa g0 g1 g2 gf0 gf1 gf2
          obtain ⟨V, hV⟩ : ∃ V, V = w2.alloc (.cells #[.bool na, .slice ao la ca] 25) := ⟨_, rfl⟩
          have hf3 : Fr w2 V [(25, #[.bool na, .slice ao la ca])] := by rw [hV]; exact (Fr.nil w2).alloc rfl _ _
          have HF3 := Lib.hid (HF2.out.later hf3.below)
          have HG3 := Lib.hid hf3
          have HZ3 := Lib.hid (hz.keep hf3.below)
          clear hz hb hf3
          by_cases hft : Fits (numZ t)
          · go_wp2_with fail
            rw [← hV]
            refine ((readNumeral_any t _ hlt0 hnt).mono fun e w h => h.fit hft).mono ?_
            rintro e w4 ⟨nb, bo, lb, cb, rfl, hlb, hz, hb⟩
            have HF4 := Lib.hid (HF3.out.later hb)
            have HG4 := Lib.hid (HG3.out.later hb)
            have HZ4 := Lib.hid (HZ3.out.keep hb)
            have HFT := Lib.hid hft
            clear hV hft hnt
            rw [HZT.out] at hz
            have hf5 : Fr w4 (w4.alloc (.cells #[.bool nb, .slice bo lb cb] 25)) [(25, #[.bool nb, .slice bo lb cb])] := (Fr.nil w4).alloc rfl _ _
            have HF5 := Lib.hid (HF4.out.later hf5.below)
            have HG5 := Lib.hid (HG4.out.later hf5.below)
            have HH5 := Lib.hid hf5
            have HZ5 := Lib.hid (HZ4.out.keep hf5.below)
            have HY5 := Lib.hid (hz.keep hf5.below)
            clear hz hb hf5
            have b1 : (w4.alloc (.cells #[.bool nb, .slice bo lb cb] 25)).cell? ⟨w2.heap.size, 1, none⟩ = some (.slice ao la ca) := HG5.out.cell 0 1 rfl rfl
            have d1 : (w4.alloc (.cells #[.bool nb, .slice bo lb cb] 25)).cell? ⟨w4.heap.size, 1, none⟩ = some (.slice bo lb cb) := HH5.out.cell 0 1 rfl rfl
            go_wp2_with fail
            refine (gcd_ok _ _ _ _ _ _ _ _ _ HZ5.out.n32 HY5.out.n32 (by omega) (by omega)).mono ?_
            rintro e w6 ⟨po, pl, pc, rfl, hg, hb⟩
            rw [Int.natAbs_natCast] at hg
            have hpl : pl ≤ 1000000000 := Nat.le_trans (hg.len_le (Nat.lt_of_le_of_lt (Nat.gcd_le_right _ (by have := HGT.out; omega)) (by have := HY5.out.n32.lt; rwa [Int.natAbs_natCast] at this))) (by omega)
            have HF6 := Lib.hid (HF5.out.later hb)
            have HG6 := Lib.hid (HG5.out.later hb)
            have HH6 := Lib.hid (HH5.out.later hb)
            have HZ6 := Lib.hid (HZ5.out.keep hb)
            have HY6 := Lib.hid (HY5.out.keep hb)
            clear b1 d1 hb
            go_wp2_with fail
            refine (isOne_any _ _ _ _ _ hg hpl).mono ?_
            obtain ⟨g, hgg⟩ : ∃ g, g = Nat.gcd (numZ a).natAbs (dec t) := ⟨_, rfl⟩
            rw [← hgg]
            rintro e w7 ⟨rfl, hw⟩
            obtain rfl : w6 = w7 := hw
            have HGG := Lib.hid hgg
            clear hg hgg
            have b0 : w6.cell? ⟨w2.heap.size, 0, none⟩ = some (.bool na) := HG6.out.cell 0 0 rfl rfl
            have b1 : w6.cell? ⟨w2.heap.size, 1, none⟩ = some (.slice ao la ca) := HG6.out.cell 0 1 rfl rfl
            have d1 : w6.cell? ⟨w4.heap.size, 1, none⟩ = some (.slice bo lb cb) := HH6.out.cell 0 1 rfl rfl
            have g0 : w6.cell? ⟨W.heap.size, 0, none⟩ = some (.bool false) := HF6.out.cell 0 0 rfl rfl
            have g1 : w6.cell? ⟨W.heap.size, 1, none⟩ = some (.slice none 0 0) := HF6.out.cell 0 1 rfl rfl
            have g2 : w6.cell? ⟨W.heap.size, 2, none⟩ = some (.slice none 0 0) := HF6.out.cell 0 2 rfl rfl
            have gf0 : w6.frozen? ⟨W.heap.size, 0, none⟩ = false := HF6.out.frozen 0 0 rfl
            have gf1 : w6.frozen? ⟨W.heap.size, 1, none⟩ = false := HF6.out.frozen 0 1 rfl
            have gf2 : w6.frozen? ⟨W.heap.size, 2, none⟩ = false := HF6.out.frozen 0 2 rfl
            by_cases hg1 : g = 1
            · have hgb : (g == 1) = true := by simpa using hg1
              have HG1 : Hid (Nat.gcd (numZ a).natAbs (denOf (some t)) = 1) := by show Nat.gcd (numZ a).natAbs (dec t) = 1; rw [← HGG.out]; exact hg1
              clear hg1
              go_wp2
              obtain ⟨e0, e1, e2, hq, hbel⟩ := HF6.out.finQ (cap := ca) (bc := cb) 0 rfl ⟨HZ6.out, .inr ⟨(by have := HY6.out.n32; rwa [Int.natAbs_natCast] at this), HGT.out⟩⟩
              exact bodyPost_ret (v := .tuple #[.agg #[.bool na, .slice ao la ca, .slice bo lb cb], .int .i64 0]) (by simp only [Nat.add_zero] at e0 e1 e2; simp [results, Tryz.results8, go_sem, e0, e1, e2]) rfl ⟨na, ao, la, ca, bo, lb, cb, 0, numZ a, dec t, rfl, hla, hlb, hq, hbel, .inr (.inr (.inr ⟨HN.out, ⟨HFA.out, HFT.out⟩, HG1.out, rfl, rfl, rfl⟩))⟩
            · have hgb : (g == 1) = false := by simpa using hg1
              have HG1 : Hid (Nat.gcd (numZ a).natAbs (denOf (some t)) ≠ 1) := by show Nat.gcd (numZ a).natAbs (dec t) ≠ 1; rw [← HGG.out]; exact hg1
              clear hg1
              go_wp2
              obtain ⟨e0, e1, e2, hq, hbel⟩ := HF6.out.finQ (cap := 0) (bc := 0) 0 rfl (Q32.zero _)
              exact bodyPost_ret (v := .tuple #[.agg #[.bool false, .slice none 0 0, .slice none 0 0], .int .i64 4]) (by simp only [Nat.add_zero] at e0 e1 e2; simp [results, Tryz.results8, go_sem, e0, e1, e2]) rfl ⟨false, none, 0, 0, none, 0, 0, 4, 0, 1, rfl, by omega, by omega, hq, hbel, .inr (.inr (.inl ⟨HN.out, ⟨HFA.out, HFT.out⟩, HG1.out, rfl, rfl, rfl⟩))⟩
          · go_wp2_with fail
            rw [← hV]
            refine ((readNumeral_any t _ hlt0 hnt).mono fun e w h => h.nofit hft).mono ?_
            rintro e w4 ⟨rfl, hb⟩
            have HF4 := Lib.hid (HF3.out.later hb)
            have HX : Hid (¬ bothFit a (some t)) := fun h => hft h.2
            clear hV hft hnt
            have hf5 : Fr w4 (w4.alloc (.cells #[.bool false, .slice none 0 0] 25)) [(25, #[.bool false, .slice none 0 0])] := (Fr.nil w4).alloc rfl _ _
            have HF5 := Lib.hid (HF4.out.later hf5.below)
            clear hb hf5
            have g0 : (w4.alloc (.cells #[.bool false, .slice none 0 0] 25)).cell? ⟨W.heap.size, 0, none⟩ = some (.bool false) := HF5.out.cell 0 0 rfl rfl
            have g1 : (w4.alloc (.cells #[.bool false, .slice none 0 0] 25)).cell? ⟨W.heap.size, 1, none⟩ = some (.slice none 0 0) := HF5.out.cell 0 1 rfl rfl
            have g2 : (w4.alloc (.cells #[.bool false, .slice none 0 0] 25)).cell? ⟨W.heap.size, 2, none⟩ = some (.slice none 0 0) := HF5.out.cell 0 2 rfl rfl
            have gf0 : (w4.alloc (.cells #[.bool false, .slice none 0 0] 25)).frozen? ⟨W.heap.size, 0, none⟩ = false := HF5.out.frozen 0 0 rfl
            have gf1 : (w4.alloc (.cells #[.bool false, .slice none 0 0] 25)).frozen? ⟨W.heap.size, 1, none⟩ = false := HF5.out.frozen 0 1 rfl
            have gf2 : (w4.alloc (.cells #[.bool false, .slice none 0 0] 25)).frozen? ⟨W.heap.size, 2, none⟩ = false := HF5.out.frozen 0 2 rfl
            go_wp2
            obtain ⟨e0, e1, e2, hq, hbel⟩ := HF5.out.finQ (cap := 0) (bc := 0) 0 rfl (Q32.zero _)
            exact bodyPost_ret (v := .tuple #[.agg #[.bool false, .slice none 0 0, .slice none 0 0], .int .i64 3]) (by simp only [Nat.add_zero] at e0 e1 e2; simp [results, Tryz.results8, go_sem, e0, e1, e2]) rfl ⟨false, none, 0, 0, none, 0, 0, 3, 0, 1, rfl, by omega, by omega, hq, hbel, .inr (.inl ⟨HN.out, HX.out, rfl, rfl, rfl⟩)⟩
        · go_wp2_with fail
          refine ((readNumeral_any a _ hla0 hn).mono fun e w h => h.nofit hfa).mono ?_
          rintro e w2 ⟨rfl, hb⟩
          have HF2 := Lib.hid (HF1.out.later hb)
          have HX : Hid (¬ bothFit a (some t)) := fun h => hfa h.1
          clear hn h1 h2 hfa hnt g0 g1 g2 gf0 gf1 gf2
          have hf3 : Fr w2 (w2.alloc (.cells #[.bool false, .slice none 0 0] 25)) [(25, #[.bool false, .slice none 0 0])] := (Fr.nil w2).alloc rfl _ _
          have HF3 := Lib.hid (HF2.out.later hf3.below)
          clear hb hf3
          have g0 : (w2.alloc (.cells #[.bool false, .slice none 0 0] 25)).cell? ⟨W.heap.size, 0, none⟩ = some (.bool false) := HF3.out.cell 0 0 rfl rfl
          have g1 : (w2.alloc (.cells #[.bool false, .slice none 0 0] 25)).cell? ⟨W.heap.size, 1, none⟩ = some (.slice none 0 0) := HF3.out.cell 0 1 rfl rfl
          have g2 : (w2.alloc (.cells #[.bool false, .slice none 0 0] 25)).cell? ⟨W.heap.size, 2, none⟩ = some (.slice none 0 0) := HF3.out.cell 0 2 rfl rfl
          have gf0 : (w2.alloc (.cells #[.bool false, .slice none 0 0] 25)).frozen? ⟨W.heap.size, 0, none⟩ = false := HF3.out.frozen 0 0 rfl
          have gf1 : (w2.alloc (.cells #[.bool false, .slice none 0 0] 25)).frozen? ⟨W.heap.size, 1, none⟩ = false := HF3.out.frozen 0 1 rfl
          have gf2 : (w2.alloc (.cells #[.bool false, .slice none 0 0] 25)).frozen? ⟨W.heap.size, 2, none⟩ = false := HF3.out.frozen 0 2 rfl
          go_wp2
          obtain ⟨e0, e1, e2, hq, hbel⟩ := HF3.out.finQ (cap := 0) (bc := 0) 0 rfl (Q32.zero _)
          exact bodyPost_ret (v := .tuple #[.agg #[.bool false, .slice none 0 0, .slice none 0 0], .int .i64 3]) (by simp only [Nat.add_zero] at e0 e1 e2; simp [results, Tryz.results8, go_sem, e0, e1, e2]) rfl ⟨false, none, 0, 0, none, 0, 0, 3, 0, 1, rfl, by omega, by omega, hq, hbel, .inr (.inl ⟨HN.out, HX.out, rfl, rfl, rfl⟩)⟩
end Go.Proofs.YtcgnmihabkgecaaGreat

/- A numeral is read again as what it is the numeral of. -/
set_option linter.unusedVariables false
namespace Go.Proofs.YtcgnmihabkgecaaGreat
open Go.RowKit Go.Proofs

theorem char_toNat {d : Nat} (h : d < 10) : (UInt8.ofNat (48 + d)).toNat = 48 + d := by
  rw [UInt8.toNat_ofNat']
  omega

theorem chars_append (a b : List Nat) : chars (a ++ b) = chars a ++ chars b := by unfold chars; rw [List.map_append]

theorem dec_chars {ts : List Nat} (h : Dig 10 ts) : dec (chars ts.reverse) = val 10 ts := by
  induction ts with
  | nil => rfl
  | cons d ts ih =>
    rw [List.reverse_cons, chars_append]
    show dec (chars ts.reverse ++ [UInt8.ofNat (48 + d)]) = _
    rw [dec_snoc, ih h.tail, char_toNat h.head, val_cons]
    omega

theorem all_chars {ts : List Nat} (h : Dig 10 ts) : (chars ts).all isDig = true := by
  rw [List.all_eq_true]
  intro c hc
  obtain ⟨d, hd, rfl⟩ := List.mem_map.1 hc
  have h1 := h d hd
  unfold isDig
  rw [char_toNat h1]
  simp
  omega

theorem Dig.reverse {B : Nat} {ts : List Nat} (h : Dig B ts) : Dig B ts.reverse := fun x hx => h x (List.mem_reverse.1 hx)

theorem dec_numeral (n : Nat) : dec (numeral n) = n := by
  unfold numeral
  by_cases h : n = 0
  · rw [if_pos h, h]; rfl
  · rw [if_neg h]
    obtain ⟨a, b, c⟩ := lowF_spec n n (Nat.le_refl _)
    exact (dec_chars a).trans c

theorem numeral_pos {n : Nat} (h : n ≠ 0) : isPos (numeral n) = true := by
  unfold numeral
  rw [if_neg h]
  obtain ⟨a, b, c⟩ := lowF_spec n n (Nat.le_refl _)
  change Dig 10 (low n) at a
  change Top (low n) at b
  change val 10 (low n) = n at c
  have hne : low n ≠ [] := fun e => by rw [e] at c; exact h c.symm
  obtain ⟨ys, y, hy⟩ : ∃ ys y, low n = ys ++ [y] := ⟨(low n).dropLast, (low n).getLast hne, (List.dropLast_concat_getLast hne).symm⟩
  have hy0 : y ≠ 0 := by
    have := b hne
    rw [hy] at this
    simpa using this
  have hyd : y < 10 := a y (by rw [hy]; simp)
  have hd := all_chars a.reverse
  rw [hy] at hd ⊢
  rw [List.reverse_append] at hd ⊢
  change (UInt8.ofNat (48 + y) :: chars ys.reverse).all isDig = true at hd
  change isPos (UInt8.ofNat (48 + y) :: chars ys.reverse) = true
  have hc : UInt8.ofNat (48 + y) ≠ 48 := fun e => by
    have := congrArg UInt8.toNat e
    rw [char_toNat hyd] at this
    change 48 + y = 48 at this
    omega
  unfold isPos hasDigs
  rw [hd]
  have h2 : decide ((UInt8.ofNat (48 + y) :: chars ys.reverse).head? ≠ some 48) = true := decide_eq_true (fun e => hc (Option.some.inj e))
  rw [h2]
  rfl

theorem numeral_head {n : Nat} : ∃ x t, numeral n = x :: t ∧ isDig x = true := by
  by_cases h : n = 0
  · exact ⟨48, [], by unfold numeral; rw [if_pos h], rfl⟩
  · have h1 := numeral_pos h
    unfold isPos hasDigs at h1
    simp only [Bool.and_eq_true] at h1
    cases hn : numeral n with
    | nil => rw [hn] at h1; simp at h1
    | cons x t =>
      rw [hn] at h1
      have := h1.1.1
      rw [List.all_cons, Bool.and_eq_true] at this
      exact ⟨x, t, rfl, this.1⟩

theorem prefix_numeral (n : Nat) : Lib.hasPrefix (numeral n) [45] = false := by
  obtain ⟨x, t, h, hd⟩ := numeral_head (n := n)
  rw [h]
  have : x ≠ 45 := fun e => by subst e; exact absurd hd (by decide)
  have h2 : ¬ (45 : UInt8) = x := fun e => this e.symm
  show ([45].isPrefixOf (x :: t)) = false
  rw [List.isPrefixOf_cons_cons, beq_eq_false_iff_ne.2 h2, Bool.false_and]

theorem bare_minus (t : List UInt8) : bare (45 :: t) = t := by unfold bare Lib.trimPrefix; simp [Lib.hasPrefix]
theorem bare_plain {t : List UInt8} (h : Lib.hasPrefix t [45] = false) : bare t = t := by unfold bare Lib.trimPrefix; rw [h]; rfl

theorem isNum_numeralZ (z : Int) : isNum (numeralZ z) = true := by
  unfold numeralZ
  by_cases h : z < 0
  · rw [if_pos h]
    have hn := numeral_pos (n := z.natAbs) (by omega)
    unfold isNum
    change (decide _ || isPos (bare (45 :: numeral z.natAbs))) = true
    rw [bare_minus, hn, Bool.or_true]
  · rw [if_neg h]
    unfold isNum
    change (decide _ || isPos (bare (numeral z.natAbs))) = true
    rw [bare_plain (prefix_numeral _)]
    by_cases h0 : z.natAbs = 0
    · rw [h0]; rfl
    · rw [numeral_pos h0, Bool.or_true]

theorem numZ_numeralZ (z : Int) : numZ (numeralZ z) = z := by
  unfold numeralZ
  by_cases h : z < 0
  · rw [if_pos h]
    unfold numZ
    rw [bare_minus, dec_numeral]
    simp [Lib.hasPrefix, sgn]
    omega
  · rw [if_neg h]
    unfold numZ
    rw [bare_plain (prefix_numeral _), dec_numeral, prefix_numeral]
    simp [sgn]
    omega
end Go.Proofs.YtcgnmihabkgecaaGreat

/- The laws' helper made. -/
set_option linter.unusedVariables false
namespace Go.Proofs.YtcgnmihabkgecaaGreat
open Go.RowKit Go.Proofs

/-- the program's integer that made returns, and whether it fits -/
def MadePost (z : Int) (W : World) (e : Ending) (w' : World) : Prop :=
  ∃ neg ao len cap ok z', e = .returned (.tuple #[.agg #[.bool neg, .slice ao len cap], .bool ok]) ∧ len ≤ 512 ∧ Z32 w' neg ao len z' ∧ Below W.heap.size W w' ∧ ((Fits z ∧ ok = true ∧ z' = z) ∨ (¬ Fits z ∧ ok = false ∧ z' = 0))

theorem fits_zero : Fits 0 := by unfold Fits; decide

set_option maxHeartbeats 1000000 in
theorem made_law (neg : Bool) (ao : Option Addr) (len cap : Nat) (z : Int) (W : World) (h : Z16 W neg ao len z) (hl : len ≤ 1000000) :
    Calls Tryz.prog 99 #[.agg #[.bool neg, .slice ao len cap]] W (MadePost z W) := by
  have hf : Fr W ((W.alloc (.cells #[.bool neg, .slice ao len cap] 33)).alloc (.cells #[.bool false, .slice none 0 0] 25))
      [(33, #[.bool neg, .slice ao len cap]), (25, #[.bool false, .slice none 0 0])] := ((Fr.nil W).alloc rfl _ _).alloc (by simp) _ _
  have hlt : z.natAbs < B32 ^ len := Nat.lt_of_lt_of_le h.n16.lt (Nat.pow_le_pow_left (by decide) _)
  have hnl := numeralZ_len hlt
  have HZ := Lib.hid (h.keep hf.below)
  have HF := Lib.hid hf
  have hnb : (numeralZ z).length ≤ 100000000 := by omega
  have HNB := Lib.hid hnb
  clear h hf hlt hnl hnb
  go_enter Tryz.func99, Tryz.ntmps99
  go_wp2_with fail
  refine (text16_any _ _ _ _ z _ HZ.out (by omega)).mono ?_
  rintro e w1 ⟨rfl, hb1⟩
  have HF1 := Lib.hid (HF.out.later hb1)
  clear hb1
  go_wp2_with fail
  refine ((parse_any (numeralZ z) _ HNB.out).mono fun e w h => h.one).mono ?_
  rintro e w2 ⟨na, po, la, ca, er, z', rfl, hz2, hb2, hx⟩
  have HF2 := Lib.hid (HF1.out.later hb2)
  have hy : (Fits z ∧ er = 0 ∧ z' = z) ∨ (¬ Fits z ∧ er = 3 ∧ z' = 0) := by
    rw [numZ_numeralZ] at hx
    rcases hx with ⟨h1, _⟩ | ⟨_, h2⟩ | ⟨_, h2⟩
    · rw [isNum_numeralZ] at h1; cases h1
    · exact .inr h2
    · exact .inl h2
  have hla : la ≤ 512 := by
    rcases hy with ⟨h1, _, h3⟩ | ⟨_, _, h3⟩
    · rw [h3] at hz2; exact fits_len hz2 h1
    · rw [h3] at hz2; exact fits_len hz2 fits_zero
  have HZ2 := Lib.hid hz2
  clear hx hz2 hb2
  have hfb : Fr w2 (w2.alloc (.cells #[.bool na, .slice po la ca] 25)) [(25, #[.bool na, .slice po la ca])] := (Fr.nil w2).alloc rfl _ _
  have HF3 := Lib.hid (HF2.out.later hfb.below)
  have HZ3 := Lib.hid (HZ2.out.keep hfb.below)
  clear hfb
  have g0 : (w2.alloc (.cells #[.bool na, .slice po la ca] 25)).cell? ⟨W.heap.size + 1, 0, none⟩ = some (.bool false) := HF3.out.cell 1 0 rfl rfl
  have g1 : (w2.alloc (.cells #[.bool na, .slice po la ca] 25)).cell? ⟨W.heap.size + 1, 1, none⟩ = some (.slice none 0 0) := HF3.out.cell 1 1 rfl rfl
  have g2 : (w2.alloc (.cells #[.bool na, .slice po la ca] 25)).frozen? ⟨W.heap.size + 1, 0, none⟩ = false := HF3.out.frozen 1 0 rfl
  have g3 : (w2.alloc (.cells #[.bool na, .slice po la ca] 25)).frozen? ⟨W.heap.size + 1, 1, none⟩ = false := HF3.out.frozen 1 1 rfl
  rcases hy with ⟨h1, rfl, rfl⟩ | ⟨h1, rfl, rfl⟩
  · have HX := Lib.hid h1
    clear h1
    go_wp2
    obtain ⟨e0, e1, hz, hbel, _⟩ := HF3.out.finI (cap := ca) 1 rfl HZ3.out
    exact bodyPost_ret (v := .tuple #[.agg #[.bool na, .slice po la ca], .bool true]) (by simp [results, Tryz.results99, go_sem, e0, e1]) rfl ⟨na, po, la, ca, true, _, rfl, hla, hz, hbel, .inl ⟨HX.out, rfl, rfl⟩⟩
  · have HX := Lib.hid h1
    clear h1
    go_wp2
    obtain ⟨e0, e1, hz, hbel, _⟩ := HF3.out.finI (cap := ca) 1 rfl HZ3.out
    exact bodyPost_ret (v := .tuple #[.agg #[.bool na, .slice po la ca], .bool false]) (by simp [results, Tryz.results99, go_sem, e0, e1]) rfl ⟨na, po, la, ca, false, _, rfl, hla, hz, hbel, .inr ⟨HX.out, rfl, rfl⟩⟩
end Go.Proofs.YtcgnmihabkgecaaGreat
