/- Part 9 of the contracts: Long, DivA, BackF, Leh, LehB, LehC, LehD. -/
import Derived.WalkMore
import Derived.IntWalk
import Derived.Test.YtcgnmihabkgecaaPart8

/- divideLong, divide. -/
set_option linter.unusedVariables false
namespace Go.Proofs.Ytcgnmihabkgecaa
open Go.RowKit

/-- what the numbers of a block are worth -/
def readBlk (w : World) (g : Nat) : Nat :=
  match w.heap[g]? with
  | some (.cells c _ _) => val B32 (c.toList.map fun v => match v with | .int _ x => x.toNat | _ => 0)
  | _ => 0

theorem readBlk_of {w : World} {g e : Nat} {zs : List Nat} (h : Blk .u32 w g e zs) : readBlk w g = val B32 zs := by
  unfold readBlk
  rw [show w.heap[g]? = some (.cells (cs .u32 zs) e (0, 0)) from h]
  simp only [cs, List.map_map]
  congr 1
  have : ((fun v => match v with | Value.int _ x => x.toNat | _ => 0) ∘ fun z : Nat => Value.int IntKind.u32 ((z : Nat) : Int)) = id := by
    funext z; simp
  rw [this, List.map_id]

def LongRel (g1 g2 g3 la lq k D N : Nat) (dz : List Nat) (W : World) (av : Value) (wr : World) : Prop :=
  ∃ (i : Nat) (rs qs : List Nat), av = .int .i64 (i : Int) ∧ Blk .u32 wr g1 61 dz ∧ Blk .u32 wr g2 61 rs ∧ Blk .u32 wr g3 61 qs ∧ rs.length = la + 1 ∧ Dig B32 rs ∧ qs.length = lq ∧ Dig B32 qs ∧ i + 1 ≤ lq ∧
    val B32 qs * D + val B32 rs = N ∧ (qs[i]?.getD 0) * D * B32 ^ i + val B32 rs < D * B32 ^ (i + 1) ∧ (∀ j, j < i → qs[j]?.getD 0 = 0) ∧ Below W.heap.size W wr

set_option maxHeartbeats 1000000 in
theorem compare_big (ao bo : Option Addr) (la lb ca cb : Nat) (m n : Nat) (w : World) (ha : N32 w ao la m) (hb : N32 w bo lb n) (hla : la ≤ 2000000000) (hlb : lb ≤ 2000000000) :
    Calls Try.prog 37 #[.slice ao la ca, .slice bo lb cb] w (CmpPost m n w) := by
  obtain ⟨xs, ⟨hx, b, off, h0, hc⟩, hd, ht, hv⟩ := ha
  obtain ⟨ys, ⟨hy, b', off', h0', hc'⟩, hd', ht', hv'⟩ := hb
  by_cases hl : la = lb
  · subst hl
    have Hx := Lib.hid hx
    have Hy := Lib.hid hy
    have Hv := Lib.hid hv
    have Hv' := Lib.hid hv'
    have Hd := Lib.hid hd
    have Hd' := Lib.hid hd'
    have H0 := Lib.hid h0
    have H0' := Lib.hid h0'
    have HC := Lib.hid hc
    have HC' := Lib.hid hc'
    clear hx hy hv hv' hd hd' ht ht' h0 h0' hc hc'
    have hbb : ((la : Int) != (la : Int)) = false := by simp
    go_enter Try.func37, Try.ntmps37
    go_wp2
    go_loopw [5] (fun t wr => ∃ i : Nat, i ≤ la ∧ t = .int .i64 ((i : Int) - 1) ∧ xs.drop i = ys.drop i ∧ Drew w wr) (fun t _ => (intOf t + 1).toNat)
    case atStart => exact ⟨la, Nat.le_refl _, rfl, by rw [List.drop_of_length_le (by have := Hx.out; omega), List.drop_of_length_le (by have := Hy.out; omega)], Drew.refl _⟩
    case round =>
      obtain ⟨i, hi, rfl, hdr, hw⟩ := hrel
      have HD := Lib.hid hdr
      have HW := Lib.hid hw
      clear hdr hw
      by_cases hi0 : i = 0
      · subst hi0
        go_wp2
        go_ret
        refine ⟨ret_int ?_, HW.out⟩
        rw [cmpN_eq]
        have := HD.out
        simp at this
        rw [← Hv.out, ← Hv'.out, this]
      · obtain ⟨j, rfl⟩ : ∃ j, i = j + 1 := ⟨i - 1, by omega⟩
        have hlen : 0 < la := by omega
        obtain rfl := H0.out hlen
        obtain rfl := H0'.out hlen
        have e1 : (((j + 1 : Nat) : Int) - 1) = (j : Int) := by omega
        rw [e1]
        clear e1
        have c1 := (HW.out.cell ⟨b, off + j, none⟩).trans (HC.out j (by omega))
        have c2 := (HW.out.cell ⟨b', off' + j, none⟩).trans (HC'.out j (by omega))
        have b1 : (0 : Int) ≤ (j : Int) := by omega
        have b2 : (j : Int) < (la : Int) := by omega
        obtain ⟨x, hxe⟩ : ∃ x, x = xs[j]?.getD 0 := ⟨_, rfl⟩
        obtain ⟨y, hye⟩ : ∃ x, x = ys[j]?.getD 0 := ⟨_, rfl⟩
        rw [← hxe] at c1
        rw [← hye] at c2
        have Ex := Lib.hid hxe
        have Ey := Lib.hid hye
        clear hxe hye
        have hjx : j < xs.length := by have := Hx.out; omega
        have hxy : xs.length = ys.length := by rw [Hx.out, Hy.out]
        have HXY := Lib.hid hxy
        have HJX := Lib.hid hjx
        clear hjx hxy
        rcases Nat.lt_trichotomy x y with hlt | heq | hgt
        · have t1 : (x : Int) < (y : Int) := by omega
          go_wp2
          go_quiet (fail)
          go_wp2
          go_ret
          refine ⟨ret_int ?_, HW.out.more _⟩
          have hlt2 := hlt
          rw [Ex.out, Ey.out] at hlt2
          have := val_lt_of_part B32_pos HXY.out Hd.out HJX.out HD.out hlt2
          rw [Hv.out, Hv'.out] at this
          rw [cmpN_lt this]
        · subst heq
          go_wp2
          go_quiet (fail)
          go_wp2
          go_quiet (fail)
          go_wp2
          go_roundw
          case rel => exact ⟨j, by omega, rfl, eq_of_drop HXY.out j HJX.out HD.out (by rw [← Ex.out, ← Ey.out]), by first | exact HW.out.more _ | exact (HW.out.more _).more _⟩
          case measure => simp [intOf]
        · have t1 : (y : Int) < (x : Int) := by omega
          have t2 : ¬ (x : Int) < (y : Int) := by omega
          go_wp2
          go_quiet (fail)
          go_wp2
          go_quiet (fail)
          go_wp2
          go_ret
          refine ⟨ret_int ?_, by first | exact HW.out.more _ | exact (HW.out.more _).more _⟩
          have hlt2 := hgt
          rw [Ex.out, Ey.out] at hlt2
          have := val_lt_of_part B32_pos HXY.out.symm Hd'.out (HXY.out ▸ HJX.out) HD.out.symm hlt2
          rw [Hv.out, Hv'.out] at this
          rw [cmpN_gt this]
  · have hbb : ((la : Int) != (lb : Int)) = true := by simp; omega
    rcases Nat.lt_or_gt_of_ne hl with hlt | hgt
    · have t1 : (la : Int) < (lb : Int) := by omega
      have hvv := val_lt_of_len B32_pos hd ht' (by omega)
      rw [hv, hv'] at hvv
      rw [show CmpPost m n w = CmpPost m n w from rfl]
      have HV := Lib.hid hvv
      clear hx hy hv hv' hd hd' ht ht' h0 h0' hc hc' hvv
      go_enter Try.func37, Try.ntmps37
      go_wp2
      go_ret
      exact ⟨ret_int (cmpN_lt HV.out).symm, Drew.refl _⟩
    · have t1 : ¬ (la : Int) < (lb : Int) := by omega
      have hvv := val_lt_of_len B32_pos hd' ht (by omega)
      rw [hv, hv'] at hvv
      have HV := Lib.hid hvv
      clear hx hy hv hv' hd hd' ht ht' h0 h0' hc hc' hvv
      go_enter Try.func37, Try.ntmps37
      go_wp2
      go_ret
      exact ⟨ret_int (cmpN_gt HV.out).symm, Drew.refl _⟩

set_option maxHeartbeats 400000 in
theorem shiftRight_nil (s : Nat) (w : World) :
    Calls Try.prog 70 #[.slice none 0 0, .int .i64 (s : Int)] w fun e w' => e = .returned (.slice none 0 0) ∧ w = w' := by
  go_enter Try.func70, Try.ntmps70
  go_wp2
  go_loop [9] (fun iv => iv = .int .i64 0) (fun iv => 0)
  case atStart => rfl
  case round =>
    obtain rfl := hrel
    have HS := Lib.hid (Sl.nil .u32 w none)
    go_wp2_with fail
    refine (trim_raw _ _ _ [] _ HS.out (by omega) (by omega)).mono ?_
    rintro e w3 ⟨⟨ao', m, rfl, hm, ha', hz', ht, hzz⟩, rfl⟩
    obtain rfl : m = 0 := by omega
    obtain rfl := hz' rfl
    clear ha' hz' ht hzz
    go_wp2
    go_ret
    exact ⟨rfl, rfl⟩

theorem shift_top {n m x l s : Nat} (hn : n = m + B32 ^ l * x) (hm : m < B32 ^ l) (hs : blen x + s = 32) : n * 2 ^ s < B32 ^ (l + 1) := by
  have h1 : x + 1 ≤ 2 ^ blen x := blen_lt x
  have h2 : n + 1 ≤ B32 ^ l * (x + 1) := by rw [Nat.mul_add]; omega
  have h3 : (n + 1) * 2 ^ s ≤ B32 ^ l * (x + 1) * 2 ^ s := Nat.mul_le_mul_right _ h2
  have h4 : B32 ^ l * (x + 1) * 2 ^ s ≤ B32 ^ l * 2 ^ blen x * 2 ^ s := Nat.mul_le_mul_right _ (Nat.mul_le_mul_left _ h1)
  have h5 : B32 ^ l * 2 ^ blen x * 2 ^ s = B32 ^ (l + 1) := by
    rw [Nat.mul_assoc, ← Nat.pow_add, hs, Nat.pow_succ]; rfl
  have h6 : 0 < 2 ^ s := Nat.pow_pos (by decide)
  rw [Nat.add_mul] at h3
  omega

set_option maxHeartbeats 4000000 in
theorem divideLong_any (ao bo : Option Addr) (la lb ca cb A n : Nat) (W : World) (ha : N32 W ao la A) (hb : N32 W bo lb n) (hn : 0 < n) (hnA : n ≤ A) (hla : la ≤ 1000000000) :
    Calls Try.prog 50 #[.slice ao la ca, .slice bo lb cb] W (DivPost A n W) := by
  have hA := ha.lt
  have hlba : lb ≤ la := by
    obtain ⟨ys, h1, h2, h3, h4⟩ := hb
    have := len_le_of_lt B32_gt h3 (Nat.lt_of_le_of_lt (by rw [h4]; exact hnA) hA)
    rw [h1.len] at this; exact this
  have hb0 := hb
  obtain ⟨xs, ⟨hx, b, off, hbo, hc⟩, hd, ht, hv⟩ := hb
  have hlb0 : 0 < lb := by
    rcases Nat.eq_zero_or_pos lb with h | h
    · subst h
      obtain rfl : xs = [] := List.eq_nil_of_length_eq_zero hx
      simp [val] at hv; omega
    · exact h
  obtain ⟨l, rfl⟩ : ∃ l, lb = l + 1 := ⟨lb - 1, by omega⟩
  obtain rfl := hbo (by omega)
  have hcl := hc l (by omega)
  have hxb := hd.get B32_pos l
  have hne : xs[l]?.getD 0 ≠ 0 := by
    have := ht (by intro e; simp [e] at hx)
    rw [List.getLastD_eq_getLast?, List.getLast?_eq_getElem?, hx] at this
    simpa using this
  have hsplit : n = val B32 (xs.take l) + B32 ^ l * (xs[l]?.getD 0) := by
    rw [← hv, ← val_take_succ, List.take_of_length_le (by omega)]
  have hlow : val B32 (xs.take l) < B32 ^ l := by
    have := val_lt B32_pos (hd.take l)
    rwa [List.length_take, Nat.min_eq_left (by omega)] at this
  have hge : B32 ^ l ≤ n := by
    have := val_ge (B := B32) ht (by intro e; simp [e] at hx)
    rwa [hx, hv] at this
  obtain ⟨x, hxe⟩ : ∃ x, x = xs[l]?.getD 0 := ⟨_, rfl⟩
  rw [← hxe] at hcl hxb hne hsplit
  rw [B32_eq] at hxb
  obtain ⟨s, hs⟩ : ∃ s, blen x + s = 32 := ⟨32 - blen x, by have := (blen_le (n := x) (k := 32)).2 hxb; omega⟩
  have hs32 : s < 32 := by
    have h2 := blen_lt x
    rcases Nat.eq_zero_or_pos (blen x) with h | h
    · rw [h] at h2; simp at h2; exact absurd h2 hne
    · omega
  have HTOP := Lib.hid (shift_top hsplit hlow hs)
  have HGE := Lib.hid hge
  have HA := Lib.hid ha
  have HB := Lib.hid hb0
  have HALT := Lib.hid hA
  have HS := Lib.hid hs
  have HE := Lib.hid (lib_blen x hxb)
  have hbl : blen x ≤ 32 := by omega
  have hsi : (32 : Int) - ((blen x : Nat) : Int) = (s : Int) := by omega
  have HSI := Lib.hid hsi
  clear ha hb0 hA hx hbo hc hd ht hv hlow hsplit hge hs hne hxe hsi hbl
  have hDpos : 0 < n * 2 ^ s := Nat.mul_pos hn (Nat.pow_pos (by decide))
  obtain ⟨D, hDe⟩ : ∃ D, D = n * 2 ^ s := ⟨_, rfl⟩
  obtain ⟨N, hNe⟩ : ∃ N, N = A * 2 ^ s := ⟨_, rfl⟩
  have hstart : N < D * B32 ^ (la - (l + 1) + 1) := by rw [hDe, hNe]; exact div_start (Nat.pow_pos (by decide)) HALT.out (by simpa using HGE.out) hlba (by omega)
  have hDlt : D < B32 ^ (l + 1) := by rw [hDe]; exact HTOP.out
  rw [← hDe] at hDpos
  obtain ⟨lq, hq1, hq2⟩ : ∃ lq, lq + l ≤ la ∧ la ≤ lq + l := ⟨la - l, by omega, by omega⟩
  have HDE := Lib.hid hDe
  have HNE := Lib.hid hNe
  have HST := Lib.hid hstart
  have HDL := Lib.hid hDlt
  clear hDe hNe hstart hDlt
  go_enter Try.func50, Try.ntmps50
  go_wp2_with fail
  go_step3
  go_wp2_with (go_at_call 67; refine (Try.bits_LeadingZeros32 _ _ (by omega) (by omega)).mono ?_; rw [Int.toNat_natCast, HE.out]; rintro e w1 ⟨rfl, hw⟩; obtain rfl : W = w1 := (by first | exact hw | exact hw.symm); clear hw; rw [HSI.out])
  refine (shiftLeft_any _ _ _ n s _ W HB.out rfl hs32 (by omega)).mono ?_
  rintro e w1 ⟨rfl, zs, hz1, hzl, hzd, hzv, hb1⟩
  rw [← HDE.out] at hzv
  have HSL := Lib.hid (hz1.whole hzl)
  have HZ1 := Lib.hid hz1
  have HZL := Lib.hid hzl
  have HZD := Lib.hid hzd
  have HZV := Lib.hid hzv
  have HB1 := Lib.hid hb1
  have hg12 : W.heap.size < w1.heap.size := hz1.lt
  clear hz1 hzl hzd hzv hb1
  go_wp2_with fail
  refine (trim_raw _ _ _ zs _ HSL.out (by omega) (by omega)).mono ?_
  rintro e w2 ⟨⟨ao', k, rfl, hk, ha', hz', ht, hzz⟩, hw⟩
  obtain rfl : w1 = w2 := hw
  have hND : N32 w1 ao' k D := ⟨zs.take k, trim_sl HSL.out hk ha', HZD.out.take _, ht, by rw [val_take_of_zeros hzz, HZV.out]⟩
  have hk0 : 0 < k := by
    rcases Nat.eq_zero_or_pos k with h | h
    · have := hND.zero.2 h; omega
    · exact h
  have hkl : k ≤ l + 1 := hND.len_le HDL.out
  have hdlt : D < B32 ^ k := hND.lt
  obtain rfl := ha' hk0
  have HTK := Lib.hid ht
  have HVK : Hid (val B32 (zs.take k) = D) := by show _ = _; rw [val_take_of_zeros hzz, HZV.out]
  have HDK := Lib.hid hdlt
  clear ha' hz' ht hzz hND hdlt
  go_wp2_with fail
  refine (shiftLeft_any _ _ _ A s _ w1 (HA.out.keep HB1.out) rfl hs32 (by omega)).mono ?_
  rintro e w3 ⟨rfl, rs0, hr1, hrl, hrd, hrv, hb3⟩
  rw [← HNE.out] at hrv
  have HR1 := Lib.hid hr1
  have HRL := Lib.hid hrl
  have HRD := Lib.hid hrd
  have HRV := Lib.hid hrv
  have HB3 := Lib.hid hb3
  have hg23 : w1.heap.size < w3.heap.size := hr1.lt
  have HZ3 := Lib.hid (HZ1.out.below hb3 hg12)
  obtain ⟨g1, hg1⟩ : ∃ g, g = W.heap.size := ⟨_, rfl⟩
  obtain ⟨g2, hg2⟩ : ∃ g, g = w1.heap.size := ⟨_, rfl⟩
  obtain ⟨g3, hg3⟩ : ∃ g, g = w3.heap.size := ⟨_, rfl⟩
  have HG1 := Lib.hid hg1
  have HG2 := Lib.hid hg2
  have HG3 := Lib.hid hg3
  have hlq0 : 0 < lq := by omega
  clear hr1 hrl hrd hrv hb3 hg1 hg2 hg3
  go_wp2_with (at_make; refine wpList_mk rfl _ 25 rfl 61 .u32 4 Try.underlying25 (by kernel_rfl) _ lq rfl (by omega) (by omega) (by omega) ?_; intro w4 hQ1 hb4 hz4)
  go_step3
  go_wp2
  go_loopw [10] (fun av wr => LongRel W.heap.size w1.heap.size w3.heap.size la lq k D N zs W av wr) (fun av wr => readBlk wr w1.heap.size + (intOf av).toNat)
  case atStart =>
    have hbW : Below W.heap.size W w4 := (HB1.out.trans (HB3.out.mono HB1.out.size)).trans (hb4.mono (Nat.le_trans HB1.out.size HB3.out.size))
    refine ⟨lq - 1, rs0, _, congrArg (Value.int _) (by omega), HZ3.out.below hb4 (by omega), HR1.out.below hb4 hg23, hQ1, HRL.out, HRD.out, by simp, Dig.replicate B32_pos _, by omega, ?_, ?_, ?_, hbW⟩
    · rw [val_replicate, HRV.out]; simp
    · rw [HRV.out]
      have e : (List.replicate lq 0)[lq - 1]?.getD 0 = 0 := by rw [List.getElem?_replicate]; split <;> rfl
      rw [e]
      have h := HST.out
      rw [show la - (l + 1) + 1 = lq - 1 + 1 by omega] at h
      simpa using h
    · intro j _
      rw [List.getElem?_replicate]; split <;> rfl
  case round =>
    obtain ⟨i, rs, qs, rfl, hz, hr, hq, hrl, hrd, hql, hqd, hi, hN, hlt, hzero, hbel⟩ := hrel
    have GZ := Lib.hid hz
    have GR := Lib.hid hr
    have GQ := Lib.hid hq
    have GRL := Lib.hid hrl
    have GRD := Lib.hid hrd
    have GQL := Lib.hid hql
    have GQD := Lib.hid hqd
    have GN := Lib.hid hN
    have GLT := Lib.hid hlt
    have G0 := Lib.hid hzero
    have GB := Lib.hid hbel
    have GM := Lib.hid (readBlk_of hr)
    clear hz hr hq hrl hrd hql hqd hN hlt hzero hbel
    have hrs : rs = rs.take i ++ (rs.drop i).take (k + 1) ++ rs.drop (i + (k + 1)) := by
      rw [List.append_assoc, ← List.drop_drop, List.take_append_drop, List.take_append_drop]
    obtain ⟨pre, hpre⟩ : ∃ p, p = rs.take i := ⟨_, rfl⟩
    obtain ⟨seg, hseg⟩ : ∃ p, p = (rs.drop i).take (k + 1) := ⟨_, rfl⟩
    obtain ⟨post, hpost⟩ : ∃ p, p = rs.drop (i + (k + 1)) := ⟨_, rfl⟩
    rw [← hpre, ← hseg, ← hpost] at hrs
    have hprel : pre.length = i := by rw [hpre, List.length_take, GRL.out]; omega
    have hsegl : seg.length = k + 1 := by rw [hseg, List.length_take, List.length_drop, GRL.out]; omega
    have hdpre : Dig B32 pre := by rw [hpre]; exact GRD.out.take _
    have hdseg : Dig B32 seg := by rw [hseg]; exact (GRD.out.drop _).take _
    have hdpost : Dig B32 post := by rw [hpost]; exact GRD.out.drop _
    have hrlt : val B32 rs < D * B32 ^ (i + 1) := Nat.lt_of_le_of_lt (Nat.le_add_left _ _) GLT.out
    have hp0 : val B32 post = 0 := by
      refine post_zero B32_pos hprel hsegl ?_
      rw [← hrs]
      refine Nat.lt_of_lt_of_le hrlt ?_
      rw [show i + (k + 1) = k + (i + 1) by omega, Nat.pow_add B32 k (i + 1)]
      exact Nat.mul_le_mul_right _ (Nat.le_of_lt HDK.out)
    have hrv : val B32 rs = val B32 pre + B32 ^ i * val B32 seg := by
      rw [hrs, three_val _ _ _ hp0, hprel]
    have hPB : val B32 seg < D * B32 := by
      have h1 : B32 ^ i * val B32 seg < B32 ^ i * (D * B32) := by
        have e : D * B32 ^ (i + 1) = B32 ^ i * (D * B32) := by rw [Nat.pow_succ]; grind
        omega
      exact Nat.lt_of_mul_lt_mul_left h1
    have hprelt : val B32 pre < B32 ^ i := by have := val_lt B32_pos hdpre; rwa [hprel] at this
    have hsl : Sl .u32 wr (some ⟨w1.heap.size, i, none⟩) (i + k + 1 - i) seg := by
      have h := GR.out.sl i (k + 1) (by rw [GRL.out]; omega)
      rw [show i + k + 1 - i = k + 1 by omega, hseg]
      exact h
    have hdsl : Sl .u32 wr (some ⟨W.heap.size, 0, none⟩) k (zs.take k) := GZ.out.sl0 k (by rw [HZL.out]; omega)
    have HRS := Lib.hid hrs
    have HPREL := Lib.hid hprel
    have HSEGL := Lib.hid hsegl
    have HDPRE := Lib.hid hdpre
    have HDSEG := Lib.hid hdseg
    have HDPOST := Lib.hid hdpost
    have HRV2 := Lib.hid hrv
    have HPB := Lib.hid hPB
    have HPRELT := Lib.hid hprelt
    have HP0 := Lib.hid hp0
    have HSG := Lib.hid hsl
    have HDSL := Lib.hid hdsl
    have hik : i + k ≤ la := by omega
    clear hpre hseg hpost hrs hprel hsegl hdpre hdseg hdpost hrlt hp0 hrv hPB hprelt hsl hdsl
    go_wp2_with fail
    refine (trim_raw _ _ _ seg _ HSG.out (by omega) (by omega)).mono ?_
    rintro e w5 ⟨⟨a5, m5, rfl, hm5, ha5, hz5, ht5, hzz5⟩, hw⟩
    obtain rfl : wr = w5 := hw
    have HP := Lib.hid (show N32 wr a5 m5 (val B32 seg) from ⟨seg.take m5, trim_sl HSG.out hm5 ha5, HDSEG.out.take _, ht5, val_take_of_zeros hzz5⟩)
    have HDV := Lib.hid (show N32 wr (some ⟨W.heap.size, 0, none⟩) k D from ⟨zs.take k, HDSL.out, HZD.out.take _, HTK.out, HVK.out⟩)
    clear ha5 hz5 ht5 hzz5
    go_wp2_with fail
    refine (compare_big _ _ _ _ _ _ (val B32 seg) D wr HP.out HDV.out (by omega) (by omega)).mono ?_
    rintro e w6 ⟨rfl, j, rfl⟩
    by_cases hPD : D ≤ val B32 seg
    · obtain ⟨z, hz⟩ : ∃ z, z = cmpN (val B32 seg) D := ⟨_, rfl⟩
      rw [← hz]
      have tz : 0 ≤ z := by rw [hz]; unfold cmpN; rw [if_neg (by omega)]; split <;> decide
      have HPD := Lib.hid hPD
      clear hz hPD
      go_wp2_with fail
      refine (estimate_any _ _ _ _ _ _ seg (zs.take k) _ (by omega) hk0 (HSG.out.drewN j) HDSEG.out (HDSL.out.drewN j) (HZD.out.take _) (by omega) (by rw [HVK.out]; exact HPD.out) (by rw [HVK.out]; exact HPB.out)).mono ?_
      rintro e w7 ⟨t, rfl, ht0, htB, htD, m, rfl⟩
      rw [HVK.out] at htD
      rw [B32_eq] at htB
      have HTD := Lib.hid htD
      clear htD
      have hq0 := GQD.out.get B32_pos i
      obtain ⟨q, hqe⟩ : ∃ q, q = qs[i]?.getD 0 := ⟨_, rfl⟩
      rw [← hqe] at hq0
      rw [B32_eq] at hq0
      have HQE := Lib.hid hqe
      clear hqe
      go_wp2_with fail
      have hblk : Blk .u32 (wr.drewN (j + m)) w1.heap.size 61 (pre ++ seg ++ post) := by rw [← HRS.out]; exact GR.out
      refine (subtractProduct_any w1.heap.size 61 i (i + k + 1 - i) _ pre seg post _ k _ (zs.take k) _ t _ hblk HPREL.out.symm (by rw [HSEGL.out]; omega) HDSEG.out
        (fun w' hg => ((GZ.out.drewN (j + m)).grown hg (by simp; omega)).sl0 k (by rw [HZL.out]; omega)) (HZD.out.take _) rfl htB (by omega) (by omega) (by rw [HVK.out]; exact HTD.out)).mono ?_
      rintro e w8 ⟨rfl, hg8, hs8, seg', hB8, hl8, hd8, hv8⟩
      rw [HVK.out] at hv8
      have hq8 : Blk .u32 w8 w3.heap.size 61 qs := (GQ.out.drewN (j + m)).grown hg8 (by simp; omega)
      have hz8 : Blk .u32 w8 W.heap.size 61 zs := (GZ.out.drewN (j + m)).grown hg8 (by simp; omega)
      have hvset := val_set B32 qs i (q + t) (by rw [GQL.out]; omega)
      rw [← HQE.out] at hvset
      have hq2 : val B32 (qs.set i (q + t)) = val B32 qs + B32 ^ i * t := by rw [Nat.mul_add] at hvset; omega
      have hlt2 := GLT.out
      rw [← HQE.out] at hlt2
      have hr2 : val B32 (pre ++ seg' ++ post) = val B32 pre + B32 ^ i * val B32 seg' := by rw [three_val _ _ _ HP0.out, HPREL.out]
      obtain ⟨r1, r2, r3, r4⟩ := div_sub HRV2.out hr2 hv8 hq2 GN.out hlt2
      rw [B32_eq] at r4
      have cq := hq8.cell i (by rw [GQL.out]; omega)
      rw [← HQE.out] at cq
      have fq := hq8.frozen i
      have b1 : (i : Int) < (lq : Int) := by omega
      have b0 : (0 : Int) ≤ (i : Int) := by omega
      have HB8 := Lib.hid hB8
      have HQ8 := Lib.hid hq8
      have HZ8 := Lib.hid hz8
      have HG8 := Lib.hid hg8
      have HL8 := Lib.hid hl8
      have HD8 := Lib.hid hd8
      have R1 := Lib.hid r1
      have R2 := Lib.hid r2
      have R3 := Lib.hid r3
      have htD0 : 0 < B32 ^ i * (t * D) := Nat.mul_pos (Nat.pow_pos B32_pos) (Nat.mul_pos ht0 hDpos)
      have hlt3 : val B32 (pre ++ seg' ++ post) < val B32 rs := by omega
      have HLT3 := Lib.hid hlt3
      have hqt : (q : Int) + (t : Int) ≤ 4294967295 := by omega
      have HSZ := Lib.hid (show w3.heap.size < w8.heap.size from hq8.lt)
      clear hB8 hq8 hz8 hg8 hl8 hd8 r1 r2 r3 hvset hq2 hlt2 hr2 hv8 hblk htD0 hlt3
      go_wp2
      have hb2 : Blk .u32 (w8.setCell ⟨w3.heap.size, i, none⟩ (.int .u32 ((q : Int) + (t : Int)))) w1.heap.size 61 (pre ++ seg' ++ post) := HB8.out.of_block (Below.heap_setCell _ _ _ _ (by simp; omega))
      refine ⟨⟨i, pre ++ seg' ++ post, qs.set i (q + t), rfl, HZ8.out.of_block (Below.heap_setCell _ _ _ _ (by simp; omega)), hb2, HQ8.out.set i (q + t) _ (by push_cast; rfl), ?_, (HDPRE.out.append HD8.out).append HDPOST.out, by simpa using GQL.out, GQD.out.set i (by rw [B32_eq]; exact r4), by omega, R1.out, ?_, ?_, ?_⟩, ?_⟩
      · have h := congrArg List.length HRS.out
        rw [GRL.out] at h
        simp only [List.length_append, HSEGL.out] at h
        simp only [List.length_append, HL8.out]
        omega
      · rw [List.getElem?_set_self (by rw [GQL.out]; omega)]
        exact R2.out
      · intro j' hj'
        rw [List.getElem?_set_ne (by omega)]
        exact G0.out j' hj'
      · refine ((below_drewN1 GB.out (j + m)).grown HG8.out GB.out.size (fun k' hk' => ?_)).setCell (by simp; omega) _
        cases hk'; omega
      · rw [readBlk_of hb2, GM.out]
        have := HLT3.out
        simp only [intOf]
        omega
    · have hlt : val B32 seg < D := by omega
      rw [cmpN_lt hlt]
      have HLT := Lib.hid hlt
      clear hPD hlt
      by_cases hi0 : i = 0
      · subst hi0
        have b1 : ¬ (0 : Int) < ((0 : Nat) : Int) := by decide
        have hRD : val B32 rs < D := by
          have h1 := HRV2.out
          have h2 := HPRELT.out
          have h3 := HLT.out
          simp only [Nat.pow_zero, Nat.one_mul] at h1 h2
          omega
        have hfin := div_end (A := A) (b := n) (s := 2 ^ s) (Q := val B32 qs) (R := val B32 rs) (Nat.pow_pos (by decide)) hn (by rw [← HDE.out, ← HNE.out]; exact GN.out) (by rw [← HDE.out]; exact hRD)
        have HFIN := Lib.hid hfin
        have HSQ := Lib.hid ((GQ.out.drewN j).whole GQL.out)
        have HSR := Lib.hid ((GR.out.drewN j).whole GRL.out)
        clear hRD hfin
        go_wp2_with fail
        refine (trim_raw _ _ _ qs _ HSQ.out (by omega) (by omega)).mono ?_
        rintro e w9 ⟨⟨qo, qk, rfl, hqk, hqo, hqz, hqt, hqzz⟩, hw⟩
        obtain rfl := hw
        have HQO := Lib.hid hqo
        have HQT := Lib.hid hqt
        have HQZZ := Lib.hid hqzz
        clear hqo hqz hqt hqzz
        go_wp2_with fail
        refine (trim_raw _ _ _ rs _ HSR.out (by omega) (by omega)).mono ?_
        rintro e w9 ⟨⟨ro, rk, rfl, hrk, hro, hrz, hrt, hrzz⟩, hw⟩
        obtain rfl := hw
        by_cases hrk0 : rk = 0
        · have hr0 : val B32 rs = 0 := by
            rw [← val_take_of_zeros hrzz, hrk0]; rfl
          have HR0 := Lib.hid hr0
          obtain rfl := hrz hrk0
          subst hrk0
          clear hro hrt hrzz hr0
          go_wp2_with fail
          refine (shiftRight_nil s _).mono ?_
          rintro e w9 ⟨rfl, hw⟩
          obtain rfl := hw
          go_wp2
          rw [Exit.noGoto_ret]
          go_ret2
          refine ⟨qo, qk, qk, none, 0, 0, rfl, ?_, ?_, below_drewN1 GB.out j⟩
          · rw [← HFIN.out.1]
            exact ⟨qs.take qk, trim_sl HSQ.out hqk HQO.out, GQD.out.take _, HQT.out, val_take_of_zeros HQZZ.out⟩
          · rw [← HFIN.out.2, HR0.out, Nat.zero_div]
            exact N32.nil _ _
        · obtain rfl := hro (by omega)
          have hrv : val B32 (rs.take rk) = val B32 rs := val_take_of_zeros hrzz
          have HRV3 := Lib.hid hrv
          clear hro hrz hrt hrzz hrv
          have hblk : Blk .u32 (wr.drewN j) w1.heap.size 61 (rs.take rk ++ rs.drop rk) := by rw [List.take_append_drop]; exact GR.out
          have HBLK := Lib.hid hblk
          clear hblk
          go_wp2_with fail
          refine (shiftRight_any w1.heap.size 61 rk _ s (rs.take rk) (rs.drop rk) _ _ HBLK.out (by rw [List.length_take, GRL.out]; omega) (GRD.out.take _) rfl hs32 (by omega) (Nat.le_refl _) (by omega)).mono ?_
          rintro e w9 ⟨so, sk, rfl, hsn, hsg, hsz⟩
          have HSN := Lib.hid hsn
          have HSG2 := Lib.hid hsg
          clear hsn hsg hsz
          go_wp2
          rw [Exit.noGoto_ret]
          go_ret2
          have hq9 : Blk .u32 w9 w3.heap.size 61 qs := (GQ.out.drewN j).grown HSG2.out (by simp; omega)
          refine ⟨qo, qk, qk, so, sk, sk, rfl, ?_, ?_, ?_⟩
          · rw [← HFIN.out.1]
            exact ⟨qs.take qk, trim_sl (hq9.whole GQL.out) hqk HQO.out, GQD.out.take _, HQT.out, val_take_of_zeros HQZZ.out⟩
          · rw [← HFIN.out.2, ← HRV3.out]
            exact HSN.out
          · refine (below_drewN1 GB.out j).grown HSG2.out GB.out.size (fun k' hk' => ?_)
            cases hk'; omega
      · obtain ⟨i', rfl⟩ : ∃ i', i = i' + 1 := ⟨i - 1, by omega⟩
        have b1 : (0 : Int) < ((i' + 1 : Nat) : Int) := by omega
        go_wp2
        refine ⟨⟨i', rs, qs, rfl, GZ.out.drewN j, GR.out.drewN j, GQ.out.drewN j, GRL.out, GRD.out, GQL.out, GQD.out, by omega, GN.out, ?_, fun j' hj' => G0.out j' (by omega), below_drewN1 GB.out j⟩, ?_⟩
        · rw [G0.out i' (by omega)]
          have := div_down HRV2.out HPRELT.out HLT.out
          simpa using this
        · have e : readBlk (wr.drewN j) w1.heap.size = readBlk wr w1.heap.size := rfl
          rw [e]
          simp only [intOf]
          omega
end Go.Proofs.Ytcgnmihabkgecaa

/- divide, for all numbers. -/
set_option linter.unusedVariables false
namespace Go.Proofs.Ytcgnmihabkgecaa
open Go.RowKit

set_option maxHeartbeats 1000000 in
theorem divide_ok (m n : Nat) (hn : 0 < n) : DivOk m n := by
  intro ao bo la lb ca cb W ha hb hla hlb
  by_cases h1 : lb = 1
  · have hlt := hb.lt
    rw [h1, Nat.pow_one] at hlt
    exact divide_easy m n hn hlt ao bo la lb ca cb W ha hb hla hlb
  · have hb0 : ((lb : Int) == 1) = false := by simp; omega
    have HA := Lib.hid ha
    have HB := Lib.hid hb
    clear ha hb h1
    by_cases hmn : m < n
    · have HM := Lib.hid hmn
      go_enter Try.func25, Try.ntmps25
      go_wp2_with fail
      refine (compare_any _ _ _ _ _ _ m n W HA.out HB.out hla hlb).mono ?_
      rintro e w1 ⟨rfl, j, rfl⟩
      rw [cmpN_lt HM.out]
      have HA1 := Lib.hid (HA.out.drewN j)
      clear hmn
      go_wp2_with fail
      refine (duplicate_n _ _ _ m _ HA1.out hla).mono ?_
      rintro e w2 ⟨do_, dc, rfl, hd, hb1⟩
      have HD := Lib.hid hd
      have HB1 := Lib.hid hb1
      clear hd hb1
      go_wp2
      go_ret2
      refine ⟨none, 0, 0, do_, la, dc, rfl, ?_, ?_, ?_⟩
      · rw [Nat.div_eq_of_lt HM.out]; exact N32.nil _ _
      · rw [Nat.mod_eq_of_lt HM.out]; exact HD.out
      · exact (below_drewN1 (Below.refl _ W) j).trans HB1.out
    · obtain ⟨z, hz⟩ : ∃ z, z = cmpN m n := ⟨_, rfl⟩
      have tz : 0 ≤ z := by rw [hz]; unfold cmpN; rw [if_neg (by omega)]; split <;> decide
      have HZ := Lib.hid hz
      have hnm : n ≤ m := by omega
      clear hz hmn
      go_enter Try.func25, Try.ntmps25
      go_wp2_with fail
      refine (compare_any _ _ _ _ _ _ m n W HA.out HB.out hla hlb).mono ?_
      rintro e w1 ⟨rfl, j, rfl⟩
      rw [← HZ.out]
      go_wp2_with fail
      refine (divideLong_any _ _ _ _ _ _ m n _ (HA.out.drewN j) (HB.out.drewN j) hn hnm hla).mono ?_
      rintro e w2 ⟨qo, ql, qc, ro, rl, rc, rfl, hq, hr, hb1⟩
      have HQ := Lib.hid hq
      have HR := Lib.hid hr
      have HB1 := Lib.hid hb1
      clear hq hr hb1
      go_wp2
      go_ret2
      exact ⟨qo, ql, qc, ro, rl, rc, rfl, HQ.out, HR.out, (below_drewN1 (Below.refl _ W) j).trans HB1.out⟩
end Go.Proofs.Ytcgnmihabkgecaa

/- Facts for NumBack: Div by 0, Parse of a numeral. -/
set_option linter.unusedVariables false
namespace Go.Proofs.Ytcgnmihabkgecaa
open Go.RowKit Go.Proofs

def DivNone (W : World) (e : Ending) (w' : World) : Prop :=
  e = .returned (.tuple #[.agg #[.bool false, .slice none 0 0], .agg #[.bool false, .slice none 0 0], .int .i64 10]) ∧ Below W.heap.size W w'

set_option maxHeartbeats 1000000 in
theorem div_zero (na nb : Bool) (ao bo : Option Addr) (la ca cb : Nat) (W : World) :
    Calls Try.prog 10 #[.agg #[.bool na, .slice ao la ca], .agg #[.bool nb, .slice bo 0 cb]] W (DivNone W) := by
  have hf : Fr W ((((W.alloc (.cells #[.bool na, .slice ao la ca] 27)).alloc (.cells #[.bool nb, .slice bo 0 cb] 27)).alloc (.cells #[.bool false, .slice none 0 0] 27)).alloc (.cells #[.bool false, .slice none 0 0] 27))
      [(27, #[.bool na, .slice ao la ca]), (27, #[.bool nb, .slice bo 0 cb]), (27, #[.bool false, .slice none 0 0]), (27, #[.bool false, .slice none 0 0])] :=
    ((((Fr.nil W).alloc rfl _ _).alloc (by simp) _ _).alloc (by simp) _ _).alloc (by simp) _ _
  have HF := Lib.hid hf
  clear hf
  go_enter Try.func10, Try.ntmps10
  go_wp2
  exact bodyPost_ret (v := .tuple #[.agg #[.bool false, .slice none 0 0], .agg #[.bool false, .slice none 0 0], .int .i64 10]) (by simp [results, Try.results10, go_sem]) rfl ⟨rfl, HF.out.below⟩

theorem parse_back (x : Int) (W : World) (hf : Fits x) : Calls Try.prog 42 #[.string ⟨(numeralZ x).toArray⟩] W (OutE W x) := by
  obtain ⟨k, hk⟩ : ∃ k, k = 1024 := ⟨_, rfl⟩
  have hlt : x.natAbs < B32 ^ k := by
    have h2 : blen x.natAbs ≤ 32 * k := Nat.le_trans hf (by omega)
    rw [B32_pow]
    exact blen_le.1 h2
  have hnl := numeralZ_len hlt
  refine ((parse_any (numeralZ x) W (by omega)).mono fun e w h => h.one).mono ?_
  rintro e w ⟨na, po, la, ca, er, z', rfl, hz2, hb2, hx⟩
  rw [numZ_numeralZ] at hx
  rcases hx with ⟨h1, _⟩ | ⟨_, h2, _⟩ | ⟨_, h2, rfl, rfl⟩
  · rw [isNum_numeralZ] at h1; cases h1
  · exact absurd hf h2
  · exact ⟨na, po, la, ca, rfl, fits_len hz2 hf, hz2, hb2⟩

theorem bl_div {x y : Int} {k : Nat} (h : Bl k x) : Bl k (x / y) := by
  unfold Bl at *
  rw [blen_le] at *
  exact Nat.lt_of_le_of_lt (Int.natAbs_ediv_le_natAbs x y) h
theorem bl_mod {x y : Int} {k : Nat} (h : Bl k y) (hy : y ≠ 0) : Bl k (x % y) := by
  unfold Bl at *
  rw [blen_le] at *
  have h1 := Int.emod_nonneg x hy
  have h2 := Int.emod_lt x hy
  omega
theorem bl_back {x y : Int} {k : Nat} (hx : Bl k x) (hy : Bl k y) (h0 : y ≠ 0) : Bl (k + 1) (x / y * y) := by
  have e : x / y * y = x - x % y := by
    have := Int.ediv_mul_add_emod x y
    omega
  rw [e]
  exact hx.sub (bl_mod hy h0)

/-- stores into an own block without numbers leave an integer -/
theorem Z32.setFrom {w : World} {g T : Nat} {c : Array Value} {neg : Bool} {ao : Option Addr} {len : Nat} {z : Int} (h : Z32 w neg ao len z) (us : List Value) (hu : ∀ u ∈ us, isInt u = false) (hb : Box w g T c) (hc : noInts c = true) :
    Z32 (setFrom w g 0 us) neg ao len z := (Stable.z32 0 neg ao len z).setFrom (Nat.zero_le _) us hu w 0 c h hb hc
end Go.Proofs.Ytcgnmihabkgecaa

/- Lehmer's steps, a product minus a product, a window of 64 bits: the numbers. No function of the program is walked here. -/
set_option linter.unusedVariables false
namespace Go.Proofs.Ytcgnmihabkgecaa
open Go.RowKit

theorem leh_even {A B a b L x y α β γ δ r s : Nat} (hA : A = a * L + x) (hB : B = b * L + y) (hx : x < L) (hy : y < L)
    (ha : a = δ * r + β * s) (hb : b = γ * r + α * s) (hs : δ ≤ s) (hr : s + β + δ ≤ r) (hab : α ≤ β) (hb1 : 1 ≤ β) (hgd : γ ≤ δ) (hdet : α * δ = γ * β + 1) :
    ∃ A' B', α * A = β * B + A' ∧ δ * B = γ * A + B' ∧ B' < A' ∧ A = δ * A' + β * B' ∧ B = γ * A' + α * B' := by
  have e1 : α * a = β * b + r := by subst ha hb; grind
  have e2 : δ * b = γ * a + s := by subst ha hb; grind
  have i1 : β * y ≤ r * L := Nat.mul_le_mul (by omega) (by omega)
  have i2 : γ * x ≤ s * L := Nat.mul_le_mul (by omega) (by omega)
  have f1 : α * A = β * B + (r * L + α * x - β * y) := by
    have : α * A + β * y = β * B + (r * L + α * x) := by subst hA hB; grind
    omega
  have f2 : δ * B = γ * A + (s * L + δ * y - γ * x) := by
    have : δ * B + γ * x = γ * A + (s * L + δ * y) := by subst hA hB; grind
    omega
  refine ⟨_, _, f1, f2, ?_, ?_, ?_⟩
  · have h1 : (s + β + δ) * L ≤ r * L := Nat.mul_le_mul_right _ hr
    have h2 : (β + δ) * (y + 1) ≤ (β + δ) * L := Nat.mul_le_mul_left _ hy
    have h3 : (s + β + δ) * L = s * L + (β + δ) * L := by grind
    have h4 : (β + δ) * (y + 1) = β * y + δ * y + (β + δ) := by grind
    omega
  · generalize r * L + α * x - β * y = P at *
    generalize s * L + δ * y - γ * x = Q at *
    clear hA hB ha hb e1 e2 i1 i2
    grind
  · generalize r * L + α * x - β * y = P at *
    generalize s * L + δ * y - γ * x = Q at *
    clear hA hB ha hb e1 e2 i1 i2
    grind

theorem leh_odd {A B a b L x y α β γ δ r s : Nat} (hA : A = a * L + x) (hB : B = b * L + y) (hx : x < L) (hy : y < L)
    (ha : a = δ * r + β * s) (hb : b = γ * r + α * s) (hs : δ ≤ s) (hr : s + β + δ ≤ r) (hab : α ≤ β) (hb1 : 1 ≤ β) (hgd : γ ≤ δ) (hdet : α * δ + 1 = γ * β) :
    ∃ A' B', β * B = α * A + A' ∧ γ * A = δ * B + B' ∧ B' < A' ∧ A = δ * A' + β * B' ∧ B = γ * A' + α * B' := by
  have e1 : β * b = α * a + r := by subst ha hb; grind
  have e2 : γ * a = δ * b + s := by subst ha hb; grind
  have i1 : α * x ≤ r * L := Nat.mul_le_mul (by omega) (by omega)
  have i2 : δ * y ≤ s * L := Nat.mul_le_mul (by omega) (by omega)
  have f1 : β * B = α * A + (r * L + β * y - α * x) := by
    have : β * B + α * x = α * A + (r * L + β * y) := by subst hA hB; grind
    omega
  have f2 : γ * A = δ * B + (s * L + γ * x - δ * y) := by
    have : γ * A + δ * y = δ * B + (s * L + γ * x) := by subst hA hB; grind
    omega
  refine ⟨_, _, f1, f2, ?_, ?_, ?_⟩
  · have h1 : (s + β + δ) * L ≤ r * L := Nat.mul_le_mul_right _ hr
    have h2 : (β + δ) * (x + 1) ≤ (β + δ) * L := Nat.mul_le_mul_left _ hx
    have h3 : (s + β + δ) * L = s * L + (β + δ) * L := by grind
    have h4 : (β + δ) * (x + 1) = β * x + δ * x + (β + δ) := by grind
    have h5 : α * x ≤ β * x := Nat.mul_le_mul_right _ hab
    have h6 : γ * x ≤ δ * x := Nat.mul_le_mul_right _ hgd
    omega
  · generalize r * L + β * y - α * x = P at *
    generalize s * L + γ * x - δ * y = Q at *
    clear hA hB ha hb e1 e2 i1 i2
    grind
  · generalize r * L + β * y - α * x = P at *
    generalize s * L + γ * x - δ * y = Q at *
    clear hA hB ha hb e1 e2 i1 i2
    grind

/-- what foresee returns for the highest bits of two numbers -/
def Fore (a b α β γ δ : Nat) (odd : Bool) : Prop :=
  ∃ r s, a = δ * r + β * s ∧ b = γ * r + α * s ∧ δ ≤ s ∧ s + β + δ ≤ r ∧ α ≤ β ∧ 1 ≤ β ∧ β ≤ δ ∧ γ ≤ δ ∧ 1 ≤ γ ∧ δ < 4294967296 ∧ (odd = false → α * δ = γ * β + 1) ∧ (odd = true → α * δ + 1 = γ * β)

/-- what the steps make of the numbers themselves -/
structure Stepped (A B α β γ δ : Nat) (odd : Bool) (A' B' : Nat) : Prop where
  even : odd = false → α * A = β * B + A' ∧ δ * B = γ * A + B'
  odd : odd = true → β * B = α * A + A' ∧ γ * A = δ * B + B'
  lt : B' < A'
  backA : A = δ * A' + β * B'
  backB : B = γ * A' + α * B'

theorem Fore.stepped {A B L α β γ δ : Nat} {odd : Bool} (hL : 0 < L) (h : Fore (A / L) (B / L) α β γ δ odd) : ∃ A' B', Stepped A B α β γ δ odd A' B' := by
  obtain ⟨r, s, h1, h2, h3, h4, h5, h6, h7, h8, h9, h10, he, ho⟩ := h
  have hA : A = A / L * L + A % L := (Nat.div_add_mod' A L).symm
  have hB : B = B / L * L + B % L := (Nat.div_add_mod' B L).symm
  have hx := Nat.mod_lt A hL
  have hy := Nat.mod_lt B hL
  cases odd with
  | false =>
    obtain ⟨A', B', k1, k2, k3, k4, k5⟩ := leh_even hA hB hx hy h1 h2 h3 h4 h5 h6 h8 (he rfl)
    exact ⟨A', B', ⟨fun _ => ⟨k1, k2⟩, fun h => (by cases h), k3, k4, k5⟩⟩
  | true =>
    obtain ⟨A', B', k1, k2, k3, k4, k5⟩ := leh_odd hA hB hx hy h1 h2 h3 h4 h5 h6 h8 (ho rfl)
    exact ⟨A', B', ⟨fun h => (by cases h), fun _ => ⟨k1, k2⟩, k3, k4, k5⟩⟩

theorem Stepped.gcd {A B α β γ δ A' B' : Nat} {odd : Bool} (h : Stepped A B α β γ δ odd A' B') : Nat.gcd A' B' = Nat.gcd A B := by
  apply Nat.dvd_antisymm
  · apply Nat.dvd_gcd
    · rw [h.backA]; exact Nat.dvd_add (Nat.dvd_trans (Nat.gcd_dvd_left _ _) (Nat.dvd_mul_left _ _)) (Nat.dvd_trans (Nat.gcd_dvd_right _ _) (Nat.dvd_mul_left _ _))
    · rw [h.backB]; exact Nat.dvd_add (Nat.dvd_trans (Nat.gcd_dvd_left _ _) (Nat.dvd_mul_left _ _)) (Nat.dvd_trans (Nat.gcd_dvd_right _ _) (Nat.dvd_mul_left _ _))
  · have dA : ∀ k, Nat.gcd A B ∣ k * A := fun k => Nat.dvd_trans (Nat.gcd_dvd_left _ _) (Nat.dvd_mul_left _ _)
    have dB : ∀ k, Nat.gcd A B ∣ k * B := fun k => Nat.dvd_trans (Nat.gcd_dvd_right _ _) (Nat.dvd_mul_left _ _)
    cases odd with
    | false =>
      obtain ⟨h1, h2⟩ := h.even rfl
      apply Nat.dvd_gcd
      · exact (Nat.dvd_add_right (dB β)).1 (h1 ▸ dA α)
      · exact (Nat.dvd_add_right (dA γ)).1 (h2 ▸ dB δ)
    | true =>
      obtain ⟨h1, h2⟩ := h.odd rfl
      apply Nat.dvd_gcd
      · exact (Nat.dvd_add_right (dA α)).1 (h1 ▸ dB β)
      · exact (Nat.dvd_add_right (dB δ)).1 (h2 ▸ dA γ)

theorem Stepped.le {A B α β γ δ A' B' : Nat} {odd : Bool} (h : Stepped A B α β γ δ odd A' B') (hd : 1 ≤ δ) (hg : 1 ≤ γ) (hb : 1 ≤ β) : A' ≤ A ∧ B' ≤ A ∧ A' + B' < A + B := by
  have h1 : 1 * A' ≤ δ * A' := Nat.mul_le_mul_right _ hd
  have h2 : 1 * A' ≤ γ * A' := Nat.mul_le_mul_right _ hg
  have h3 : 1 * B' ≤ β * B' := Nat.mul_le_mul_right _ hb
  have := h.backA
  have := h.backB
  have := h.lt
  omega

/-- the state of foresee's loop -/
def ForeInv (A B a b na nb la lb : Nat) (odd : Bool) : Prop :=
  A = lb * a + nb * b ∧ B = la * a + na * b ∧ b ≤ a ∧ la ≤ lb ∧ 1 ≤ lb ∧ nb ≤ lb ∧ ((nb = 0 ∧ na = 1 ∧ la = 0 ∧ lb = 1) ∨ (1 ≤ nb ∧ na ≤ nb ∧ 1 ≤ la)) ∧ (odd = true → na * lb = la * nb + 1) ∧ (odd = false → na * lb + 1 = la * nb)

theorem ForeInv.start {a b : Nat} (h : b ≤ a) : ForeInv a b a b 1 0 0 1 true := by
  refine ⟨by omega, by omega, h, by omega, by omega, by omega, .inl ⟨rfl, rfl, rfl, rfl⟩, fun _ => by omega, fun h => by cases h⟩

theorem ForeInv.fore {A B a b na nb la lb : Nat} {odd : Bool} (h : ForeInv A B a b na nb la lb odd) (hA : A < 18446744073709551616) (h1 : lb ≤ b) (h2 : nb + lb ≤ a - b) (hn : nb ≠ 0) :
    Fore A B na nb la lb (!odd) := by
  obtain ⟨e1, e2, hba, hl, hl1, hnl, hc, ho, he⟩ := h
  rcases hc with hc | ⟨hn1, hna, hla⟩
  · omega
  have hlt : lb < 4294967296 := by
    rcases Nat.lt_or_ge lb 4294967296 with h | h
    · exact h
    · have : 4294967296 * 4294967296 ≤ lb * a := Nat.mul_le_mul h (by omega)
      omega
  refine ⟨a, b, e1, e2, h1, by omega, hna, hn1, hnl, hl, hla, hlt, fun h => ?_, fun h => ?_⟩
  · have := ho (by simpa using h); omega
  · have := he (by simpa using h); omega

theorem ForeInv.next {A B a b na nb la lb : Nat} {odd : Bool} (h : ForeInv A B a b na nb la lb odd) (hb : 0 < b) :
    ForeInv A B b (a % b) la lb (na + a / b * la) (nb + a / b * lb) (!odd) := by
  obtain ⟨e1, e2, hba, hl, hl1, hnl, hc, ho, he⟩ := h
  have hq : 1 ≤ a / b := (Nat.one_le_div_iff hb).2 hba
  have hm := Nat.div_add_mod a b
  have hlt := Nat.mod_lt a hb
  generalize a / b = q at *
  generalize a % b = r at *
  have h3 : 1 * lb ≤ q * lb := Nat.mul_le_mul_right _ hq
  have h4 : q * la ≤ q * lb := Nat.mul_le_mul_left _ hl
  refine ⟨by subst hm; grind, by subst hm; grind, by omega, ?_, by omega, by omega, ?_, fun h => ?_, fun h => ?_⟩
  · rcases hc with ⟨rfl, rfl, rfl, rfl⟩ | hc
    · omega
    · omega
  · right
    rcases hc with ⟨rfl, rfl, rfl, rfl⟩ | hc
    · omega
    · have h5 : 1 * la ≤ q * la := Nat.mul_le_mul_right _ hq
      omega
  · have := he (by simpa using h)
    grind
  · have := ho (by simpa using h)
    grind

/-- nothing wraps around -/
theorem ForeInv.bounds {A B a b na nb la lb : Nat} {odd : Bool} (h : ForeInv A B a b na nb la lb odd) (h1 : lb ≤ b) :
    nb + lb ≤ A ∧ nb + a / b * lb ≤ A ∧ na + a / b * la ≤ A ∧ a / b * lb ≤ A ∧ a / b * la ≤ A ∧ a ≤ A ∧ lb ≤ A ∧ la ≤ A ∧ na ≤ A ∧ nb ≤ A := by
  obtain ⟨e1, e2, hba, hl, hl1, hnl, hc, ho, he⟩ := h
  have hb : 0 < b := by omega
  have hm : b * (a / b) ≤ a := Nat.mul_div_le a b
  generalize a / b = q at *
  have k1 : lb * 1 ≤ lb * a := Nat.mul_le_mul_left _ (by omega)
  have k2 : nb * 1 ≤ nb * b := Nat.mul_le_mul_left _ (by omega)
  have k3 : lb * (b * q) ≤ lb * a := Nat.mul_le_mul_left _ hm
  have k4 : (q * lb) * 1 ≤ (q * lb) * b := Nat.mul_le_mul_left _ (by omega)
  have k5 : lb * (b * q) = (q * lb) * b := by grind
  have k6 : q * la ≤ q * lb := Nat.mul_le_mul_left _ hl
  have k7 : 1 * a ≤ lb * a := Nat.mul_le_mul_right _ hl1
  refine ⟨by omega, by omega, ?_, by omega, by omega, by omega, by omega, by omega, ?_, by omega⟩
  · rcases hc with ⟨rfl, rfl, rfl, rfl⟩ | hc <;> omega
  · rcases hc with hc | hc <;> omega

theorem comb_step {B : Nat} {zs xs ys : List Nat} {i c d w f g nw w' : Nat} (hi : i < zs.length) (h0 : zs[i]?.getD 0 = 0)
    (hv : val B zs + c * B ^ i + g * val B (ys.take i) = f * val B (xs.take i) + (d + w) * B ^ i)
    (hn : nw + (d + ys[i]?.getD 0 * g) % B + w = (c + xs[i]?.getD 0 * f) % B + w' * B) :
    val B (zs.set i nw) + (c + xs[i]?.getD 0 * f) / B * B ^ (i + 1) + g * val B (ys.take (i + 1)) = f * val B (xs.take (i + 1)) + ((d + ys[i]?.getD 0 * g) / B + w') * B ^ (i + 1) := by
  have h1 := val_set B zs i nw hi
  have h2 := Nat.mod_add_div (c + xs[i]?.getD 0 * f) B
  have h3 := Nat.mod_add_div (d + ys[i]?.getD 0 * g) B
  rw [h0] at h1
  rw [val_take_succ, val_take_succ, Nat.pow_succ]
  generalize (c + xs[i]?.getD 0 * f) % B = c0 at *
  generalize (c + xs[i]?.getD 0 * f) / B = c1 at *
  generalize (d + ys[i]?.getD 0 * g) % B = d0 at *
  generalize (d + ys[i]?.getD 0 * g) / B = d1 at *
  generalize val B (zs.set i nw) = v at *
  generalize val B (xs.take i) = vx at *
  generalize val B (ys.take i) = vy at *
  generalize xs[i]?.getD 0 = x at *
  generalize ys[i]?.getD 0 = y at *
  generalize B ^ i = p at *
  have e : (nw + d0 + w) * p = (c0 + w' * B) * p := by rw [hn]
  have e2 : (c0 + B * c1) * p = (c + x * f) * p := by rw [h2]
  have e3 : (d0 + B * d1) * p = (d + y * g) * p := by rw [h3]
  grind

theorem comb_carry {B c x f : Nat} (hB : 0 < B) (hc : c ≤ f) (hx : x < B) : (c + x * f) / B ≤ f := by
  have : (x + 1) * f ≤ B * f := Nat.mul_le_mul_right _ hx
  rw [Nat.add_mul] at this
  have h2 := Nat.div_le_div_right (c := B) (show c + x * f ≤ B * f by omega)
  rwa [Nat.mul_div_cancel_left _ hB] at h2

theorem comb_end {P v c X Y f g e D : Nat} (hv : v + c * P + g * Y = f * X + e * P) (hD : f * X = g * Y + D) (hD2 : D < P) (hv2 : v < P) : v = D := by
  have h : v + c * P = D + e * P := by omega
  have h1 := congrArg (· % P) h
  simp only [Nat.add_mul_mod_self_right] at h1
  rwa [Nat.mod_eq_of_lt hv2, Nat.mod_eq_of_lt hD2] at h1

theorem pow64_split {s : Nat} (hs : s ≤ 64) : 2 ^ s * 2 ^ (64 - s) = 18446744073709551616 := by
  rw [← Nat.pow_add, show s + (64 - s) = 64 by omega]

theorem win_num {x0 x1 x2 R s : Nat} (hs : s < 32) :
    (x0 + 4294967296 * (x1 + 4294967296 * (x2 + 4294967296 * R))) / 2 ^ s % 18446744073709551616 = (x0 + x1 * 4294967296) / 2 ^ s + x2 % 2 ^ s * 2 ^ (64 - s) ∨ 18446744073709551616 ≤ x0 + x1 * 4294967296 := by
  by_cases hp : 18446744073709551616 ≤ x0 + x1 * 4294967296
  · exact .inr hp
  · left
    have h64 := pow64_split (show s ≤ 64 by omega)
    have h32 : 2 ^ s * 2 ^ (32 - s) = 4294967296 := by rw [← Nat.pow_add, show s + (32 - s) = 32 by omega]
    have hm : 0 < 2 ^ s := Nat.pow_pos (by decide)
    generalize 2 ^ (64 - s) = k at *
    generalize 2 ^ (32 - s) = j at *
    generalize 2 ^ s = m at *
    have e : x0 + 4294967296 * (x1 + 4294967296 * (x2 + 4294967296 * R)) = (x0 + x1 * 4294967296) + m * (k * (x2 + m * (j * R))) := by
      have : m * (k * (x2 + m * (j * R))) = (m * k) * (x2 + (m * j) * R) := by grind
      rw [this, h64, h32]
      omega
    rw [e, Nat.add_mul_div_left _ _ hm]
    have hdm := Nat.div_add_mod x2 m
    have e2 : k * (x2 + m * (j * R)) = k * (x2 % m) + 18446744073709551616 * (x2 / m + j * R) := by
      rw [← h64]
      conv => lhs; rw [← hdm]
      grind
    have hlt : (x0 + x1 * 4294967296) / m < k := by
      rw [Nat.div_lt_iff_lt_mul hm, Nat.mul_comm k m, h64]; omega
    have hr := Nat.mod_lt x2 hm
    have hb : k * (x2 % m) + k ≤ k * m := by
      have : k * (x2 % m + 1) ≤ k * m := Nat.mul_le_mul_left _ hr
      rwa [Nat.mul_add, Nat.mul_one] at this
    rw [Nat.mul_comm k m, h64] at hb
    rw [e2, ← Nat.add_assoc, Nat.add_mul_mod_self_left, Nat.mod_eq_of_lt (by omega), Nat.mul_comm k]

theorem val_at_split (xs : List Nat) (i : Nat) : val B32 (xs.drop i) = xs[i]?.getD 0 + B32 * val B32 (xs.drop (i + 1)) := by
  rcases Nat.lt_or_ge i xs.length with h | h
  · rw [drop_eq_cons xs i h, val_cons]
  · rw [List.drop_of_length_le h, List.drop_of_length_le (by omega), List.getElem?_eq_none h]; rfl

theorem val_drop_any (xs : List Nat) (hd : Dig B32 xs) (i : Nat) : val B32 xs / B32 ^ i = val B32 (xs.drop i) := by
  rcases Nat.lt_or_ge xs.length i with h | h
  · rw [List.drop_of_length_le (by omega)]
    have h1 := val_lt B32_pos hd
    have h2 : B32 ^ xs.length ≤ B32 ^ i := Nat.pow_le_pow_right B32_pos (by omega)
    exact Nat.div_eq_of_lt (by omega)
  · exact val_drop_div xs hd i h

/-- the window of 64 bits from the bit at 32 i + s on -/
theorem win_val {xs : List Nat} (hd : Dig B32 xs) (i s : Nat) (hs : s < 32) :
    val B32 xs / 2 ^ (32 * i + s) % 18446744073709551616 = (xs[i]?.getD 0 + xs[i + 1]?.getD 0 * 4294967296) / 2 ^ s + xs[i + 2]?.getD 0 % 2 ^ s * 2 ^ (64 - s) := by
  have e : 2 ^ (32 * i + s) = B32 ^ i * 2 ^ s := by
    rw [Nat.pow_add, Nat.pow_mul]; rfl
  rw [e, ← Nat.div_div_eq_div_mul, val_drop_any xs hd, val_at_split xs i, val_at_split xs (i + 1), val_at_split xs (i + 1 + 1)]
  have h0 := hd.get B32_pos i
  have h1 := hd.get B32_pos (i + 1)
  rw [B32_eq] at *
  rcases win_num (x0 := xs[i]?.getD 0) (x1 := xs[i + 1]?.getD 0) (x2 := xs[i + 2]?.getD 0) (R := val 4294967296 (xs.drop (i + 1 + 1 + 1))) hs with h | h
  · exact h
  · omega
end Go.Proofs.Ytcgnmihabkgecaa

/- combine, window. -/
set_option linter.unusedVariables false
namespace Go.Proofs.Ytcgnmihabkgecaa
open Go.RowKit

def CombRel (n f g : Nat) (xs ys : List Nat) (W : World) (cv dv wv iv : Value) (wr : World) : Prop :=
  ∃ (c d w i : Nat) (zs : List Nat), cv = .int .u64 (c : Int) ∧ dv = .int .u64 (d : Int) ∧ wv = .int .u64 (w : Int) ∧ iv = .int .i64 (i : Int) ∧ Blk .u32 wr W.heap.size 61 zs ∧ zs.length = n ∧ Dig B32 zs ∧ i ≤ n ∧ c ≤ f ∧ d ≤ g ∧ w ≤ 1 ∧
    val B32 zs + c * B32 ^ i + g * val B32 (ys.take i) = f * val B32 (xs.take i) + (d + w) * B32 ^ i ∧ (∀ j, i ≤ j → zs[j]?.getD 0 = 0) ∧ Below W.heap.size W wr

theorem u64_wrap_mod (z : Int) : IntKind.u64.wrap z = z % 18446744073709551616 := by
  simp [IntKind.wrap, IntKind.bits, IntKind.signed]

/-- one digit of a difference, with the borrow -/
theorem comb_digit (a b w : Nat) (ha : a < 4294967296) (hb : b < 4294967296) (hw : w ≤ 1) : ∃ nw w' : Nat, nw < 4294967296 ∧ w' ≤ 1 ∧ nw + b + w = a + w' * 4294967296 ∧
    IntKind.u64.wrap (IntKind.u64.wrap ((a : Int) - (b : Int)) - (w : Int)) % 4294967296 = (nw : Int) ∧ IntKind.u64.wrap (IntKind.u64.wrap ((a : Int) - (b : Int)) - (w : Int)) / 9223372036854775808 = (w' : Int) := by
  rw [u64_wrap_mod, u64_wrap_mod]
  by_cases h : a < b + w
  · exact ⟨a + 4294967296 - b - w, 1, by omega, by omega, by omega, by omega, by omega⟩
  · exact ⟨a - b - w, 0, by omega, by omega, by omega, by omega, by omega⟩

set_option maxRecDepth 8000 in
set_option maxHeartbeats 2000000 in
theorem combine_raw (ao bo : Option Addr) (la lb ca cb n f g D : Nat) (xs ys : List Nat) (F G : Int) (W : World) (ha : Sl .u32 W ao la xs) (hb : Sl .u32 W bo lb ys) (hda : Dig B32 xs) (hdb : Dig B32 ys) (hla : la ≤ 1000000000) (hlb : lb ≤ 1000000000) (hn : n = max la lb)
    (hF : F = (f : Int)) (hG : G = (g : Int)) (hf : f < 4294967296) (hg : g < 4294967296) (hD : f * val B32 xs = g * val B32 ys + D) (hDl : D < B32 ^ n) :
    Calls Try.prog 71 #[.slice ao la ca, .int .u64 F, .slice bo lb cb, .int .u64 G] W (Out32 W D) := by
  subst hF hG
  have HA := Lib.hid ha
  have HB := Lib.hid hb
  have HDA := Lib.hid hda
  have HDB := Lib.hid hdb
  have HD := Lib.hid hD
  have HDL := Lib.hid hDl
  have HN := Lib.hid hn
  have hn1 : max (la : Int) (lb : Int) = (n : Int) := by omega
  have hn2 : n ≤ 1000000000 := by omega
  have HG := Lib.hid (Nat.le_refl W.heap.size)
  clear ha hb hda hdb hD hDl hn
  go_enter Try.func71, Try.ntmps71
  go_wp2_with (at_make; refine wpList_mk rfl _ 25 rfl 61 .u32 4 Try.underlying25 (by kernel_rfl) _ n rfl (by omega) (by omega) (by omega) ?_; intro w1 hB1 hb1 hz1)
  go_loopw [10, 11, 12, 23] (fun cv dv wv iv wr => CombRel n f g xs ys W cv dv wv iv wr) (fun cv dv wv iv _ => n - (intOf iv).toNat)
  case atStart =>
    refine ⟨0, 0, 0, 0, _, rfl, rfl, rfl, rfl, hB1, by simp, Dig.replicate B32_pos _, by omega, by omega, by omega, by omega, ?_, ?_, hb1⟩
    · rw [val_replicate]; simp [val]
    · intro j hj; rw [List.getElem?_replicate]; split <;> rfl
  case round =>
    obtain ⟨c, d, w, i, zs, rfl, rfl, rfl, rfl, hB, hzl, hdz, hi, hc, hd, hw1, hv, h0, hbel⟩ := hrel
    have HZ := Lib.hid hB
    have HL := Lib.hid hzl
    have HDZ := Lib.hid hdz
    have HVV := Lib.hid hv
    have H0 := Lib.hid h0
    have HW := Lib.hid hbel
    clear hB hzl hdz hv h0 hbel
    by_cases hil : i < n
    · have hx := HDA.out.get B32_pos i
      have hy := HDB.out.get B32_pos i
      obtain ⟨x, hxe⟩ : ∃ x, x = xs[i]?.getD 0 := ⟨_, rfl⟩
      obtain ⟨y, hye⟩ : ∃ x, x = ys[i]?.getD 0 := ⟨_, rfl⟩
      rw [← hxe] at hx
      rw [← hye] at hy
      rw [B32_eq] at hx hy
      have HX := Lib.hid hxe
      have HY := Lib.hid hye
      obtain ⟨s, hs⟩ : ∃ s : Nat, s = x * f := ⟨_, rfl⟩
      obtain ⟨t, ht⟩ : ∃ t : Nat, t = y * g := ⟨_, rfl⟩
      have hs2 : (x : Int) * (f : Int) = (s : Int) := by rw [hs, Int.natCast_mul]
      have ht2 : (y : Int) * (g : Int) = (t : Int) := by rw [ht, Int.natCast_mul]
      have hs3 : s ≤ 18446744065119617025 := by rw [hs]; exact Nat.mul_le_mul (by omega : x ≤ 4294967295) (by omega : f ≤ 4294967295)
      have ht3 : t ≤ 18446744065119617025 := by rw [ht]; exact Nat.mul_le_mul (by omega : y ≤ 4294967295) (by omega : g ≤ 4294967295)
      have HS := Lib.hid hs
      have HT := Lib.hid ht
      clear hxe hye hs ht
      have b0 : (0 : Int) ≤ (i : Int) := by omega
      have b1 : (i : Int) < (n : Int) := by omega
      have cz1 := HZ.out.cell i (by rw [HL.out]; exact hil)
      have fz1 := HZ.out.frozen i
      have HAr := Lib.hid (HA.out.keep HW.out)
      have HBr := Lib.hid (HB.out.keep HW.out)
      go_wp2_with fail
      refine (digit_any _ _ _ xs _ i _ HAr.out rfl).mono ?_
      rw [← HX.out]
      rintro e w2 ⟨rfl, rfl⟩
      go_wp2_with fail
      refine (digit_any _ _ _ ys _ i _ HBr.out rfl).mono ?_
      rw [← HY.out]
      rintro e w2 ⟨rfl, rfl⟩
      go_wp2_with fail
      refine ⟨?_, by simp [intOf]; omega⟩
      obtain ⟨nw, w', hn1, hw2, hnw, hv1, hv2⟩ := comb_digit ((c + s) % 4294967296) ((d + t) % 4294967296) w (Nat.mod_lt _ (by decide)) (Nat.mod_lt _ (by decide)) hw1
      rw [Int.natCast_emod, Int.natCast_emod, Int.natCast_add, Int.natCast_add] at hv1 hv2
      have hv1' : IntKind.u64.wrap (IntKind.u64.wrap (((c : Int) + (s : Int)) % 4294967296 - ((d : Int) + (t : Int)) % 4294967296) - (w : Int)) % 4294967296 = (nw : Int) := hv1
      have hv2' : IntKind.u64.wrap (IntKind.u64.wrap (((c : Int) + (s : Int)) % 4294967296 - ((d : Int) + (t : Int)) % 4294967296) - (w : Int)) / 9223372036854775808 = (w' : Int) := hv2
      rw [hv1', hv2']
      have h00 := H0.out i (Nat.le_refl _)
      have hst := comb_step (B := B32) (w' := w') (nw := nw) (by rw [HL.out]; exact hil) h00 HVV.out (by rw [← HX.out, ← HY.out, ← HS.out, ← HT.out, B32_eq]; exact hnw)
      rw [← HX.out, ← HY.out, ← HS.out, ← HT.out] at hst
      have hc2 : (c + s) / B32 ≤ f := by rw [HS.out]; exact comb_carry B32_pos hc (by rw [B32_eq]; exact hx)
      have hd2 : (d + t) / B32 ≤ g := by rw [HT.out]; exact comb_carry B32_pos hd (by rw [B32_eq]; exact hy)
      refine ⟨(c + s) / B32, (d + t) / B32, w', i + 1, zs.set i nw, ?_, ?_, rfl, by go_num, HZ.out.set _ _ _ rfl, by simpa using HL.out, HDZ.out.set _ (by rw [B32_eq]; exact hn1), by omega, hc2, hd2, hw2, hst, ?_, HW.out.setCell (Nat.le_refl _) _⟩
      · exact congrArg (Value.int _) (by rw [B32_eq]; omega)
      · exact congrArg (Value.int _) (by rw [B32_eq]; omega)
      · intro j hj
        rw [List.getElem?_set_ne (by omega)]
        exact H0.out j (by omega)
    · obtain rfl : i = n := by omega
      have HSL := Lib.hid (HZ.out.whole HL.out)
      go_wp2_with fail
      refine (trim_raw _ _ _ _ _ HSL.out (Nat.le_refl _) (by omega)).mono ?_
      rintro e w3 ⟨⟨ao', m, rfl, hm, ha', hz', ht, hzz⟩, rfl⟩
      have HT := Lib.hid ht
      have HZZ := Lib.hid hzz
      have HAA := Lib.hid ha'
      clear ht hzz ha' hz'
      go_wp2
      go_ret
      refine ⟨ao', m, m, rfl, ⟨zs.take m, trim_sl HSL.out hm HAA.out, HDZ.out.take _, HT.out, ?_⟩, HW.out⟩
      rw [val_take_of_zeros HZZ.out]
      have hlx := HA.out.len
      have hly := HB.out.len
      have hnn := HN.out
      have hv := HVV.out
      rw [List.take_of_length_le (by omega), List.take_of_length_le (by omega)] at hv
      have hvl := val_lt B32_pos HDZ.out
      rw [HL.out] at hvl
      exact comb_end hv HD.out HDL.out hvl

theorem combine_any (ao bo : Option Addr) (la lb ca cb x f y g D : Nat) (F G : Int) (W : World) (ha : N32 W ao la x) (hb : N32 W bo lb y) (hla : la ≤ 1000000000) (hlb : lb ≤ 1000000000)
    (hF : F = (f : Int)) (hG : G = (g : Int)) (hf : f < 4294967296) (hg : g < 4294967296) (hD : f * x = g * y + D) (hDl : D ≤ x ∨ D ≤ y) :
    Calls Try.prog 71 #[.slice ao la ca, .int .u64 F, .slice bo lb cb, .int .u64 G] W (Out32 W D) := by
  have hx := ha.lt
  have hy := hb.lt
  have h1 : B32 ^ la ≤ B32 ^ max la lb := Nat.pow_le_pow_right B32_pos (by omega)
  have h2 : B32 ^ lb ≤ B32 ^ max la lb := Nat.pow_le_pow_right B32_pos (by omega)
  obtain ⟨xs, ha, hda, hta, hva⟩ := ha
  obtain ⟨ys, hb, hdb, htb, hvb⟩ := hb
  exact combine_raw ao bo la lb ca cb _ f g D xs ys F G W ha hb hda hdb hla hlb rfl hF hG hf hg (by rw [hva, hvb]; exact hD) (by omega)
end Go.Proofs.Ytcgnmihabkgecaa

/- window. -/
set_option linter.unusedVariables false
namespace Go.Proofs.Ytcgnmihabkgecaa
open Go.RowKit

theorem win_bits {p x s k : Nat} (hp : p < 18446744073709551616) (hs : s ≤ 64) (hk : k = 64 - s) :
    bits BinOp.or IntKind.u64 ((p : Int) / 2 ^ s) (IntKind.u64.wrap ((x : Int) * 2 ^ k)) = ((p / 2 ^ s + x % 2 ^ s * 2 ^ k : Nat) : Int) := by
  have h64 : 2 ^ s * 2 ^ k = 18446744073709551616 := by rw [hk]; exact pow64_split hs
  have hm : 0 < 2 ^ s := Nat.pow_pos (by decide)
  have e1 : (p : Int) / 2 ^ s = ((p / 2 ^ s : Nat) : Int) := by rw [Int.natCast_ediv, Int.natCast_pow]; rfl
  have e2 : IntKind.u64.wrap ((x : Int) * 2 ^ k) = ((x % 2 ^ s : Nat) : Int) * ((2 ^ k : Nat) : Int) := by
    have h1 : (x : Int) * 2 ^ k = ((x * 2 ^ k : Nat) : Int) := by push_cast; rfl
    have h2 : x * 2 ^ k % 18446744073709551616 = x % 2 ^ s * 2 ^ k := by rw [← h64, Nat.mul_mod_mul_right]
    rw [u64_wrap_mod, h1, ← Int.natCast_mul, ← h2]
    exact (Int.natCast_emod _ _).symm
  rw [e1, e2]
  have hlt : p / 2 ^ s < 2 ^ k := by rw [Nat.div_lt_iff_lt_mul hm, Nat.mul_comm, h64]; exact hp
  have hx : x % 2 ^ s * 2 ^ k < 18446744073709551616 := by
    rw [← h64]; exact Nat.mul_lt_mul_of_pos_right (Nat.mod_lt _ hm) (Nat.pow_pos (by decide))
  exact or_shift (p / 2 ^ s) (x % 2 ^ s) k (2 ^ k) hlt rfl hx (Nat.lt_of_le_of_lt (Nat.div_le_self _ _) hp)

set_option maxRecDepth 8000 in
set_option maxHeartbeats 2000000 in
theorem window_any (ao : Option Addr) (la ca n low : Nat) (I : Int) (W : World) (h : N32 W ao la n) (hI : I = (low : Int)) (hla : la ≤ 1000000000) (hlow : low ≤ 100000000000) :
    Calls Try.prog 56 #[.slice ao la ca, .int .i64 I] W (fun e w' => e = .returned (.int .u64 ((n / 2 ^ low % 18446744073709551616 : Nat) : Int)) ∧ Drew W w') := by
  subst hI
  obtain ⟨xs, hs, hd, ht, hv⟩ := h
  obtain ⟨i, hi⟩ : ∃ i, i = low / 32 := ⟨_, rfl⟩
  obtain ⟨s, hss⟩ : ∃ s, s = low % 32 := ⟨_, rfl⟩
  have hs32 : s < 32 := by omega
  have hlo : low = 32 * i + s := by omega
  have hx0 := hd.get B32_pos i
  have hx1 := hd.get B32_pos (i + 1)
  have hx2 := hd.get B32_pos (i + 2)
  have hwin := win_val hd i s hs32
  rw [← hlo, hv] at hwin
  obtain ⟨x0, e0⟩ : ∃ x, x = xs[i]?.getD 0 := ⟨_, rfl⟩
  obtain ⟨x1, e1⟩ : ∃ x, x = xs[i + 1]?.getD 0 := ⟨_, rfl⟩
  obtain ⟨x2, e2⟩ : ∃ x, x = xs[i + 2]?.getD 0 := ⟨_, rfl⟩
  rw [← e0, ← e1, ← e2] at hwin
  rw [← e0, B32_eq] at hx0
  rw [← e1, B32_eq] at hx1
  rw [← e2, B32_eq] at hx2
  have H := Lib.hid hs
  have E0 := Lib.hid e0
  have E1 := Lib.hid e1
  have E2 := Lib.hid e2
  have HW := Lib.hid hwin
  have t1 : (low : Int).tdiv 32 = (i : Int) := by rw [Int.tdiv_eq_ediv_of_nonneg (Int.natCast_nonneg _)]; omega
  have t2 : (low : Int).tmod 32 = (s : Int) := by rw [Int.tmod_eq_emod_of_nonneg (Int.natCast_nonneg _)]; omega
  have t3 : (low : Int) / 32 = (i : Int) := by omega
  have t4 : (low : Int) % 32 = (s : Int) := by omega
  obtain ⟨k, hk⟩ : ∃ k, k = 64 - s := ⟨_, rfl⟩
  have hk0 : 32 < k := by omega
  have hk1 : k ≤ 64 := by omega
  have t5 : (64 : Int) - (s : Int) = (k : Int) := by omega
  have HK := Lib.hid hk
  have s0 : (0 : Int) ≤ (s : Int) := by omega
  have s1 : (s : Int) < 32 := by omega
  clear hs hd ht hv e0 e1 e2 hwin hi hss hlo hk
  have ho : bits BinOp.or IntKind.u64 (x0 : Int) ((x1 : Int) * 4294967296) = ((x0 + x1 * 4294967296 : Nat) : Int) := or_shift x0 x1 32 4294967296 (by omega) (by decide) (by omega) (by omega)
  obtain ⟨p, hp⟩ : ∃ p, p = x0 + x1 * 4294967296 := ⟨_, rfl⟩
  rw [← hp] at ho
  have hp2 : p < 18446744073709551616 := by omega
  have HP := Lib.hid hp
  clear hp
  go_enter Try.func56, Try.ntmps56
  go_wp2_with fail
  refine (digit_any _ _ _ xs _ i _ H.out rfl).mono ?_
  rw [← E0.out]
  rintro e w2 ⟨rfl, rfl⟩
  go_wp2_with fail
  refine (digit_any _ _ _ xs _ (i + 1) _ H.out (by omega)).mono ?_
  rw [← E1.out]
  rintro e w2 ⟨rfl, rfl⟩
  go_wp2_with fail
  go_quiet ((go_at_call 51; exact digit_quiet _ _ _ xs _ (i + 2) x2 _ _ H.out (by omega) E2.out))
  go_wp2
  go_ret
  refine ⟨ret_int ?_, ⟨nq, rfl⟩⟩
  rw [win_bits hp2 (by omega) HK.out, HW.out, HP.out, HK.out]
end Go.Proofs.Ytcgnmihabkgecaa

/- foresee. -/
set_option linter.unusedVariables false
namespace Go.Proofs.Ytcgnmihabkgecaa
open Go.RowKit

def ForeOut (A B : Nat) (W : World) (e : Ending) (w' : World) : Prop :=
  ∃ (α β γ δ : Nat) (odd : Bool), e = .returned (.agg #[.int .u64 (α : Int), .int .u64 (β : Int), .int .u64 (γ : Int), .int .u64 (δ : Int), .bool odd]) ∧ (β = 0 ∨ Fore A B α β γ δ odd) ∧ Below W.heap.size W w'

def ForeRel (A B : Nat) (W : World) (av bv cv dv : Value) (wr : World) : Prop :=
  ∃ (a b α β na nb la lb : Nat) (odd : Bool), av = .int .u64 (a : Int) ∧ bv = .int .u64 (b : Int) ∧ cv = .int .u64 (la : Int) ∧ dv = .int .u64 (lb : Int) ∧
    Fr W wr [(85, #[.int .u64 0, .int .u64 0, .int .u64 0, .int .u64 0, .bool false]), (85, #[.int .u64 (α : Int), .int .u64 (β : Int), .int .u64 (na : Int), .int .u64 (nb : Int), .bool odd])] ∧
    ForeInv A B a b na nb la lb odd ∧ (β = 0 ∨ Fore A B α β na nb odd)

set_option maxRecDepth 8000 in
set_option maxHeartbeats 2000000 in
theorem foresee_any (A B : Nat) (X Y : Int) (W : World) (hX : X = (A : Int)) (hY : Y = (B : Int)) (hA : A < 18446744073709551616) (hBA : B ≤ A) :
    Calls Try.prog 55 #[.int .u64 X, .int .u64 Y] W (ForeOut A B W) := by
  subst hX hY
  have hf : Fr W ((W.alloc (.cells #[.int .u64 0, .int .u64 0, .int .u64 0, .int .u64 0, .bool false] 85)).alloc (.cells #[.int .u64 0, .int .u64 0, .int .u64 1, .int .u64 0, .bool true] 85))
      [(85, #[.int .u64 0, .int .u64 0, .int .u64 0, .int .u64 0, .bool false]), (85, #[.int .u64 0, .int .u64 0, .int .u64 1, .int .u64 0, .bool true])] :=
    ((Fr.nil W).alloc rfl _ _).alloc (by simp) _ _
  have HF := Lib.hid hf
  clear hf
  go_enter Try.func55, Try.ntmps55
  go_wp2
  go_loopw [0, 1, 6, 7] (fun av bv cv dv wr => ForeRel A B W av bv cv dv wr) (fun av bv cv dv _ => (intOf bv).toNat)
  case atStart =>
    exact ⟨A, B, 0, 0, 1, 0, 0, 1, true, rfl, rfl, rfl, rfl, HF.out, ForeInv.start hBA, .inl rfl⟩
  case round =>
    obtain ⟨a, b, α, β, na, nb, la, lb, odd, rfl, rfl, rfl, rfl, hf, hi, ho⟩ := hrel
    have GF := Lib.hid hf
    have GI := Lib.hid hi
    have GO := Lib.hid ho
    have hba : b ≤ a := hi.2.2.1
    have hlb1 : 1 ≤ lb := hi.2.2.2.2.1
    have c0 : wr.cell? ⟨W.heap.size + 1, 0, none⟩ = some (.int .u64 (α : Int)) := hf.cell 1 0 rfl rfl
    have c1 : wr.cell? ⟨W.heap.size + 1, 1, none⟩ = some (.int .u64 (β : Int)) := hf.cell 1 1 rfl rfl
    have c2 : wr.cell? ⟨W.heap.size + 1, 2, none⟩ = some (.int .u64 (na : Int)) := hf.cell 1 2 rfl rfl
    have c3 : wr.cell? ⟨W.heap.size + 1, 3, none⟩ = some (.int .u64 (nb : Int)) := hf.cell 1 3 rfl rfl
    have c4 : wr.cell? ⟨W.heap.size + 1, 4, none⟩ = some (.bool odd) := hf.cell 1 4 rfl rfl
    have f0 : wr.frozen? ⟨W.heap.size + 1, 0, none⟩ = false := hf.frozen 1 0 rfl
    have f1 : wr.frozen? ⟨W.heap.size + 1, 1, none⟩ = false := hf.frozen 1 1 rfl
    have f2 : wr.frozen? ⟨W.heap.size + 1, 2, none⟩ = false := hf.frozen 1 2 rfl
    have f3 : wr.frozen? ⟨W.heap.size + 1, 3, none⟩ = false := hf.frozen 1 3 rfl
    have f4 : wr.frozen? ⟨W.heap.size + 1, 4, none⟩ = false := hf.frozen 1 4 rfl
    by_cases h1 : lb ≤ b
    · obtain ⟨k1, k2, k3, k4, k5, k6, k7, k8, k9, k10⟩ := hi.bounds h1
      obtain ⟨q, hq⟩ : ∃ q, q = a / b := ⟨_, rfl⟩
      obtain ⟨r, hr⟩ : ∃ r, r = a % b := ⟨_, rfl⟩
      rw [← hq] at k2 k3 k4 k5
      have hb0 : 0 < b := by omega
      have t1 : (lb : Int) ≤ (b : Int) := by omega
      have tq : (a : Int).tdiv (b : Int) = (q : Int) := by rw [hq]; exact (Int.ofNat_tdiv _ _).symm
      have tr : (a : Int).tmod (b : Int) = (r : Int) := by rw [hr]; exact (Int.ofNat_tmod _ _).symm
      have tq2 : (a : Int) / (b : Int) = (q : Int) := by rw [hq]; exact (Int.natCast_ediv _ _).symm
      have tr2 : (a : Int) % (b : Int) = (r : Int) := by rw [hr]; exact (Int.natCast_emod _ _).symm
      have hrb : r < b := by rw [hr]; exact Nat.mod_lt _ hb0
      have hqa : q ≤ a := by rw [hq]; exact Nat.div_le_self _ _
      have tw : IntKind.u64.wrap (q : Int) = (q : Int) := u64_wrap_nat q (by omega)
      obtain ⟨s, hs⟩ : ∃ s : Nat, s = q * la := ⟨_, rfl⟩
      obtain ⟨t, ht⟩ : ∃ t : Nat, t = q * lb := ⟨_, rfl⟩
      have hs2 : (q : Int) * (la : Int) = (s : Int) := by rw [hs, Int.natCast_mul]
      have ht2 : (q : Int) * (lb : Int) = (t : Int) := by rw [ht, Int.natCast_mul]
      rw [← ht] at k2 k4
      rw [← hs] at k3 k5
      have HQ := Lib.hid hq
      have HR := Lib.hid hr
      have HS := Lib.hid hs
      have HT := Lib.hid ht
      clear hf hi ho hq hr hs ht
      by_cases h2 : nb + lb ≤ a - b
      · have t2 : (nb : Int) + (lb : Int) ≤ (a : Int) - (b : Int) := by omega
        have t3 : (0 : Int) < (b : Int) := by omega
        go_wp2
        go_quiet (fail)
        go_wp2
        refine ⟨?_, by simp [intOf]; omega⟩
        have hn := GI.out.next hb0
        have hfo : Hid (α = α) := rfl
        rw [← HQ.out, ← HR.out, ← HS.out, ← HT.out] at hn
        have hF := ((((((GF.out.later (below_drewN1 (Below.refl _ wr) nq)).set 1 0 rfl (.int .u64 (na : Int))).set 1 2 rfl (.int .u64 (la : Int))).set 1 1 rfl (.int .u64 (nb : Int))).set 1 3 rfl (.int .u64 (lb : Int))).set 1 4 rfl (.bool (!odd)))
        refine ⟨b, r, na, nb, la, lb, na + s, nb + t, !odd, rfl, rfl, by rw [Int.natCast_add], by rw [Int.natCast_add], hF, hn, ?_⟩
        by_cases hnb : nb = 0
        · exact .inl hnb
        · exact .inr (GI.out.fore hA h1 h2 hnb)
      · have t2 : ¬ (nb : Int) + (lb : Int) ≤ (a : Int) - (b : Int) := by omega
        have g0 : wr.cell? ⟨W.heap.size, 0, none⟩ = some (.int .u64 0) := GF.out.cell 0 0 rfl rfl
        have k0f : wr.frozen? ⟨W.heap.size, 0, none⟩ = false := GF.out.frozen 0 0 rfl
        have g1 : wr.cell? ⟨W.heap.size, 1, none⟩ = some (.int .u64 0) := GF.out.cell 0 1 rfl rfl
        have k1f : wr.frozen? ⟨W.heap.size, 1, none⟩ = false := GF.out.frozen 0 1 rfl
        have g2 : wr.cell? ⟨W.heap.size, 2, none⟩ = some (.int .u64 0) := GF.out.cell 0 2 rfl rfl
        have k2f : wr.frozen? ⟨W.heap.size, 2, none⟩ = false := GF.out.frozen 0 2 rfl
        have g3 : wr.cell? ⟨W.heap.size, 3, none⟩ = some (.int .u64 0) := GF.out.cell 0 3 rfl rfl
        have k3f : wr.frozen? ⟨W.heap.size, 3, none⟩ = false := GF.out.frozen 0 3 rfl
        have g4 : wr.cell? ⟨W.heap.size, 4, none⟩ = some (.bool false) := GF.out.cell 0 4 rfl rfl
        have k4f : wr.frozen? ⟨W.heap.size, 4, none⟩ = false := GF.out.frozen 0 4 rfl
        go_wp2
        have hF := ((((GF.out.set 0 0 rfl (.int .u64 (α : Int))).set 0 1 rfl (.int .u64 (β : Int))).set 0 2 rfl (.int .u64 (na : Int))).set 0 3 rfl (.int .u64 (nb : Int))).set 0 4 rfl (.bool odd)
        have e0 := hF.cell 0 0 rfl rfl
        have e1 := hF.cell 0 1 rfl rfl
        have e2 := hF.cell 0 2 rfl rfl
        have e3 := hF.cell 0 3 rfl rfl
        have e4 := hF.cell 0 4 rfl rfl
        exact bodyPost_ret (v := .agg #[.int .u64 (α : Int), .int .u64 (β : Int), .int .u64 (na : Int), .int .u64 (nb : Int), .bool odd]) (by simp only [Nat.add_zero] at e0 e1 e2 e3 e4; simp [results, Try.results55, go_sem, e0, e1, e2, e3, e4]) rfl ⟨α, β, na, nb, odd, rfl, GO.out, hF.below⟩
    · have t1 : ¬ (lb : Int) ≤ (b : Int) := by omega
      clear hf hi ho
      have g0 : wr.cell? ⟨W.heap.size, 0, none⟩ = some (.int .u64 0) := GF.out.cell 0 0 rfl rfl
      have k0f : wr.frozen? ⟨W.heap.size, 0, none⟩ = false := GF.out.frozen 0 0 rfl
      have g1 : wr.cell? ⟨W.heap.size, 1, none⟩ = some (.int .u64 0) := GF.out.cell 0 1 rfl rfl
      have k1f : wr.frozen? ⟨W.heap.size, 1, none⟩ = false := GF.out.frozen 0 1 rfl
      have g2 : wr.cell? ⟨W.heap.size, 2, none⟩ = some (.int .u64 0) := GF.out.cell 0 2 rfl rfl
      have k2f : wr.frozen? ⟨W.heap.size, 2, none⟩ = false := GF.out.frozen 0 2 rfl
      have g3 : wr.cell? ⟨W.heap.size, 3, none⟩ = some (.int .u64 0) := GF.out.cell 0 3 rfl rfl
      have k3f : wr.frozen? ⟨W.heap.size, 3, none⟩ = false := GF.out.frozen 0 3 rfl
      have g4 : wr.cell? ⟨W.heap.size, 4, none⟩ = some (.bool false) := GF.out.cell 0 4 rfl rfl
      have k4f : wr.frozen? ⟨W.heap.size, 4, none⟩ = false := GF.out.frozen 0 4 rfl
      go_wp2
      have hF := ((((GF.out.set 0 0 rfl (.int .u64 (α : Int))).set 0 1 rfl (.int .u64 (β : Int))).set 0 2 rfl (.int .u64 (na : Int))).set 0 3 rfl (.int .u64 (nb : Int))).set 0 4 rfl (.bool odd)
      have e0 := hF.cell 0 0 rfl rfl
      have e1 := hF.cell 0 1 rfl rfl
      have e2 := hF.cell 0 2 rfl rfl
      have e3 := hF.cell 0 3 rfl rfl
      have e4 := hF.cell 0 4 rfl rfl
      exact bodyPost_ret (v := .agg #[.int .u64 (α : Int), .int .u64 (β : Int), .int .u64 (na : Int), .int .u64 (nb : Int), .bool odd]) (by simp only [Nat.add_zero] at e0 e1 e2 e3 e4; simp [results, Try.results55, go_sem, e0, e1, e2, e3, e4]) rfl ⟨α, β, na, nb, odd, rfl, GO.out, hF.below⟩
end Go.Proofs.Ytcgnmihabkgecaa
