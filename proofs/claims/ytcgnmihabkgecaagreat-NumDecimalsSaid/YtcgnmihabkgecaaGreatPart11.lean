/- Part 11 of the contracts: Law5, RefM, RefV, RefX, Shr, RefW. -/
import Derived.IntWalk
import Derived.Deep.Cut
import Derived.Deep.AppendLies
import Derived.Deep.RegionHeldLaw
import Derived.Deep.RegionHeld3
import Derived.StillTailTactics
import Derived.Test.YtcgnmihabkgecaaGreatPart10

/- Facts for the laws of two integers. -/
set_option linter.unusedVariables false
namespace Go.Proofs.YtcgnmihabkgecaaGreat
open Go.RowKit Go.Proofs

/-- an answer with an error is told of z -/
def ToldOk (z er z' : Int) : Prop := (Fits z ∧ er = 0 ∧ z' = z) ∨ (¬ Fits z ∧ er = 3 ∧ z' = 0)

def OutT (W : World) (z : Int) (e : Ending) (w' : World) : Prop :=
  ∃ neg ao len cap er z', e = .returned (.tuple #[.agg #[.bool neg, .slice ao len cap], .int .i64 er]) ∧ len ≤ 512 ∧ Z32 w' neg ao len z' ∧ Below W.heap.size W w' ∧ ToldOk z er z'

theorem OutF.told {W w' : World} {z : Int} {e : Ending} (h : OutF W z e w') : OutT W z e w' := by
  rcases h with ⟨h, neg, ao, len, cap, rfl, hz, hb⟩ | ⟨h, rfl, hb⟩
  · exact ⟨neg, ao, len, cap, 0, z, rfl, fits_len hz h, hz, hb, .inl ⟨h, rfl, rfl⟩⟩
  · exact ⟨false, none, 0, 0, 3, 0, rfl, by omega, Z32.nil _, hb, .inr ⟨h, rfl, rfl⟩⟩

def Two (x y : Int) (W : World) (e : Ending) (w' : World) : Prop :=
  ∃ na ao la ca nb bo lb cb, e = .returned (.tuple #[.agg #[.bool na, .slice ao la ca], .agg #[.bool nb, .slice bo lb cb], .bool true]) ∧ la ≤ 512 ∧ lb ≤ 512 ∧ Z32 w' na ao la x ∧ Z32 w' nb bo lb y ∧ Below W.heap.size W w'

theorem TwoPost.fits {x y : Int} {W w' : World} {e : Ending} (h : TwoPost x y W e w') (hx : Fits x) (hy : Fits y) : Two x y W e w' := by
  obtain ⟨na, ao, la, ca, nb, bo, lb, cb, ok1, ok2, x', y', rfl, h1, h2, h3, h4, h5, h6, h7⟩ := h
  rcases h6 with ⟨_, rfl, rfl⟩ | ⟨h, _⟩
  · rcases h7 with ⟨_, rfl, rfl⟩ | ⟨h, _⟩
    · exact ⟨na, ao, la, ca, nb, bo, lb, cb, rfl, h1, h2, h3, h4, h5⟩
    · exact absurd hy h
  · exact absurd hx h

theorem fits_lt16 {x : Int} (hx : Fits x) : ∀ k, 16384 ≤ 16 * k → x.natAbs < B16 ^ k := by
  intro k hk
  have h1 := blen_le.2 (blen_lt x.natAbs)
  have h2 : blen x.natAbs ≤ 16 * k := Nat.le_trans hx hk
  rw [B16_pow]
  exact blen_le.1 h2

theorem sum_len16 {w : World} {neg : Bool} {ao : Option Addr} {len : Nat} {x y : Int} (hx : Fits x) (hy : Fits y) (h : Z16 w neg ao len (x + y)) : len ≤ 1000000000 := by
  refine Nat.le_trans (h.n16.len_le (k := 1026) ?_) (by omega)
  obtain ⟨k, hk⟩ : ∃ k, k = 1025 := ⟨_, rfl⟩
  have h1 := fits_lt16 hx k (by omega)
  have h2 := fits_lt16 hy k (by omega)
  have h3 : (x + y).natAbs ≤ x.natAbs + y.natAbs := Int.natAbs_add_le x y
  rw [show 1026 = k + 1 by omega, Nat.pow_succ, B16_eq] at *
  omega

theorem mul_len16 {w : World} {neg : Bool} {ao : Option Addr} {len : Nat} {x y : Int} (hx : Fits x) (hy : Fits y) (h : Z16 w neg ao len (x * y)) : len ≤ 1000000000 := by
  refine Nat.le_trans (h.n16.len_le (k := 2050) ?_) (by omega)
  obtain ⟨k, hk⟩ : ∃ k, k = 1025 := ⟨_, rfl⟩
  have h1 := fits_lt16 hx k (by omega)
  have h2 := fits_lt16 hy k (by omega)
  rw [Int.natAbs_mul, show 2050 = k + k by omega, Nat.pow_add]
  exact Nat.mul_lt_mul'' h1 h2

theorem sub_len16 {w : World} {neg : Bool} {ao : Option Addr} {len : Nat} {x y : Int} (hx : Fits x) (hy : Fits y) (h : Z16 w neg ao len (x - y)) : len ≤ 1000000000 := sum_len16 hx (fits_neg hy) h
end Go.Proofs.YtcgnmihabkgecaaGreat

/- The specification's mul, Mul. -/
set_option linter.unusedVariables false
namespace Go.Proofs.YtcgnmihabkgecaaGreat
open Go.RowKit

def MulRel (g la lb : Nat) (xa xb : List Nat) (W : World) (iv : Value) (wr : World) : Prop :=
  ∃ (i : Nat) (zs : List Nat), iv = .int .i64 (i : Int) ∧ Blk .i64 wr g 3 zs ∧ zs.length = la + lb ∧ Dig B16 zs ∧ i ≤ la ∧
    val B16 zs = val B16 (xa.take i) * val B16 xb ∧ (∀ j, i + lb ≤ j → zs[j]?.getD 0 = 0) ∧ Below W.heap.size W wr

def MulIn (g la lb i x : Nat) (xa xb : List Nat) (W : World) (cv kv : Value) (wr : World) : Prop :=
  ∃ (c k : Nat) (zs : List Nat), cv = .int .i64 (c : Int) ∧ kv = .int .i64 (k : Int) ∧ Blk .i64 wr g 3 zs ∧ zs.length = la + lb ∧ Dig B16 zs ∧ k ≤ lb + 1 ∧ c < 65536 ∧ (k = lb + 1 → c = 0) ∧
    val B16 zs + c * B16 ^ (i + k) = val B16 (xa.take i) * val B16 xb + x * val B16 (xb.take k) * B16 ^ i ∧ (∀ j, i + k ≤ j → i + lb ≤ j → zs[j]?.getD 0 = 0) ∧ Below W.heap.size W wr

theorem mul_in {g la lb i k c x y z n : Nat} {xa xb zs : List Nat} {W wr w2 : World} (hB : Blk .i64 wr g 3 zs) (hl : zs.length = la + lb) (hd : Dig B16 zs) (hxb : xb.length = lb) (hk : k < lb ∨ (k = lb ∧ 0 < c)) (hi : i < la) (hc : c < 65536)
    (hx : x < 65536) (hy : y < 65536) (hz : z < 65536) (hye : y = xb[k]?.getD 0) (hze : z = zs[i + k]?.getD 0)
    (hv : val B16 zs + c * B16 ^ (i + k) = val B16 (xa.take i) * val B16 xb + x * val B16 (xb.take k) * B16 ^ i) (h0 : ∀ j, i + k ≤ j → i + lb ≤ j → zs[j]?.getD 0 = 0) (hb : Below W.heap.size W wr) (hg : W.heap.size ≤ g)
    (s : Nat) (hs : s = c + (x * y + z)) (hw : w2 = wr.drewN n) (C V K : Int) (hC : C = ((s / 65536 : Nat) : Int)) (hV : V = ((s % 65536 : Nat) : Int)) (hK : K = (k : Int) + 1) :
    MulIn g la lb i x xa xb W (.int .i64 C) (.int .i64 K) (w2.setCell ⟨g, i + k, none⟩ (.int .i64 V)) := by
  subst hs hw hC hV hK
  have hst := prod_step (B := B16) (zs := zs) (xb := xb) (i := i) (k := k) (c := c) (x := x) (vi := val B16 (xa.take i)) (vb := val B16 xb) (by omega) hv
  rw [← hye, ← hze] at hst
  have hxy : x * y ≤ 65535 * 65535 := Nat.mul_le_mul (by omega) (by omega)
  refine ⟨(c + (x * y + z)) / 65536, k + 1, zs.set (i + k) ((c + (x * y + z)) % 65536), rfl, by go_num, (hB.drewN n).set _ _ _ rfl, by simpa using hl, hd.set _ (Nat.mod_lt _ B16_pos), by omega, ?_, ?_, hst, ?_, (below_drewN1 hb n).setCell hg _⟩
  · generalize x * y = t at *; omega
  · intro h
    have hkl : k = lb := by omega
    have hy0 : y = 0 := by rw [hye, List.getElem?_eq_none (by omega)]; rfl
    have hz0 : z = 0 := by rw [hze]; exact h0 _ (Nat.le_refl _) (by omega)
    subst hy0 hz0
    simp; omega
  · intro j hj hj2
    rw [List.getElem?_set_ne (by omega)]
    exact h0 j (by omega) hj2

theorem mul_out {g la lb i k : Nat} {xa xb zs : List Nat} {W wr : World} (hB : Blk .i64 wr g 3 zs) (hl : zs.length = la + lb) (hd : Dig B16 zs) (hi : i < la) (hxb : xb.length = lb) (hk : lb ≤ k) (hk2 : k ≤ lb + 1)
    (hv : val B16 zs + 0 * B16 ^ (i + k) = val B16 (xa.take i) * val B16 xb + (xa[i]?.getD 0) * val B16 (xb.take k) * B16 ^ i) (h0 : ∀ j, i + k ≤ j → i + lb ≤ j → zs[j]?.getD 0 = 0) (hb : Below W.heap.size W wr) :
    MulRel g la lb xa xb W (.int .i64 ((i : Int) + 1)) wr := by
  refine ⟨i + 1, zs, by go_num, hB, hl, hd, by omega, ?_, fun j hj => h0 j (by omega) (by omega), hb⟩
  rw [List.take_of_length_le (l := xb) (by omega)] at hv
  rw [val_take_succ]
  generalize B16 ^ i = p at *
  grind

set_option maxHeartbeats 2000000 in
theorem mul16_any (ao bo : Option Addr) (la lb ca cb : Nat) (m n : Nat) (W : World) (ha : N16 W ao la m) (hb : N16 W bo lb n) (hla : la ≤ 1000000000) (hlb : lb ≤ 1000000000) :
    Calls Tryz.prog 94 #[.slice ao la ca, .slice bo lb cb] W (Out16 W (m * n)) := by
  obtain ⟨xa, ⟨hxa, ba, oa, hao, hca⟩, hda, hta, rfl⟩ := ha
  obtain ⟨xb, hsb, hdb, htb, rfl⟩ := hb
  have HA := Lib.hid hca
  have HB := Lib.hid hsb
  have HDA := Lib.hid hda
  have HDB := Lib.hid hdb
  have HXA := Lib.hid hxa
  have HXB := Lib.hid hsb.len
  have HAO := Lib.hid hao
  have HG := Lib.hid (Nat.le_refl W.heap.size)
  clear hca hsb hda hdb hta htb hxa hao
  go_enter Tryz.func94, Tryz.ntmps94
  go_wp2_with (at_make; refine wpList_mk rfl _ 31 rfl 3 .i64 8 Tryz.underlying31 (by kernel_rfl) _ (la + lb) rfl (by omega) (by omega) (by omega) ?_; intro w1 hB1 hb1 hz1)
  go_loopw [6] (fun iv wr => MulRel W.heap.size la lb xa xb W iv wr) (fun iv _ => la - (intOf iv).toNat)
  case atStart =>
    refine ⟨0, _, rfl, hB1, by simp, Dig.replicate B16_pos _, by omega, ?_, ?_, hb1⟩
    · rw [val_replicate]; simp [val]
    · intro j hj; rw [List.getElem?_replicate]; split <;> rfl
  case round =>
    obtain ⟨i, zs, rfl, hB, hzl, hdz, hi, hv, h0, hbel⟩ := hrel
    obtain ⟨wo, rfl⟩ : ∃ wo : World, wo = wr := ⟨_, rfl⟩
    have HZ := Lib.hid hB
    have HL := Lib.hid hzl
    have HD := Lib.hid hdz
    have HV := Lib.hid hv
    have H0 := Lib.hid h0
    have HW := Lib.hid hbel
    clear hB hzl hdz hv h0 hbel
    by_cases hil : i < la
    · obtain rfl := HAO.out (by omega)
      have hx := HDA.out.get B16_pos i
      obtain ⟨x, hxe⟩ : ∃ x, x = xa[i]?.getD 0 := ⟨_, rfl⟩
      rw [← hxe] at hx
      rw [B16_eq] at hx
      have HX := Lib.hid hxe
      clear hxe
      have b1 : (i : Int) < (la : Int) := by omega
      go_wp2
      go_loopw [7, 8] (fun cv kv wr => MulIn W.heap.size la lb i x xa xb W cv kv wr) (fun cv kv _ => lb + 1 - (intOf kv).toNat)
      case atStart =>
        exact ⟨0, 0, zs, rfl, rfl, HZ.out, HL.out, HD.out, by omega, by omega, fun _ => rfl, by rw [HV.out]; simp [val], fun j _ hj => H0.out j hj, HW.out⟩
      case round =>
        obtain ⟨c, k, ys, rfl, rfl, hB, hzl, hdz, hk, hc, hck, hv, h0, hbel⟩ := hrel
        have GZ := Lib.hid hB
        have GL := Lib.hid hzl
        have GD := Lib.hid hdz
        have GV := Lib.hid hv
        have G0 := Lib.hid h0
        have GW := Lib.hid hbel
        have GCK := Lib.hid hck
        clear hB hzl hdz hv h0 hbel hck
        by_cases hgo : k < lb ∨ (k = lb ∧ 0 < c)
        · have ca1 := cell_later GW.out (HA.out i hil)
          rw [← HX.out] at ca1
          have hy := HDB.out.get B16_pos k
          obtain ⟨y, hye⟩ : ∃ x, x = xb[k]?.getD 0 := ⟨_, rfl⟩
          rw [← hye] at hy
          rw [B16_eq] at hy
          have cz1 := GZ.out.cell (i + k) (by rw [GL.out]; omega)
          have fz1 := GZ.out.frozen (i + k)
          have hz := GD.out.get B16_pos (i + k)
          obtain ⟨z, hze⟩ : ∃ x, x = ys[i + k]?.getD 0 := ⟨_, rfl⟩
          rw [← hze] at cz1 hz
          rw [B16_eq] at hz
          have HY := Lib.hid hye
          have HHZ := Lib.hid hze
          have HBr := Lib.hid (HB.out.keep GW.out)
          clear hye hze
          have hm0 : (0 : Int) ≤ (x : Int) * (y : Int) := Int.mul_nonneg (by omega) (by omega)
          have hm1 : (x : Int) * (y : Int) ≤ 4294836225 := by
            have h1 : x * y ≤ 65535 * 65535 := Nat.mul_le_mul (by omega) (by omega)
            have h2 : ((x * y : Nat) : Int) ≤ ((65535 * 65535 : Nat) : Int) := Int.ofNat_le.2 h1
            rw [Int.natCast_mul] at h2
            exact h2
          have q0 : (0 : Int) ≤ (i : Int) + (k : Int) := by omega
          have q1 : (i : Int) + (k : Int) < (la : Int) + (lb : Int) := by omega
          have q2 : ((i : Int) + (k : Int)).toNat = i + k := by omega
          have q3 : IntKind.i64.wrap ((i : Int) + (k : Int)) = (i : Int) + (k : Int) := IntWalk.i64_in _ (by omega)
          have q4 : IntKind.i64.wrap ((x : Int) * (y : Int)) = (x : Int) * (y : Int) := IntWalk.i64_in _ (by omega)
          have q5 : IntKind.i64.wrap ((z : Int) + (x : Int) * (y : Int)) = (z : Int) + (x : Int) * (y : Int) := IntWalk.i64_in _ (by omega)
          have q6 : IntKind.i64.wrap ((c : Int) + ((z : Int) + (x : Int) * (y : Int))) = (c : Int) + ((z : Int) + (x : Int) * (y : Int)) := IntWalk.i64_in _ (by omega)
          obtain ⟨t, ht⟩ : ∃ t : Nat, t = x * y := ⟨_, rfl⟩
          have HTN := Lib.hid ht
          have HT : Hid ((x : Int) * (y : Int) = (t : Int)) := by show _ = _; rw [ht, Int.natCast_mul]
          have HGO := Lib.hid hgo
          clear ht
          rcases hgo with h1 | ⟨h1, h2⟩
          · have b2 : (k : Int) < (lb : Int) := by omega
            go_wp2_with fail
            go_quiet ((go_at_call 109; exact at_quiet _ _ _ xb _ k y _ _ HBr.out rfl HY.out))
            clear q0 q2 q3 q4 q5 q6
            go_wp2
            refine ⟨?_, by simp [intOf]; omega⟩
            refine mul_in GZ.out GL.out GD.out HXB.out HGO.out hil hc hx hy hz HY.out HHZ.out GV.out G0.out GW.out HG.out (c + (x * y + z)) rfl rfl _ _ _ ?_ ?_ rfl
            · rw [HT.out, ← HTN.out]; omega
            · rw [HT.out, ← HTN.out]; omega
          · have h4 : lb ≤ k := by omega
            have h5 : k ≤ lb := by omega
            clear h1
            have b2 : ¬ (k : Int) < (lb : Int) := by omega
            have b3 : (0 : Int) < (c : Int) := by omega
            go_wp2_with fail
            go_quiet ((go_at_call 109; exact at_quiet _ _ _ xb _ k y _ _ HBr.out rfl HY.out))
            clear q0 q2 q3 q4 q5 q6
            go_wp2
            refine ⟨?_, by simp [intOf]; omega⟩
            refine mul_in GZ.out GL.out GD.out HXB.out HGO.out hil hc hx hy hz HY.out HHZ.out GV.out G0.out GW.out HG.out (c + (x * y + z)) rfl rfl _ _ _ ?_ ?_ rfl
            · rw [HT.out, ← HTN.out]; omega
            · rw [HT.out, ← HTN.out]; omega
        · have b2 : ¬ (k : Int) < (lb : Int) := by omega
          obtain rfl : c = 0 := by
            rcases Nat.eq_zero_or_pos c with h | h
            · exact h
            · have := GCK.out; omega
          go_wp2
          exact ⟨mul_out GZ.out GL.out GD.out hil HXB.out (by omega) hk (by rw [← HX.out]; exact GV.out) G0.out GW.out, by simp [intOf]; omega⟩
    · obtain rfl : i = la := by omega
      have HS := Lib.hid (HZ.out.whole HL.out)
      go_wp2_with (go_at_call 95; refine (trim16_raw _ _ _ _ _ HS.out (by omega) (by omega)).mono ?_; rintro e w3 ⟨⟨ao', m, rfl, hm, ha', ht, hzz⟩, rfl⟩)
      go_ret
      refine ⟨ao', m, _, rfl, hm, by omega, ⟨_, trim_sl HS.out hm ha', HD.out.take _, ht, ?_⟩, HW.out⟩
      rw [val_take_of_zeros hzz, HV.out, List.take_of_length_le (by rw [HXA.out]; exact Nat.le_refl _)]

set_option maxHeartbeats 2000000 in
theorem mulZ16_any (na nb : Bool) (ao bo : Option Addr) (la lb ca cb : Nat) (x y : Int) (W : World) (ha : Z16 W na ao la x) (hb : Z16 W nb bo lb y) (hla : la ≤ 1000000000) (hlb : lb ≤ 1000000000) :
    Calls Tryz.prog 97 #[.agg #[.bool na, .slice ao la ca], .agg #[.bool nb, .slice bo lb cb]] W (OutJ W (x * y)) := by
  have hf : Fr W (((W.alloc (.cells #[.bool na, .slice ao la ca] 33)).alloc (.cells #[.bool nb, .slice bo lb cb] 33)).alloc (.cells #[.bool false, .slice none 0 0] 33))
      [(33, #[.bool na, .slice ao la ca]), (33, #[.bool nb, .slice bo lb cb]), (33, #[.bool false, .slice none 0 0])] :=
    (((Fr.nil W).alloc rfl _ _).alloc (by simp) _ _).alloc (by simp) _ _
  obtain ⟨m, hm, rfl, hpm⟩ := ha
  obtain ⟨n, hn, rfl, hpn⟩ := hb
  have HM := Lib.hid (hm.keep hf.below)
  have HN := Lib.hid (hn.keep hf.below)
  rw [sgn_mul]
  clear hm hn hpm hpn
  go_enter Tryz.func97, Tryz.ntmps97
  go_wp2_with fail
  obtain ⟨W3, hW3⟩ : ∃ W3, W3 = ((W.alloc (.cells #[.bool na, .slice ao la ca] 33)).alloc (.cells #[.bool nb, .slice bo lb cb] 33)).alloc (.cells #[.bool false, .slice none 0 0] 33) := ⟨_, rfl⟩
  rw [← hW3] at hf HM HN ⊢
  clear hW3
  have HF := Lib.hid hf
  clear hf
  have c0 : W3.cell? ⟨W.heap.size, 0, none⟩ = some (.bool na) := HF.out.cell 0 0 rfl rfl
  have c1 : W3.cell? ⟨W.heap.size, 1, none⟩ = some (.slice ao la ca) := HF.out.cell 0 1 rfl rfl
  have c2 : W3.cell? ⟨W.heap.size + 1, 0, none⟩ = some (.bool nb) := HF.out.cell 1 0 rfl rfl
  have c3 : W3.cell? ⟨W.heap.size + 1, 1, none⟩ = some (.slice bo lb cb) := HF.out.cell 1 1 rfl rfl
  go_region_held3 (fun w' => w'.cell? ⟨W.heap.size, 0, none⟩ = some (.bool na) ∧ w'.cell? ⟨W.heap.size, 1, none⟩ = some (.slice ao la ca) ∧ w'.cell? ⟨W.heap.size + 1, 0, none⟩ = some (.bool nb) ∧ w'.cell? ⟨W.heap.size + 1, 1, none⟩ = some (.slice bo lb cb)) (first | (go_keep; done) | ((try dsimp only); (repeat' apply And.intro) <;> (first | (go_keep; done) | (rw [cell_set2 _ _ _ _ _ _ (by omega)]; assumption))))
    (first | (go_at_call 94; refine (mul16_any _ _ _ _ _ _ m n W3.drew HM.out HN.out hla hlb).mono ?_; rintro e u1 ⟨po, pl, pc, rfl, hlc1, hcm1, hp, hb1⟩; have HB1 := Lib.hid (below_of_drew hb1); have HP := Lib.hid hp; have HF1 := Lib.hid (HF.out.later HB1.out); clear hb1 hp; have k0 : u1.cell? ⟨W.heap.size, 0, none⟩ = some (.bool na) := HF1.out.cell 0 0 rfl rfl; have k1 : u1.cell? ⟨W.heap.size, 1, none⟩ = some (.slice ao la ca) := HF1.out.cell 0 1 rfl rfl; have k2 : u1.cell? ⟨W.heap.size + 1, 0, none⟩ = some (.bool nb) := HF1.out.cell 1 0 rfl rfl; have k3 : u1.cell? ⟨W.heap.size + 1, 1, none⟩ = some (.slice bo lb cb) := HF1.out.cell 1 1 rfl rfl) | (go_at_call 53; refine (made_any (na != nb) _ _ _ (m * n) _ HP.out hlc1 hcm1).mono ?_; rintro e u2 ⟨neg, so, sl, sc, rfl, hlc2, hcm2, hz, hb2⟩; have HF2 := Lib.hid (HF1.out.later hb2); have HZ := Lib.hid hz; clear hb2 hz; have j0 : u2.cell? ⟨W.heap.size, 0, none⟩ = some (.bool na) := HF2.out.cell 0 0 rfl rfl; have j1 : u2.cell? ⟨W.heap.size, 1, none⟩ = some (.slice ao la ca) := HF2.out.cell 0 1 rfl rfl; have j2 : u2.cell? ⟨W.heap.size + 1, 0, none⟩ = some (.bool nb) := HF2.out.cell 1 0 rfl rfl; have j3 : u2.cell? ⟨W.heap.size + 1, 1, none⟩ = some (.slice bo lb cb) := HF2.out.cell 1 1 rfl rfl; have g0 : u2.cell? ⟨W.heap.size + 2, 0, none⟩ = some (.bool false) := HF2.out.cell 2 0 rfl rfl; have g1 : u2.cell? ⟨W.heap.size + 2, 1, none⟩ = some (.slice none 0 0) := HF2.out.cell 2 1 rfl rfl; have g2 : u2.frozen? ⟨W.heap.size + 2, 0, none⟩ = false := HF2.out.frozen 2 0 rfl; have g3 : u2.frozen? ⟨W.heap.size + 2, 1, none⟩ = false := HF2.out.frozen 2 1 rfl))
  go_wp2
  obtain ⟨e0, e1, hz, hbel, _⟩ := HF2.out.finJ (cap := sc) 2 rfl HZ.out
  exact bodyPost_ret (v := .agg #[.bool neg, .slice so sl sc]) (by simp [results, Tryz.results97, go_sem, e0, e1]) rfl ⟨neg, so, sl, sc, rfl, hlc2, hcm2, hz, hbel⟩
end Go.Proofs.YtcgnmihabkgecaaGreat

/- The specification's power, bit, shl by one. -/
set_option linter.unusedVariables false
namespace Go.Proofs.YtcgnmihabkgecaaGreat
open Go.RowKit

set_option maxHeartbeats 400000 in
theorem power_any (N : Int) (n : Nat) (w : World) (hN : N = (n : Int)) (hn : n ≤ 16) :
    Calls Tryz.prog 121 #[.int .i64 N] w fun e w' => e = .returned (.int .i64 ((2 ^ n : Nat) : Int)) ∧ w = w' := by
  subst hN
  go_enter Tryz.func121, Tryz.ntmps121
  go_wp2
  go_loop [3, 4] (fun xv iv => ∃ i : Nat, i ≤ n ∧ iv = .int .i64 (i : Int) ∧ xv = .int .i64 ((2 ^ i : Nat) : Int)) (fun _ iv => n - (intOf iv).toNat)
  case atStart => exact ⟨0, by omega, rfl, rfl⟩
  case round =>
    obtain ⟨i, hi, rfl, rfl⟩ := hrel
    obtain ⟨p, hp⟩ : ∃ p, p = 2 ^ i := ⟨_, rfl⟩
    have hp2 : p ≤ 65536 := by
      rw [hp]
      have := Nat.pow_le_pow_right (n := 2) (by decide) (show i ≤ 16 by omega)
      simpa using this
    rw [← hp]
    have HP := Lib.hid hp
    by_cases hin : i < n
    · have b1 : (i : Int) < (n : Int) := by omega
      clear hp
      go_wp2
      go_round
      case rel => exact ⟨i + 1, by omega, by go_num, congrArg (Value.int _) (by rw [Nat.pow_succ, ← HP.out]; omega)⟩
      case measure => simp only [intOf]; omega
    · have b1 : ¬ (i : Int) < (n : Int) := by omega
      have hin2 : i = n := by omega
      have HI := Lib.hid hin2
      clear hp hin2
      go_wp2
      go_ret
      exact ⟨ret_int (by rw [HP.out, HI.out, Int.natCast_pow]; rfl), rfl⟩

theorem bit_of {xs : List Nat} (hd : Dig B16 xs) (i : Nat) : val B16 xs / 2 ^ i % 2 = xs[i / 16]?.getD 0 / 2 ^ (i % 16) % 2 := by
  have e : i = 16 * (i / 16) + i % 16 := (Nat.div_add_mod i 16).symm
  have hlt : i % 16 < 16 := Nat.mod_lt _ (by decide)
  conv => lhs; rw [e, Nat.pow_add, ← B16_pow, ← Nat.div_div_eq_div_mul]
  generalize i / 16 = j
  generalize i % 16 = t at *
  by_cases hj : j < xs.length
  · have h1 : val B16 xs / B16 ^ j = xs[j]?.getD 0 + B16 * val B16 (xs.drop (j + 1)) := by
      rw [val_split B16 xs j (by omega), Nat.add_mul_div_left _ _ (Nat.pow_pos B16_pos), Nat.div_eq_of_lt, Nat.zero_add, drop_eq_cons xs j hj, val_cons]
      have := val_lt B16_pos (hd.take j)
      rwa [List.length_take, Nat.min_eq_left (by omega)] at this
    have h2 : B16 = 2 ^ t * (2 * 2 ^ (15 - t)) := by
      rw [← Nat.pow_succ', ← Nat.pow_add, show t + (15 - t + 1) = 16 by omega]; rfl
    rw [h1]
    have e2 : xs[j]?.getD 0 + B16 * val B16 (xs.drop (j + 1)) = xs[j]?.getD 0 + 2 ^ t * (2 * (2 ^ (15 - t) * val B16 (xs.drop (j + 1)))) := by
      rw [h2]; grind
    rw [e2, Nat.add_mul_div_left _ _ (Nat.pow_pos (by decide)), Nat.add_mul_mod_self_left]
  · have h1 : val B16 xs / B16 ^ j = 0 := by
      apply Nat.div_eq_of_lt
      exact Nat.lt_of_lt_of_le (val_lt B16_pos hd) (Nat.pow_le_pow_right B16_pos (by omega))
    rw [h1, List.getElem?_eq_none (by omega)]
    rfl

set_option maxHeartbeats 800000 in
theorem bit_any (ao : Option Addr) (la ca n i : Nat) (I : Int) (W : World) (h : N16 W ao la n) (hI : I = (i : Int)) (hi : i < 16 * la) (hla : la ≤ 1000000000) :
    Calls Tryz.prog 120 #[.slice ao la ca, .int .i64 I] W fun e w' => e = .returned (.int .i64 ((n / 2 ^ i % 2 : Nat) : Int)) ∧ ∃ m, w' = W.drewN m := by
  subst hI
  obtain ⟨xs, ⟨hx, b, off, h0, hc⟩, hd, ht, hv⟩ := h
  obtain rfl := h0 (by omega)
  rw [← hv, bit_of hd i]
  obtain ⟨j, hj⟩ : ∃ j, j = i / 16 := ⟨_, rfl⟩
  obtain ⟨t, htt⟩ : ∃ t, t = i % 16 := ⟨_, rfl⟩
  have hjla : j < la := by omega
  have ht16 : t ≤ 16 := by omega
  have hxj := hd.get B16_pos j
  have c1 := hc j hjla
  rw [← hj, ← htt]
  obtain ⟨x, hxe⟩ : ∃ x, x = xs[j]?.getD 0 := ⟨_, rfl⟩
  rw [← hxe] at c1 hxj ⊢
  obtain ⟨p, hp⟩ : ∃ p, p = 2 ^ t := ⟨_, rfl⟩
  have hp0 : 0 < p := by rw [hp]; exact Nat.pow_pos (by decide)
  have hp2 : p ≤ 65536 := by
    rw [hp]
    have := Nat.pow_le_pow_right (n := 2) (by decide) ht16
    simpa using this
  rw [← hp]
  have HP := Lib.hid hp
  rw [B16_eq] at hxj
  have HC := Lib.hid c1
  have e1 : (i : Int) / 16 = (j : Int) := by omega
  have e2 : (i : Int) % 16 = (t : Int) := by omega
  have b0 : ¬ (i : Int) < 0 := by omega
  have b1 : ¬ 16 * (la : Int) ≤ (i : Int) := by omega
  have b2 : (j : Int) < (la : Int) := by omega
  have b3 : (0 : Int) ≤ (j : Int) := by omega
  clear hx h0 hc hd ht hv hj htt hxe hp
  go_enter Tryz.func120, Tryz.ntmps120
  go_wp2
  go_quiet ((go_at_call 121; exact Calls.quiet_of_same ((power_any _ t _ rfl ht16).mono fun e w h => ⟨by rw [h.1, ← HP.out], h.2.symm⟩)))
  go_wp2
  go_ret
  refine ⟨ret_int ?_, nq, rfl⟩
  have hq : x / p ≤ x := Nat.div_le_self _ _
  have e : (x : Int) / (p : Int) = ((x / p : Nat) : Int) := (Int.natCast_ediv _ _).symm
  rw [e]
  generalize x / p = y at *
  have e3 : wrap64 (y : Int) = (y : Int) := by unfold wrap64; omega
  rw [e3, Int.tmod_eq_emod_of_nonneg (Int.natCast_nonneg _)]
  omega

/-- shl by one -/
def Shl1Rel (la : Nat) (xs : List Nat) (W : World) (ov cv iv : Value) (wr : World) : Prop :=
  ∃ (c i : Nat) (zs : List Nat), cv = .int .i64 (c : Int) ∧ iv = .int .i64 (i : Int) ∧ Own .i64 wr W.heap.size 3 ov i zs ∧ Dig B16 zs ∧ c ≤ 1 ∧ i ≤ la ∧ val B16 zs + c * B16 ^ i = 2 * val B16 (xs.take i) ∧ Below W.heap.size W wr

theorem shl1_step {xs zs : List Nat} {c i x : Nat} (hl : zs.length = i) (hx : x = xs[i]?.getD 0) (h : val B16 zs + c * B16 ^ i = 2 * val B16 (xs.take i)) :
    val B16 (zs ++ [(c + x * 2) % B16]) + (c + x * 2) / B16 * B16 ^ (i + 1) = 2 * val B16 (xs.take (i + 1)) := by
  have h2 := Nat.mod_add_div (c + x * 2) B16
  rw [val_snoc, hl, val_take_succ, ← hx, Nat.pow_succ]
  generalize (c + x * 2) % B16 = d at *
  generalize (c + x * 2) / B16 = q at *
  generalize B16 ^ i = p at *
  generalize B16 = B at *
  grind

set_option maxHeartbeats 1000000 in
theorem shl1_any (ao : Option Addr) (la ca n : Nat) (W : World) (h : N16 W ao la n) (hla : la ≤ 1000000000) :
    Calls Tryz.prog 114 #[.slice ao la ca, .int .i64 1] W (Out16 W (2 * n)) := by
  obtain ⟨xs, hs, hd, ht, hv⟩ := h
  have HS := Lib.hid hs
  have HD := Lib.hid hd
  have HV := Lib.hid hv
  have HLX := Lib.hid hs.len
  clear hs hd ht hv
  go_enter Tryz.func114, Tryz.ntmps114
  go_wp2_with (at_make; refine wpList_mk rfl _ 31 rfl 3 .i64 8 Tryz.underlying31 (by kernel_rfl) _ 0 rfl (by rfl) (by omega) (by omega) ?_; intro w1 hB1 hb1 hz1)
  refine (power_any 1 1 _ rfl (by omega)).mono ?_
  rintro e w2 ⟨rfl, hw⟩
  obtain rfl : w1 = w2 := hw
  have e2 : ((2 ^ 1 : Nat) : Int) = 2 := rfl
  rw [e2]
  clear e2
  have ho : Own .i64 w1 W.heap.size 3 (.slice (some ⟨W.heap.size, 0, none⟩) 0 0) 0 [] := ⟨by simp, Or.inr ⟨W.heap.size, 0, cs .i64 [], rfl, Nat.le_refl _, hB1, Nat.le_refl _, Nat.zero_le _, by simp [cs], by simp [cs]⟩⟩
  have HO := Lib.hid ho
  clear ho
  go_wp2
  go_loopw [5, 6, 8] (fun ov cv iv wr => Shl1Rel la xs W ov cv iv wr) (fun ov cv iv _ => la - (intOf iv).toNat)
  case atStart => exact ⟨0, 0, [], rfl, rfl, HO.out, Dig.nil _, by omega, by omega, by simp [val], hb1⟩
  case round =>
    obtain ⟨c, i, zs, rfl, rfl, hown, hd, hc, hi, hv, hbel⟩ := hrel
    have GO := Lib.hid hown
    have GD := Lib.hid hd
    have GV := Lib.hid hv
    have GW := Lib.hid hbel
    clear hown hd hv hbel
    by_cases hil : i < la
    · have t1 : (i : Int) < (la : Int) := by omega
      have t0 : (0 : Int) ≤ (i : Int) := by omega
      have hx := HD.out.get B16_pos i
      obtain ⟨x, hxe⟩ : ∃ x, x = xs[i]?.getD 0 := ⟨_, rfl⟩
      rw [← hxe] at hx
      rw [B16_eq] at hx
      obtain ⟨hxl, b, off, h0, hcc⟩ := HS.out.keep GW.out
      obtain rfl := h0 (by omega)
      have hci := hcc i (by omega)
      rw [← hxe] at hci
      have HX := Lib.hid hxe
      clear hxe hxl h0 hcc
      go_wp2_with (at_builtin; refine wpList_app rfl _ _ 31 rfl W.heap.size 3 .i64 8 Tryz.underlying31 (by kernel_rfl) _ i zs rfl GO.out _ ((c + x * 2) % 65536) rfl (by omega) (by omega) (by omega) GW.out.size ?_; intro v' w2 hown' hbel')
      go_roundw
      case rel => exact ⟨(c + x * 2) / 65536, i + 1, zs ++ [(c + x * 2) % 65536], congrArg (Value.int _) (by omega), by go_num, hown', GD.out.append (Dig.cons (Nat.mod_lt _ B16_pos) (Dig.nil _)), by omega, by omega, shl1_step GO.out.len HX.out GV.out, GW.out.trans hbel'⟩
      case measure => simp only [intOf]; omega
    · have t1 : ¬ (i : Int) < (la : Int) := by omega
      have HE : Hid (i = la) := by show _ = _; omega
      go_wp2_with (at_builtin; refine wpList_app rfl _ _ 31 rfl W.heap.size 3 .i64 8 Tryz.underlying31 (by kernel_rfl) _ i zs rfl GO.out _ c rfl rfl (by omega) (by omega) GW.out.size ?_; intro v' w2 hown' hbel')
      obtain ⟨oo, cap, rfl, hlc, hcm, hsl⟩ := hown'.sl
      have HSL := Lib.hid hsl
      have HB2 := Lib.hid (GW.out.trans hbel')
      clear hsl hown' hbel'
      go_wp2_with fail
      refine (trim16_raw _ _ _ (zs ++ [c]) _ HSL.out hlc hcm).mono ?_
      rintro e w3 ⟨⟨ao', k, rfl, hk, ha', ht, hz⟩, hw⟩
      obtain rfl : w2 = w3 := hw
      have HT := Lib.hid ht
      have HZ := Lib.hid hz
      have HAA := Lib.hid ha'
      clear ht hz ha'
      go_wp2
      go_ret
      refine ⟨ao', k, cap, rfl, by omega, hcm, ⟨(zs ++ [c]).take k, trim_sl HSL.out hk HAA.out, (GD.out.append (Dig.cons (by rw [B16_eq]; omega) (Dig.nil _))).take _, HT.out, ?_⟩, HB2.out⟩
      rw [val_take_of_zeros HZ.out, val_snoc, GO.out.len, Nat.mul_comm, GV.out, HE.out, List.take_of_length_le (by rw [HLX.out]; exact Nat.le_refl _), HV.out]
end Go.Proofs.YtcgnmihabkgecaaGreat

/- The specification's shl for every count, shr by one. -/
set_option linter.unusedVariables false
namespace Go.Proofs.YtcgnmihabkgecaaGreat
open Go.RowKit

theorem even_half {a : Nat} (h : a % 2 = 0) : a = 2 * (a / 2) := by omega
theorem bg_left {a b : Nat} (ha : a % 2 = 0) (hb : ¬ b % 2 = 0) : Nat.gcd (a / 2) b = Nat.gcd a b := by
  have hc : Nat.Coprime 2 b := by
    unfold Nat.Coprime
    rw [Nat.gcd_rec]
    have : b % 2 = 1 := by omega
    rw [this]; decide
  conv => rhs; rw [even_half ha]
  exact (Nat.Coprime.gcd_mul_left_cancel _ hc).symm
theorem bg_right {a b : Nat} (hb : b % 2 = 0) (ha : ¬ a % 2 = 0) : Nat.gcd a (b / 2) = Nat.gcd a b := by
  rw [Nat.gcd_comm, bg_left hb ha, Nat.gcd_comm]
theorem bg_both {a b : Nat} (ha : a % 2 = 0) (hb : b % 2 = 0) : 2 * Nat.gcd (a / 2) (b / 2) = Nat.gcd a b := by
  rw [← Nat.gcd_mul_left, ← even_half ha, ← even_half hb]
theorem bg_sub_left {a b : Nat} (h : b ≤ a) : Nat.gcd (a - b) b = Nat.gcd a b := Nat.gcd_sub_self_left h
theorem bg_sub_right {a b : Nat} (h : a ≤ b) : Nat.gcd a (b - a) = Nat.gcd a b := Nat.gcd_sub_self_right h
theorem shl_num {l i V c p x m zs d q B : Nat} (h2 : d + B * q = c + p) (hp : p = x * m) (h : zs + c * B ^ (l + i) = m * B ^ l * V) :
    zs + d * B ^ (l + i) + q * B ^ (l + i + 1) = m * B ^ l * (V + x * B ^ i) := by
  rw [Nat.pow_succ]
  have e : B ^ (l + i) = B ^ l * B ^ i := Nat.pow_add _ _ _
  rw [e] at h ⊢; clear e
  generalize B ^ l = L at *
  generalize B ^ i = I at *
  subst hp
  grind
theorem shr_num {zs i x y V B r : Nat} (hB : B = 2 * 32768) (h : 2 * zs + r = V + B ^ i * (x % 2)) :
    2 * (zs + (x / 2 + y % 2 * 32768) * B ^ i) + r = V + x * B ^ i + B ^ (i + 1) * (y % 2) := by
  rw [Nat.pow_succ]
  have := Nat.div_add_mod x 2
  generalize x / 2 = u at *
  generalize x % 2 = v at *
  generalize y % 2 = k at *
  subst this
  generalize B ^ i = I at *
  subst hB
  grind

theorem Own.fresh {k : IntKind} {w : World} {base e g : Nat} {zs : List Nat} (h : Blk k w g e zs) (hb : base ≤ g) (hl : zs.length ≤ maxLen) : Own k w base e (.slice (some ⟨g, 0, none⟩) zs.length zs.length) zs.length zs :=
  ⟨by simp, Or.inr ⟨g, zs.length, cs k zs, rfl, hb, h, Nat.le_refl _, hl, by simp [cs], by simp [cs]; exact List.take_of_length_le (by simp)⟩⟩

theorem shl16_step {xs zs : List Nat} {l i c p x m : Nat} (hl : zs.length = l + i) (hx : x = xs[i]?.getD 0) (hp : p = x * m) (h : val B16 zs + c * B16 ^ (l + i) = m * B16 ^ l * val B16 (xs.take i)) :
    val B16 (zs ++ [(c + p) % B16]) + (c + p) / B16 * B16 ^ (l + i + 1) = m * B16 ^ l * val B16 (xs.take (i + 1)) := by
  have h2 := Nat.mod_add_div (c + p) B16
  have h3 := shl_num h2 hp h
  rw [val_snoc, hl, val_take_succ, ← hx, Nat.mul_comm (B16 ^ (l + i)), Nat.mul_comm (B16 ^ i)]
  exact h3

theorem shl_pow {k : Nat} : 2 ^ (k % 16) * B16 ^ (k / 16) = 2 ^ k := by
  rw [B16_pow, ← Nat.pow_add, Nat.add_comm, Nat.div_add_mod]

def Shl16Rel (la l m : Nat) (xs : List Nat) (W : World) (ov cv iv : Value) (wr : World) : Prop :=
  ∃ (c i : Nat) (zs : List Nat), cv = .int .i64 (c : Int) ∧ iv = .int .i64 (i : Int) ∧ Own .i64 wr W.heap.size 3 ov (l + i) zs ∧ Dig B16 zs ∧ c < m ∧ i ≤ la ∧ val B16 zs + c * B16 ^ (l + i) = m * B16 ^ l * val B16 (xs.take i) ∧ Below W.heap.size W wr

set_option maxHeartbeats 1000000 in
theorem shl_any (ao : Option Addr) (la ca n k : Nat) (K : Int) (W : World) (h : N16 W ao la n) (hK : K = (k : Int)) (hla : la ≤ 1000000000) (hk : k ≤ 1000000000) :
    Calls Tryz.prog 114 #[.slice ao la ca, .int .i64 K] W (Out16 W (2 ^ k * n)) := by
  subst hK
  obtain ⟨xs, hs, hd, ht, hv⟩ := h
  have HS := Lib.hid hs
  have HD := Lib.hid hd
  have HV := Lib.hid hv
  have HLX := Lib.hid hs.len
  obtain ⟨l, hl⟩ : ∃ l, l = k / 16 := ⟨_, rfl⟩
  obtain ⟨t, htt⟩ : ∃ t, t = k % 16 := ⟨_, rfl⟩
  have hpow := shl_pow (k := k)
  rw [← hl, ← htt] at hpow
  have HPOW := Lib.hid hpow
  have ht16 : t ≤ 16 := by omega
  have ht15 : t ≤ 15 := by omega
  have e1 : (k : Int) / 16 = (l : Int) := by omega
  have e2 : (k : Int) % 16 = (t : Int) := by omega
  have e3 : (k : Int).tmod 16 = (t : Int) := by rw [Int.tmod_eq_emod_of_nonneg (Int.natCast_nonneg _)]; exact e2
  have e4 : (k : Int).tdiv 16 = (l : Int) := by rw [Int.tdiv_eq_ediv_of_nonneg (Int.natCast_nonneg _)]; exact e1
  have hlk : l ≤ 1000000000 := by omega
  clear hs hd ht hv hl htt hpow
  obtain ⟨m, hm⟩ : ∃ m, m = 2 ^ t := ⟨_, rfl⟩
  have hm0 : 0 < m := by rw [hm]; exact Nat.pow_pos (by decide)
  have hm1 : m ≤ 32768 := by
    rw [hm]
    have := Nat.pow_le_pow_right (n := 2) (by decide) ht15
    simpa using this
  have HM := Lib.hid hm
  go_enter Tryz.func114, Tryz.ntmps114
  go_wp2_with (at_make; refine wpList_mk rfl _ 31 rfl 3 .i64 8 Tryz.underlying31 (by kernel_rfl) _ l rfl (by first | exact e1 | exact e4 | omega) (by omega) (by omega) ?_; intro w1 hB1 hb1 hz1)
  refine (power_any _ t _ (by first | rfl | exact e2 | exact e3) ht16).mono ?_
  rintro e w2 ⟨rfl, hw⟩
  obtain rfl : w1 = w2 := hw
  rw [← hm]
  clear hm
  have ho : Own .i64 w1 W.heap.size 3 (.slice (some ⟨W.heap.size, 0, none⟩) l l) l (List.replicate l 0) := by
    have := Own.fresh hB1 (Nat.le_refl W.heap.size) (by simp [maxLen]; omega)
    simpa using this
  have HO := Lib.hid ho
  clear ho
  go_wp2
  go_loopw [5, 6, 8] (fun ov cv iv wr => Shl16Rel la l m xs W ov cv iv wr) (fun ov cv iv _ => la - (intOf iv).toNat)
  case atStart => exact ⟨0, 0, List.replicate l 0, rfl, rfl, HO.out, Dig.replicate B16_pos _, hm0, by omega, by rw [val_replicate]; simp [val], hb1⟩
  case round =>
    obtain ⟨c, i, zs, rfl, rfl, hown, hd, hc, hi, hv, hbel⟩ := hrel
    have GO := Lib.hid hown
    have GD := Lib.hid hd
    have GV := Lib.hid hv
    have GW := Lib.hid hbel
    clear hown hd hv hbel
    by_cases hil : i < la
    · have t1 : (i : Int) < (la : Int) := by omega
      have t0 : (0 : Int) ≤ (i : Int) := by omega
      have hx := HD.out.get B16_pos i
      obtain ⟨x, hxe⟩ : ∃ x, x = xs[i]?.getD 0 := ⟨_, rfl⟩
      rw [← hxe] at hx
      rw [B16_eq] at hx
      obtain ⟨p, hp⟩ : ∃ p, p = x * m := ⟨_, rfl⟩
      have hp2 : (x : Int) * (m : Int) = (p : Int) := by rw [hp, Int.natCast_mul]
      have hpm : c + p < 65536 * m := by
        have : (x + 1) * m ≤ 65536 * m := Nat.mul_le_mul_right _ hx
        rw [Nat.add_mul, Nat.one_mul, ← hp] at this
        omega
      have hcm : (c + p) / 65536 < m := Nat.div_lt_of_lt_mul hpm
      have HP := Lib.hid hp
      clear hp
      obtain ⟨hxl, b, off, h0, hcc⟩ := HS.out.keep GW.out
      obtain rfl := h0 (by omega)
      have hci := hcc i (by omega)
      rw [← hxe] at hci
      have HX := Lib.hid hxe
      have HCM := Lib.hid hcm
      clear hxe hxl h0 hcc hcm
      go_wp2_with (at_builtin; refine wpList_app rfl _ _ 31 rfl W.heap.size 3 .i64 8 Tryz.underlying31 (by kernel_rfl) _ (l + i) zs rfl GO.out _ ((c + p) % 65536) rfl (by omega) (by omega) (by omega) GW.out.size ?_; intro v' w2 hown' hbel')
      go_roundw
      case rel => exact ⟨(c + p) / 65536, i + 1, zs ++ [(c + p) % 65536], congrArg (Value.int _) (by omega), by go_num, hown', GD.out.append (Dig.cons (Nat.mod_lt _ B16_pos) (Dig.nil _)), HCM.out, by omega, shl16_step GO.out.len HX.out HP.out GV.out, GW.out.trans hbel'⟩
      case measure => simp only [intOf]; omega
    · have t1 : ¬ (i : Int) < (la : Int) := by omega
      have HE : Hid (i = la) := by show _ = _; omega
      go_wp2_with (at_builtin; refine wpList_app rfl _ _ 31 rfl W.heap.size 3 .i64 8 Tryz.underlying31 (by kernel_rfl) _ (l + i) zs rfl GO.out _ c rfl rfl (by omega) (by omega) GW.out.size ?_; intro v' w2 hown' hbel')
      obtain ⟨oo, cap, rfl, hlc, hcm, hsl⟩ := hown'.sl
      have HSL := Lib.hid hsl
      have HB2 := Lib.hid (GW.out.trans hbel')
      clear hsl hown' hbel'
      go_wp2_with fail
      refine (trim16_raw _ _ _ (zs ++ [c]) _ HSL.out hlc hcm).mono ?_
      rintro e w3 ⟨⟨ao', j, rfl, hj, ha', ht, hz⟩, hw⟩
      obtain rfl : w2 = w3 := hw
      have HT := Lib.hid ht
      have HZ := Lib.hid hz
      have HAA := Lib.hid ha'
      clear ht hz ha'
      go_wp2
      go_ret
      refine ⟨ao', j, cap, rfl, by omega, hcm, ⟨(zs ++ [c]).take j, trim_sl HSL.out hj HAA.out, (GD.out.append (Dig.cons (by rw [B16_eq]; omega) (Dig.nil _))).take _, HT.out, ?_⟩, HB2.out⟩
      rw [val_take_of_zeros HZ.out, val_snoc, GO.out.len, Nat.mul_comm, GV.out, HE.out, List.take_of_length_le (by rw [HLX.out]; exact Nat.le_refl _), HV.out, HM.out, HPOW.out]
end Go.Proofs.YtcgnmihabkgecaaGreat

/- The specification's shr by one. -/
set_option linter.unusedVariables false
namespace Go.Proofs.YtcgnmihabkgecaaGreat
open Go.RowKit

theorem shr16_step {xs zs : List Nat} {i x y r : Nat} (hl : zs.length = i) (hx : x = xs[i]?.getD 0) (hy : y = xs[i + 1]?.getD 0) (h : 2 * val B16 zs + r = val B16 (xs.take i) + B16 ^ i * (xs[i]?.getD 0 % 2)) :
    2 * val B16 (zs ++ [x / 2 + y % 2 * 32768]) + r = val B16 (xs.take (i + 1)) + B16 ^ (i + 1) * (xs[i + 1]?.getD 0 % 2) := by
  rw [val_snoc, hl, val_take_succ, ← hx, ← hy, Nat.mul_comm (B16 ^ i), Nat.mul_comm (B16 ^ i) x]
  rw [← hx] at h
  exact shr_num (by rw [B16_eq]) h

/-- 'append(s, x)' of one element, s the call's own, at a step of a region that draws its order -/
theorem step_app {P : Program} {w : World} {ops : Array Oper} {o : Oper} {a : Act} {K : Act → World → Prop} {Q : Exit → Act → World → Prop} {E : Prop} (hgd : o.guard = none) (s x : Operand) (t : TypeId)
    (ho : o.op = .call { callee := .builtin .append, args := #[s, x], argTypes := #[t, t] }) (base e : Nat) (k : IntKind) (bytes : Nat)
    (h1 : P.underlying t = some (.slice e)) (h2 : (P.info? e).map (fun i => (i.zero, i.size, i.bytes)) = some (some (.int k 0), 1, bytes))
    (v : Value) (n : Nat) (xs : List Nat) (hs : a.eval s = v) (hown : Own k w base e v n xs) (V : Int) (xx : Nat) (hx : a.eval x = .slice (some ⟨w.heap.size, 0, none⟩) 1 1) (hV : V = (xx : Int))
    (hn : n ≤ 9000000000000) (hby : bytes ≤ 8) (hbase : base ≤ w.heap.size)
    (h : ∀ v' w', Own k w' base e v' (n + 1) (xs ++ [xx]) → Below base w w' → K (a.put o.dst v') w') :
    if Region.wanted o (yielded ops a.tmps) = true then Oper.wp P o a (w.alloc (.cells #[.int k V] e)) K Q else E := by
  subst hV
  obtain ⟨i0, hi, hz0, hz1, hz2⟩ := info_parts h2
  have hown' : (w.alloc (.cells #[.int k (xx : Int)] e)).ownsRow base e 1 v n (xs.map fun z => Value.int k ((z : Nat) : Int)) := World.ownsRow.alloc hown _
  have hb : (n + 1) * bytes ≤ 140737488355328 := by
    have : (n + 1) * bytes ≤ (n + 1) * 8 := Nat.mul_le_mul_left _ hby
    omega
  refine step_append_lies _ hgd s x t ho base e i0 (.int k 0) 1 bytes h1 hi hz0 hz1 hz2 rfl (by decide) v n _ hs hown' ⟨w.heap.size, 0, none⟩ 1 1 [.int k (xx : Int)] hx rfl ?_ ?_ (by omega) (by unfold maxLen; omega) hb (by simp; omega) (w.heap.size + 1) (by simp) ?_
  · intro j u hj
    match j, hj with
    | 0, hj => simp at hj; subst hj; simp [Addr.add]
  · intro u hu; simp at hu; subst hu; rfl
  · intro g cap w' hr hg _ _
    refine h _ w' ?_ ?_
    · unfold Own
      rw [List.map_append]
      exact hr
    · exact ((Below.refl base w).alloc hbase _).grown hg (by simp; omega) hown.ge

def Shr16Rel (la r : Nat) (xs : List Nat) (W : World) (ov iv : Value) (wr : World) : Prop :=
  ∃ (i : Nat) (zs : List Nat), iv = .int .i64 (i : Int) ∧ Own .i64 wr W.heap.size 3 ov i zs ∧ Dig B16 zs ∧ i ≤ la ∧ 2 * val B16 zs + r = val B16 (xs.take i) + B16 ^ i * (xs[i]?.getD 0 % 2) ∧ Below W.heap.size W wr

set_option maxRecDepth 8000 in
set_option maxHeartbeats 400000 in
theorem shr1_any (ao : Option Addr) (la ca n : Nat) (W : World) (h : N16 W ao la n) (hla : la ≤ 1000000000) :
    Calls Tryz.prog 111 #[.slice ao la ca, .int .i64 1] W (Out16 W (n / 2)) := by
  obtain ⟨xs, hs, hd, ht, hv⟩ := h
  have HS := Lib.hid hs
  have HD := Lib.hid hd
  have HV := Lib.hid hv
  have HLX := Lib.hid hs.len
  obtain ⟨r, hr⟩ : ∃ r, r = xs[0]?.getD 0 % 2 := ⟨_, rfl⟩
  have hr2 : r < 2 := by omega
  have HR := Lib.hid hr
  clear hs hd ht hv hr
  go_enter Tryz.func111, Tryz.ntmps111
  go_wp2_with fail
  refine (power_any 1 1 _ rfl (by omega)).mono ?_
  rintro e w2 ⟨rfl, hw⟩
  obtain rfl : W = w2 := hw
  have e2 : ((2 ^ 1 : Nat) : Int) = 2 := rfl
  rw [e2]
  clear e2
  go_wp2
  go_loopw [5, 7] (fun ov iv wr => Shr16Rel la r xs W ov iv wr) (fun ov iv _ => la - (intOf iv).toNat)
  case atStart => exact ⟨0, [], rfl, Own.nil _ _ _ _, Dig.nil _, by omega, by rw [HR.out]; simp [val], Below.refl _ _⟩
  case round =>
    obtain ⟨i, zs, rfl, hown, hd, hi, hv, hbel⟩ := hrel
    have GO := Lib.hid hown
    have GD := Lib.hid hd
    have GV := Lib.hid hv
    have GW := Lib.hid hbel
    clear hown hd hv hbel
    by_cases hil : i < la
    · have t1 : (i : Int) < (la : Int) := by omega
      have t0 : (0 : Int) ≤ (i : Int) := by omega
      have hx := HD.out.get B16_pos i
      have hy := HD.out.get B16_pos (i + 1)
      obtain ⟨x, hxe⟩ : ∃ x, x = xs[i]?.getD 0 := ⟨_, rfl⟩
      obtain ⟨y, hye⟩ : ∃ y, y = xs[i + 1]?.getD 0 := ⟨_, rfl⟩
      rw [← hxe] at hx
      rw [← hye] at hy
      rw [B16_eq] at hx hy
      have HSr := Lib.hid (HS.out.keep GW.out)
      obtain ⟨hxl, b, off, h0, hcc⟩ := HS.out.keep GW.out
      obtain rfl := h0 (by omega)
      have hci := hcc i (by omega)
      rw [← hxe] at hci
      have HX := Lib.hid hxe
      have HY := Lib.hid hye
      have hdg : x / 2 + y % 2 * 32768 < 65536 := by omega
      clear hxe hye hxl h0 hcc
      have hcW : W.cell? ⟨b, off + i, none⟩ = some (.int .i64 (x : Int)) := by
        obtain ⟨_, b', off', h0', hcc'⟩ := HS.out
        cases h0' (by omega)
        have := hcc' i (by omega)
        rw [← HX.out] at this
        exact this
      have hV : IntKind.i64.wrap (IntKind.i64.wrap ((x : Int) / 2) + IntKind.i64.wrap ((y : Int).tmod 2 * IntKind.i64.wrap 32768)) = ((x / 2 + y % 2 * 32768 : Nat) : Int) := by
        have v1 : (y : Int).tmod 2 = ((y % 2 : Nat) : Int) := (Int.ofNat_tmod _ _).symm
        have v2 : IntKind.i64.wrap 32768 = 32768 := IntWalk.i64_in _ (by omega)
        have v3 : IntKind.i64.wrap ((x : Int) / 2) = (x : Int) / 2 := IntWalk.i64_in _ (by omega)
        have v4 : IntKind.i64.wrap (((y % 2 : Nat) : Int) * 32768) = ((y % 2 : Nat) : Int) * 32768 := IntWalk.i64_in _ (by omega)
        rw [v1, v2, v3, v4, IntWalk.i64_in _ (by omega)]
        omega
      have hw1 : IntKind.i64.wrap ((i : Int) + 1) = ((i + 1 : Nat) : Int) := (IntWalk.i64_in _ (by omega)).trans (by omega)
      go_upto_region 6 with fail
      go_region_held_law (fun w' => w'.cell? ⟨b, off + i, none⟩ = some (.int .i64 (x : Int))) (first | (exact cell_later (GW.out.drew.trans hbel') hcW) | go_keep | assumption)
        (first | ((try go_simp); go_at_call 109; refine (at_any _ _ _ xs _ (i + 1) wr.drew (HSr.out.keep (Below.refl _ _).drew) (by first | exact hw1 | rfl)).mono ?_; rw [← HY.out]; rintro e w5 ⟨he, hw⟩; subst he; subst hw) | (refine step_app (by rfl) _ _ 31 (by rfl) W.heap.size 3 .i64 8 Tryz.underlying31 (by kernel_rfl) _ i zs (by rfl) (GO.out.later (Below.refl _ _).drew) _ (x / 2 + y % 2 * 32768) (by rfl) (by first | exact hV | omega) (by omega) (by omega) (show W.heap.size ≤ wr.drew.heap.size from GW.out.size) ?_; intro v' w2 hown' hbel'))
      go_wp2
      go_roundw
      case rel => exact ⟨i + 1, zs ++ [x / 2 + y % 2 * 32768], by go_num, hown', GD.out.append (Dig.cons (by rw [B16_eq]; exact hdg) (Dig.nil _)), by omega, shr16_step GO.out.len HX.out HY.out GV.out, GW.out.drew.trans hbel'⟩
      case measure => simp only [intOf]; omega
    · have t1 : ¬ (i : Int) < (la : Int) := by omega
      have HE : Hid (i = la) := by show _ = _; omega
      obtain ⟨oo, cap, rfl, hlc, hcm, hsl⟩ := GO.out.sl
      have HSL := Lib.hid hsl
      clear hsl
      go_wp2_with fail
      refine (trim16_raw _ _ _ zs _ HSL.out hlc hcm).mono ?_
      rintro e w3 ⟨⟨ao', j, rfl, hj, ha', ht, hz⟩, hw⟩
      obtain rfl : wr = w3 := hw
      have HT := Lib.hid ht
      have HZ := Lib.hid hz
      have HAA := Lib.hid ha'
      clear ht hz ha'
      go_wp2
      go_ret
      refine ⟨ao', j, cap, rfl, by omega, hcm, ⟨zs.take j, trim_sl HSL.out hj HAA.out, GD.out.take _, HT.out, ?_⟩, GW.out⟩
      have hfin := GV.out
      rw [HE.out, List.take_of_length_le (by rw [HLX.out]; exact Nat.le_refl _), HV.out, List.getElem?_eq_none (by rw [HLX.out]; exact Nat.le_refl _)] at hfin
      rw [val_take_of_zeros HZ.out]
      simp at hfin
      omega
end Go.Proofs.YtcgnmihabkgecaaGreat

/- The specification's divMod. -/
set_option linter.unusedVariables false
namespace Go.Proofs.YtcgnmihabkgecaaGreat
open Go.RowKit

/-- Out16, in new memory -/
def Out16N (w : World) (n : Nat) (e : Ending) (w' : World) : Prop := ∃ ao len cap, e = .returned (.slice ao len cap) ∧ len ≤ cap ∧ cap ≤ 9223372036854775807 ∧ N16 w' ao len n ∧ Below w.heap.size w w' ∧ (0 < len → ∃ g, ao = some ⟨g, 0, none⟩ ∧ w.heap.size ≤ g)

theorem Own.loc {k : IntKind} {w : World} {base e n : Nat} {v : Value} {xs : List Nat} (h : Own k w base e v n xs) : ∀ ao cap, v = .slice ao n cap → 0 < n → ∃ g, ao = some ⟨g, 0, none⟩ ∧ base ≤ g := by
  intro ao cap hv hn
  rcases h.cases with ⟨_, h0, _⟩ | ⟨g, cap', h1, h2, _⟩
  · omega
  · rw [hv] at h1
    cases h1
    exact ⟨g, rfl, h2⟩

theorem N16.setOther {w : World} {ao : Option Addr} {len n q i : Nat} {u : Value} (h : N16 w ao len n) (hl : 0 < len → ∃ g, ao = some ⟨g, 0, none⟩ ∧ g ≠ q) : N16 (w.setCell ⟨q, i, none⟩ u) ao len n := by
  obtain ⟨xs, ⟨hx, b, off, h0, hc⟩, h2⟩ := h
  refine ⟨xs, ⟨hx, b, off, h0, fun j hj => ?_⟩, h2⟩
  obtain ⟨g, hg, hne⟩ := hl (by omega)
  have h1 := h0 (by omega)
  rw [hg] at h1
  cases h1
  rw [← hc j hj]
  exact World.cell?_of_block (a := ⟨_, 0 + j, none⟩) (Below.heap_setCell _ _ _ _ hne)

set_option maxHeartbeats 1000000 in
theorem sub16_new (ao bo : Option Addr) (la lb ca cb : Nat) (m n : Nat) (W : World) (ha : N16 W ao la m) (hb : N16 W bo lb n) (hla : la ≤ 1000000000) (hnm : n ≤ m) :
    Calls Tryz.prog 113 #[.slice ao la ca, .slice bo lb cb] W (Out16N W (m - n)) := by
  obtain ⟨xa, ha, hda, hta, hva⟩ := ha
  obtain ⟨xb, hb, hdb, htb, hvb⟩ := hb
  have HA := Lib.hid ha
  have HB := Lib.hid hb
  have HDA := Lib.hid hda
  have HDB := Lib.hid hdb
  have HTB := Lib.hid htb
  have HVA := Lib.hid hva
  have HVB := Lib.hid hvb
  have HNM := Lib.hid hnm
  clear ha hb hda hdb hta htb hva hvb hnm
  go_enter Tryz.func113, Tryz.ntmps113
  go_wp2
  go_loopw [5, 6, 7] (fun ov cv iv wr => Sub16Rel la xa xb W ov cv iv wr) (fun ov cv iv _ => la - (intOf iv).toNat)
  case atStart => exact ⟨0, 0, [], rfl, rfl, Own.nil _ _ _ _, Dig.nil _, by omega, by omega, by simp [val], Below.refl _ _⟩
  case round =>
    obtain ⟨c, i, zs, rfl, rfl, hown, hd, hc, hi, hv, hbel⟩ := hrel
    have GO := Lib.hid hown
    have GD := Lib.hid hd
    have GV := Lib.hid hv
    have GW := Lib.hid hbel
    clear hown hd hv hbel
    by_cases hil : i = la
    · subst hil
      have hloc := GO.out.loc
      obtain ⟨oo, cap, rfl, hlc, hcm, hsl⟩ := GO.out.sl
      have HS := Lib.hid hsl
      have HLOC := Lib.hid (hloc oo cap rfl)
      clear hsl hloc
      go_wp2_with fail
      refine (trim16_raw _ _ _ zs _ HS.out hlc hcm).mono ?_
      rintro e w1 ⟨⟨ao', k, rfl, hk, ha', ht, hz⟩, rfl⟩
      have HT := Lib.hid ht
      have HZ := Lib.hid hz
      have HAA := Lib.hid ha'
      clear ht hz ha'
      go_wp2
      go_ret
      exact ⟨ao', k, cap, rfl, by omega, hcm, ⟨zs.take k, trim_sl HS.out hk HAA.out, GD.out.take _, HT.out, by rw [val_take_of_zeros HZ.out]; exact sub16_end HA.out.len GO.out.len GD.out HDB.out HTB.out HDA.out HVA.out HVB.out HNM.out GV.out⟩, GW.out, fun hk0 => by
        obtain ⟨g', hg1, hg2⟩ := HLOC.out (by omega)
        exact ⟨g', (HAA.out hk0).trans hg1, hg2⟩⟩
    · have t1 : (i : Int) < (la : Int) := by omega
      have t0 : (0 : Int) ≤ (i : Int) := by omega
      have hx := HDA.out.get B16_pos i
      have hy := HDB.out.get B16_pos i
      obtain ⟨x, hxe⟩ : ∃ x, x = xa[i]?.getD 0 := ⟨_, rfl⟩
      obtain ⟨y, hye⟩ : ∃ x, x = xb[i]?.getD 0 := ⟨_, rfl⟩
      rw [← hxe] at hx
      rw [← hye] at hy
      rw [B16_eq] at hx hy
      obtain ⟨hxl, b, off, h0, hcc⟩ := HA.out.keep GW.out
      obtain rfl := h0 (by omega)
      have hci := hcc i (by omega)
      rw [← hxe] at hci
      have HX := Lib.hid hxe
      have HY := Lib.hid hye
      have HBr := Lib.hid (HB.out.keep GW.out)
      clear hxe hye hxl h0 hcc
      by_cases hlt : x < y + c
      · have t2 : (x : Int) - (y : Int) - (c : Int) < 0 := by omega
        go_wp2_with fail
        go_quiet ((go_at_call 109; exact at_quiet _ _ _ xb _ i y _ _ HBr.out rfl HY.out))
        go_wp2_with (at_builtin; refine wpList_app rfl _ _ 31 rfl W.heap.size 3 .i64 8 Tryz.underlying31 (by kernel_rfl) _ i zs rfl GO.out _ (x + 65536 - y - c) rfl (by omega) (by omega) (by omega) GW.out.size ?_; intro v' w2 hown' hbel')
        go_roundw
        case rel => exact sub16_rel 1 GO.out.len GD.out (by omega) HX.out HY.out (by rw [B16_eq]; omega) (by omega) (by rw [B16_eq]; omega) GV.out GW.out hown' ((below_drewN1 (Below.refl _ _) _).trans hbel') _ _ rfl rfl
        case measure => simp only [intOf]; omega
      · have t2 : ¬ (x : Int) - (y : Int) - (c : Int) < 0 := by omega
        go_wp2_with fail
        go_quiet ((go_at_call 109; exact at_quiet _ _ _ xb _ i y _ _ HBr.out rfl HY.out))
        go_wp2_with (at_builtin; refine wpList_app rfl _ _ 31 rfl W.heap.size 3 .i64 8 Tryz.underlying31 (by kernel_rfl) _ i zs rfl GO.out _ (x - y - c) rfl (by omega) (by omega) (by omega) GW.out.size ?_; intro v' w2 hown' hbel')
        go_roundw
        case rel => exact sub16_rel 0 GO.out.len GD.out (by omega) HX.out HY.out (by rw [B16_eq]; omega) (by omega) (by rw [B16_eq]; omega) GV.out GW.out hown' ((below_drewN1 (Below.refl _ _) _).trans hbel') _ _ rfl rfl
        case measure => simp only [intOf]; omega

theorem dm_bit {A i : Nat} : A / 2 ^ i = 2 * (A / 2 ^ (i + 1)) + A / 2 ^ i % 2 := by
  rw [Nat.pow_succ, ← Nat.div_div_eq_div_mul]
  omega

theorem dm_digit {qs : List Nat} (hd : Dig B16 qs) (i Q : Nat) (h : val B16 qs = 2 ^ (i + 1) * Q) (hj : i / 16 < qs.length) : qs[i / 16]?.getD 0 + 2 ^ (i % 16) < 65536 := by
  have hx := hd.get B16_pos (i / 16)
  have e : i = 16 * (i / 16) + i % 16 := (Nat.div_add_mod i 16).symm
  have hlt : i % 16 < 16 := Nat.mod_lt _ (by decide)
  have h1 : val B16 qs / B16 ^ (i / 16) = qs[i / 16]?.getD 0 + B16 * val B16 (qs.drop (i / 16 + 1)) := by
    rw [val_split B16 qs (i / 16) (by omega), Nat.add_mul_div_left _ _ (Nat.pow_pos B16_pos), Nat.div_eq_of_lt, Nat.zero_add, drop_eq_cons qs _ hj, val_cons]
    have := val_lt B16_pos (hd.take (i / 16))
    rwa [List.length_take, Nat.min_eq_left (by omega)] at this
  have h2 : val B16 qs / B16 ^ (i / 16) = 2 ^ (i % 16 + 1) * Q := by
    rw [h, B16_pow]
    conv => lhs; rw [show i + 1 = 16 * (i / 16) + (i % 16 + 1) by omega]
    rw [Nat.pow_add, Nat.mul_assoc, Nat.mul_div_cancel_left _ (Nat.pow_pos (by decide))]
  rw [h1] at h2
  generalize i % 16 = t at *
  generalize qs[i / 16]?.getD 0 = x at *
  have h3 : B16 = 2 ^ (t + 1) * 2 ^ (15 - t) := by rw [← Nat.pow_add, show t + 1 + (15 - t) = 16 by omega]; rfl
  -- x is a multiple of 2^(t+1)
  have h4 : x % 2 ^ (t + 1) = 0 := by
    have : (x + 2 ^ (t + 1) * (2 ^ (15 - t) * val B16 (qs.drop (i / 16 + 1)))) % 2 ^ (t + 1) = 0 := by
      rw [← Nat.mul_assoc, ← h3, h2]; exact Nat.mul_mod_right _ _
    rwa [Nat.add_mul_mod_self_left] at this
  obtain ⟨y, hy⟩ := Nat.dvd_of_mod_eq_zero h4
  have h5 : 2 ^ (t + 1) * y < 2 ^ (t + 1) * 2 ^ (15 - t) := by rw [← h3, ← hy]; exact hx
  have h6 := Nat.lt_of_mul_lt_mul_left h5
  have h7 : 2 ^ (t + 1) * (y + 1) ≤ 2 ^ (t + 1) * 2 ^ (15 - t) := Nat.mul_le_mul_left _ h6
  rw [← h3, B16_eq, Nat.mul_add, Nat.mul_one, ← hy] at h7
  have h8 : 0 < 2 ^ t := Nat.pow_pos (by decide)
  rw [Nat.pow_succ] at h7
  omega

theorem dm_set {qs : List Nat} (i : Nat) (hj : i / 16 < qs.length) : val B16 (qs.set (i / 16) (qs[i / 16]?.getD 0 + 2 ^ (i % 16))) = val B16 qs + 2 ^ i := by
  have h := val_set B16 qs (i / 16) (qs[i / 16]?.getD 0 + 2 ^ (i % 16)) hj
  have e : 2 ^ i = B16 ^ (i / 16) * 2 ^ (i % 16) := by rw [B16_pow, ← Nat.pow_add, Nat.div_add_mod]
  rw [Nat.mul_add] at h
  omega

theorem dm_less {A D Q R b i : Nat} (h : A / 2 ^ i = 2 * (A / 2 ^ (i + 1)) + A / 2 ^ i % 2) (hg : A / 2 ^ (i + 1) = D * Q + R) (hb : b = A / 2 ^ i % 2) : A / 2 ^ i = D * (2 * Q) + (2 * R + b) := by
  rw [hg, ← hb] at h
  rw [h, Nat.mul_left_comm D 2 Q]
  omega

theorem dm_more {A D Q R b i : Nat} (h : A / 2 ^ i = 2 * (A / 2 ^ (i + 1)) + A / 2 ^ i % 2) (hg : A / 2 ^ (i + 1) = D * Q + R) (hb : b = A / 2 ^ i % 2) (hl : ¬ 2 * R + b < D) : A / 2 ^ i = D * (2 * Q + 1) + (2 * R + b - D) := by
  rw [dm_less h hg hb, Nat.mul_add]
  omega

def DmRel (la lb A D : Nat) (W : World) (rv iv : Value) (wr : World) : Prop :=
  ∃ (k R Q : Nat) (qs : List Nat) (ro : Option Addr) (rl rc : Nat), iv = .int .i64 ((k : Int) - 1) ∧ rv = .slice ro rl rc ∧ N16 wr ro rl R ∧ R < D ∧ A / 2 ^ k = D * Q + R ∧ Blk .i64 wr W.heap.size 3 qs ∧ qs.length = la ∧ Dig B16 qs ∧ val B16 qs = 2 ^ k * Q ∧ k ≤ 16 * la ∧ rl ≤ rc ∧ rc ≤ 9223372036854775807 ∧ Below W.heap.size W wr

def DmPost (A D : Nat) (W : World) (e : Ending) (w' : World) : Prop :=
  ∃ qo ql qc ro rl rc, e = .returned (.tuple #[.slice qo ql qc, .slice ro rl rc]) ∧ ql ≤ qc ∧ qc ≤ 9223372036854775807 ∧ rl ≤ rc ∧ rc ≤ 9223372036854775807 ∧ N16 w' qo ql (A / D) ∧ N16 w' ro rl (A % D) ∧ Below W.heap.size W w'

set_option maxRecDepth 8000 in
set_option maxHeartbeats 2000000 in
theorem divMod_any (ao bo : Option Addr) (la lb ca cb A D : Nat) (W : World) (ha : N16 W ao la A) (hb : N16 W bo lb D) (hD : 0 < D) (hla : la ≤ 100000000) (hlb : lb ≤ 100000000) :
    Calls Tryz.prog 96 #[.slice ao la ca, .slice bo lb cb] W (DmPost A D W) := by
  have HA := Lib.hid ha
  have HB := Lib.hid hb
  have HDL := Lib.hid hb.lt
  have hk : blen A ≤ 16 * la := by
    have h := ha.lt
    rw [B16_pow] at h
    exact blen_le.2 h
  have HBL := Lib.hid (blen_lt A)
  clear ha hb
  go_enter Tryz.func96, Tryz.ntmps96
  go_wp2_with (at_make; refine wpList_mk rfl _ 31 rfl 3 .i64 8 Tryz.underlying31 (by kernel_rfl) _ la rfl rfl (by omega) (by omega) ?_; intro w1 hB1 hb1 hz1)
  refine (bitLen16_raw _ _ _ _ _ (HA.out.keep hb1) (by omega)).mono ?_
  rintro e w2 ⟨rfl, hw⟩
  obtain rfl : w1 = w2 := hw
  obtain ⟨k0, hk0⟩ : ∃ k, k = blen A := ⟨_, rfl⟩
  rw [← hk0] at hk ⊢
  have HK0 := Lib.hid hk0
  clear hk0
  go_wp2
  go_loopw [7, 8] (fun rv iv wr => DmRel la lb A D W rv iv wr) (fun rv iv _ => (intOf iv + 1).toNat)
  case atStart =>
    refine ⟨k0, 0, 0, _, none, 0, 0, rfl, rfl, N16.nil _ _, hD, ?_, hB1, by simp, Dig.replicate B16_pos _, by rw [val_replicate]; simp, hk, by omega, by omega, hb1⟩
    rw [HK0.out, Nat.div_eq_of_lt HBL.out]; simp
  case round =>
    obtain ⟨k, R, Q, qs, ro, rl, rc, rfl, rfl, hr, hR, hdiv, hq, hql, hqd, hqv, hk2, hlc, hcm, hbel⟩ := hrel
    have GR := Lib.hid hr
    have GD := Lib.hid hdiv
    have GQ := Lib.hid hq
    have GL := Lib.hid hql
    have GQD := Lib.hid hqd
    have GV := Lib.hid hqv
    have GW := Lib.hid hbel
    have GRD := Lib.hid hR
    have hrl : rl ≤ lb := hr.len_le (Nat.lt_trans hR HDL.out)
    clear hr hdiv hq hql hqd hqv hbel hR
    by_cases hk00 : k = 0
    · subst hk00
      have HSQ := Lib.hid (GQ.out.whole GL.out)
      go_wp2_with fail
      refine (trim16_raw _ _ _ _ _ HSQ.out (by omega) (by omega)).mono ?_
      rintro e w3 ⟨⟨ao', m, rfl, hm, ha', ht, hzz⟩, hw⟩
      obtain rfl : wr = w3 := hw
      have HT := Lib.hid ht
      have HZ := Lib.hid hzz
      have HAA := Lib.hid ha'
      clear ht hzz ha'
      go_wp2
      go_ret2
      have hd := GD.out
      have hv := GV.out
      simp only [Nat.pow_zero, Nat.div_one, Nat.one_mul] at hd hv
      have e1 : A / D = Q := by rw [hd, Nat.mul_add_div hD, Nat.div_eq_of_lt GRD.out, Nat.add_zero]
      have e2 : A % D = R := by rw [hd, Nat.mul_add_mod, Nat.mod_eq_of_lt GRD.out]
      refine ⟨ao', m, la, ro, rl, rc, rfl, hm, by omega, hlc, hcm, ⟨qs.take m, trim_sl HSQ.out hm HAA.out, GQD.out.take _, HT.out, by rw [val_take_of_zeros HZ.out, hv, e1]⟩, by rw [e2]; exact GR.out, GW.out⟩
    · obtain ⟨i, rfl⟩ : ∃ i, k = i + 1 := ⟨k - 1, by omega⟩
      have e1 : (((i + 1 : Nat) : Int) - 1) = (i : Int) := by omega
      rw [e1]
      clear e1 hk00
      have b0 : (0 : Int) ≤ (i : Int) := by omega
      go_wp2_with fail
      refine (shl1_any _ _ _ R wr GR.out (by omega)).mono ?_
      rintro e w3 ⟨so, sl, sc, rfl, hslc, hscm, hs, hb3⟩
      have HS := Lib.hid hs
      have HB3 := Lib.hid hb3
      have hsl : sl ≤ lb + 1 := by
        refine hs.len_le ?_
        have h1 := HDL.out
        have h2 := GRD.out
        rw [Nat.pow_succ, B16_eq]
        rw [B16_eq] at h1
        generalize 65536 ^ lb = p at *
        omega
      clear hs hb3
      go_wp2_with fail
      refine (bit_any _ _ _ A i _ _ ((HA.out.keep GW.out).keep HB3.out) rfl (by omega) (by omega)).mono ?_
      rintro e w4 ⟨rfl, mm, hw4⟩
      obtain ⟨b, hbe⟩ : ∃ b, b = A / 2 ^ i % 2 := ⟨_, rfl⟩
      have hb2 : b < 2 := by rw [hbe]; exact Nat.mod_lt _ (by decide)
      rw [← hbe]
      have HBE := Lib.hid hbe
      have HS4 : Hid (N16 w4 so sl (2 * R)) := by rw [hw4]; exact HS.out.keep (below_drewN1 (Below.refl _ _) mm)
      have HB4 : Hid (Below wr.heap.size wr w4) := by rw [hw4]; exact below_drewN1 HB3.out mm
      clear hw4 hbe
      have hbb : b = 0 ∨ b = 1 := by omega
      rcases hbb with hbv | hbv
      · have tb : ¬ (b : Int) = 1 := by omega
        have HS5 : Hid (N16 w4 so sl (2 * R + b)) := by rw [hbv]; exact HS4.out
        have HQ5 := Lib.hid (GQ.out.below HB4.out GQ.out.lt)
        have HW5 := Lib.hid (GW.out.trans (HB4.out.mono GW.out.size))
        go_wp2_with fail
        refine (cmp16_any _ _ _ _ _ _ (2 * R + b) D _ HS5.out (HB.out.keep HW5.out) (by omega) (by omega)).mono ?_
        rintro e w7 ⟨rfl, hd7⟩
        have HQ7 : Hid (Blk .i64 w7 W.heap.size 3 qs) := HQ5.out.of_block (by obtain ⟨_, rfl⟩ := hd7; rfl)
        have HW7 := Lib.hid (HW5.out.trans hd7.below)
        have HS7 := Lib.hid (HS5.out.keep hd7.below)
        clear hd7
        have HDB := Lib.hid (dm_bit (A := A) (i := i))
        by_cases hlt : 2 * R + b < D
        · rw [cmpN_lt hlt]
          go_wp2
          refine ⟨⟨i, 2 * R + b, 2 * Q, qs, so, sl, sc, rfl, rfl, HS7.out, hlt, dm_less HDB.out GD.out HBE.out, HQ7.out, GL.out, GQD.out, by rw [GV.out, Nat.pow_succ, Nat.mul_assoc], by omega, by omega, by omega, HW7.out⟩, by simp only [intOf]; omega⟩
        · obtain ⟨cc, hcc⟩ : ∃ c, c = cmpN (2 * R + b) D := ⟨_, rfl⟩
          have hc0 : 0 ≤ cc := by
            rw [hcc]; unfold cmpN; rw [if_neg hlt]; split <;> decide
          rw [← hcc]
          clear hcc
          go_wp2_with fail
          refine (sub16_new _ _ _ _ _ _ (2 * R + b) D _ HS7.out (HB.out.keep HW7.out) (by omega) (by omega)).mono ?_
          rintro e w8 ⟨xo, xl, xc, rfl, hxlc, hxcm, hx, hb8, hloc⟩
          have HX := Lib.hid hx
          have HLOC := Lib.hid hloc
          have HW8 := Lib.hid (HW7.out.trans (hb8.mono HW7.out.size))
          have HQ8 := Lib.hid (HQ7.out.below hb8 HQ7.out.lt)
          have HNE : Hid (0 < xl → ∃ g, xo = some ⟨g, 0, none⟩ ∧ g ≠ W.heap.size) := fun h => by
            obtain ⟨g, h1, h2⟩ := hloc h
            have h3 := HQ7.out.lt
            exact ⟨g, h1, by omega⟩
          clear hx hloc hb8
          obtain ⟨j, hj⟩ : ∃ j, j = i / 16 := ⟨_, rfl⟩
          obtain ⟨t, htt⟩ : ∃ t, t = i % 16 := ⟨_, rfl⟩
          have hjla : j < la := by omega
          have ht16 : t ≤ 16 := by omega
          have hxp := dm_digit GQD.out i Q GV.out (by rw [GL.out, ← hj]; exact hjla)
          have HSET := Lib.hid (dm_set i (by rw [GL.out, ← hj]; exact hjla) (qs := qs))
          rw [← hj, ← htt] at hxp HSET
          have c1 := HQ8.out.cell j (by rw [GL.out]; exact hjla)
          have fz1 := HQ8.out.frozen j
          obtain ⟨x, hxe⟩ : ∃ x, x = qs[j]?.getD 0 := ⟨_, rfl⟩
          obtain ⟨p, hp⟩ : ∃ p, p = 2 ^ t := ⟨_, rfl⟩
          rw [← hxe, ← hp] at hxp HSET
          rw [← hxe] at c1
          have HP := Lib.hid hp
          have e1 : (i : Int) / 16 = (j : Int) := by omega
          have e2 : (i : Int) % 16 = (t : Int) := by omega
          have e3 : (i : Int).tmod 16 = (t : Int) := by rw [Int.tmod_eq_emod_of_nonneg (Int.natCast_nonneg _)]; exact e2
          have e4 : (i : Int).tdiv 16 = (j : Int) := by rw [Int.tdiv_eq_ediv_of_nonneg (Int.natCast_nonneg _)]; exact e1
          have b2 : (j : Int) < (la : Int) := by omega
          have b3 : (0 : Int) ≤ (j : Int) := by omega
          clear hxe hp hj htt
          have q1 : IntKind.i64.wrap (j : Int) = (j : Int) := IntWalk.i64_in _ (by omega)
          have q2 : IntKind.i64.wrap (t : Int) = (t : Int) := IntWalk.i64_in _ (by omega)
          have q3 : IntKind.i64.wrap ((x : Int) + (p : Int)) = (x : Int) + (p : Int) := IntWalk.i64_in _ (by omega)
          go_upto_region 11 with fail
          go_still_tail 10, (by kernel_rfl)
          still_call (show Calls _ _ _ _ (fun e w'' => e = .returned (.int .i64 (p : Int)) ∧ w'' = _) from (power_any _ t _ (by first | rfl | exact e2 | exact e3) ht16).mono fun e w h => ⟨by rw [h.1, ← HP.out], h.2.symm⟩)
          repeat still_step
          refine wpStill_nil ?_
          have HQ9 : Hid (Blk .i64 w8.drew W.heap.size 3 qs) := HQ8.out
          have HX9 : Hid (N16 w8.drew xo xl (2 * R + b - D)) := HX.out.keep (Below.refl _ _).drew
          have HW9 : Hid (Below W.heap.size W w8.drew) := below_drewN1 HW8.out 1
          have c9 : w8.drew.cell? ⟨W.heap.size, j, none⟩ = some (.int .i64 (x : Int)) := c1
          have fz9 : w8.drew.frozen? ⟨W.heap.size, j, none⟩ = false := fz1
          change wpList _ _ _ _ _ w8.drew
          generalize w8.drew = w9 at HQ9 HX9 HW9 c9 fz9 ⊢
          clear c1 fz1
          go_wp2_with fail
          refine ⟨⟨i, 2 * R + b - D, 2 * Q + 1, qs.set j (x + p), xo, xl, xc, rfl, rfl, HX9.out.setOther HNE.out, by have := GRD.out; omega, dm_more HDB.out GD.out HBE.out hlt, HQ9.out.set _ _ _ (Int.natCast_add _ _).symm, by rw [List.length_set]; exact GL.out, GQD.out.set _ (by rw [B16_eq]; exact hxp), ?_, by omega, hxlc, hxcm, HW9.out.setCell (Nat.le_refl _) _⟩, by simp only [intOf]; omega⟩
          rw [HSET.out, GV.out, Nat.pow_succ]
          generalize 2 ^ i = u
          grind
      · have tb : (b : Int) = 1 := by omega
        go_wp2_with fail
        refine (of_any 1 1 _ rfl (by omega)).mono ?_
        rintro e w5 ⟨no, nl, nc, rfl, hnlc, hncm, hn1, hb5⟩
        have hnl : nl ≤ 1 := hn1.len_le (by rw [B16_eq]; decide)
        have HN1 := Lib.hid hn1
        have HB5 := Lib.hid hb5
        clear hn1 hb5
        go_wp2_with fail
        refine (add_any _ _ _ _ _ _ (2 * R) 1 _ (HS4.out.keep HB5.out) HN1.out (by omega) (by omega)).mono ?_
        rintro e w6 ⟨tto, tl, tc, rfl, htlc, htcm, ht, hb6⟩
        have htl : tl ≤ lb + 1 := by
          refine ht.len_le ?_
          have h1 := HDL.out
          have h2 := GRD.out
          rw [Nat.pow_succ, B16_eq]
          rw [B16_eq] at h1
          generalize 65536 ^ lb = p at *
          omega
        have HS6 : Hid (N16 w6 tto tl (2 * R + b)) := by rw [hbv]; exact ht
        have HB6 := Lib.hid ((HB4.out.trans (HB5.out.mono HB4.out.size)).trans (hb6.mono (Nat.le_trans HB4.out.size HB5.out.size)))
        clear ht hb6
        have HQ5 := Lib.hid (GQ.out.below HB6.out GQ.out.lt)
        have HW5 := Lib.hid (GW.out.trans (HB6.out.mono GW.out.size))
        go_wp2_with fail
        refine (cmp16_any _ _ _ _ _ _ (2 * R + b) D _ HS6.out (HB.out.keep HW5.out) (by omega) (by omega)).mono ?_
        rintro e w7 ⟨rfl, hd7⟩
        have HQ7 : Hid (Blk .i64 w7 W.heap.size 3 qs) := HQ5.out.of_block (by obtain ⟨_, rfl⟩ := hd7; rfl)
        have HW7 := Lib.hid (HW5.out.trans hd7.below)
        have HS7 := Lib.hid (HS6.out.keep hd7.below)
        clear hd7
        have HDB := Lib.hid (dm_bit (A := A) (i := i))
        by_cases hlt : 2 * R + b < D
        · rw [cmpN_lt hlt]
          go_wp2
          refine ⟨⟨i, 2 * R + b, 2 * Q, qs, tto, tl, tc, rfl, rfl, HS7.out, hlt, dm_less HDB.out GD.out HBE.out, HQ7.out, GL.out, GQD.out, by rw [GV.out, Nat.pow_succ, Nat.mul_assoc], by omega, by omega, by omega, HW7.out⟩, by simp only [intOf]; omega⟩
        · obtain ⟨cc, hcc⟩ : ∃ c, c = cmpN (2 * R + b) D := ⟨_, rfl⟩
          have hc0 : 0 ≤ cc := by
            rw [hcc]; unfold cmpN; rw [if_neg hlt]; split <;> decide
          rw [← hcc]
          clear hcc
          go_wp2_with fail
          refine (sub16_new _ _ _ _ _ _ (2 * R + b) D _ HS7.out (HB.out.keep HW7.out) (by omega) (by omega)).mono ?_
          rintro e w8 ⟨xo, xl, xc, rfl, hxlc, hxcm, hx, hb8, hloc⟩
          have HX := Lib.hid hx
          have HLOC := Lib.hid hloc
          have HW8 := Lib.hid (HW7.out.trans (hb8.mono HW7.out.size))
          have HQ8 := Lib.hid (HQ7.out.below hb8 HQ7.out.lt)
          have HNE : Hid (0 < xl → ∃ g, xo = some ⟨g, 0, none⟩ ∧ g ≠ W.heap.size) := fun h => by
            obtain ⟨g, h1, h2⟩ := hloc h
            have h3 := HQ7.out.lt
            exact ⟨g, h1, by omega⟩
          clear hx hloc hb8
          obtain ⟨j, hj⟩ : ∃ j, j = i / 16 := ⟨_, rfl⟩
          obtain ⟨t, htt⟩ : ∃ t, t = i % 16 := ⟨_, rfl⟩
          have hjla : j < la := by omega
          have ht16 : t ≤ 16 := by omega
          have hxp := dm_digit GQD.out i Q GV.out (by rw [GL.out, ← hj]; exact hjla)
          have HSET := Lib.hid (dm_set i (by rw [GL.out, ← hj]; exact hjla) (qs := qs))
          rw [← hj, ← htt] at hxp HSET
          have c1 := HQ8.out.cell j (by rw [GL.out]; exact hjla)
          have fz1 := HQ8.out.frozen j
          obtain ⟨x, hxe⟩ : ∃ x, x = qs[j]?.getD 0 := ⟨_, rfl⟩
          obtain ⟨p, hp⟩ : ∃ p, p = 2 ^ t := ⟨_, rfl⟩
          rw [← hxe, ← hp] at hxp HSET
          rw [← hxe] at c1
          have HP := Lib.hid hp
          have e1 : (i : Int) / 16 = (j : Int) := by omega
          have e2 : (i : Int) % 16 = (t : Int) := by omega
          have e3 : (i : Int).tmod 16 = (t : Int) := by rw [Int.tmod_eq_emod_of_nonneg (Int.natCast_nonneg _)]; exact e2
          have e4 : (i : Int).tdiv 16 = (j : Int) := by rw [Int.tdiv_eq_ediv_of_nonneg (Int.natCast_nonneg _)]; exact e1
          have b2 : (j : Int) < (la : Int) := by omega
          have b3 : (0 : Int) ≤ (j : Int) := by omega
          clear hxe hp hj htt
          have q1 : IntKind.i64.wrap (j : Int) = (j : Int) := IntWalk.i64_in _ (by omega)
          have q2 : IntKind.i64.wrap (t : Int) = (t : Int) := IntWalk.i64_in _ (by omega)
          have q3 : IntKind.i64.wrap ((x : Int) + (p : Int)) = (x : Int) + (p : Int) := IntWalk.i64_in _ (by omega)
          go_upto_region 11 with fail
          go_still_tail 10, (by kernel_rfl)
          still_call (show Calls _ _ _ _ (fun e w'' => e = .returned (.int .i64 (p : Int)) ∧ w'' = _) from (power_any _ t _ (by first | rfl | exact e2 | exact e3) ht16).mono fun e w h => ⟨by rw [h.1, ← HP.out], h.2.symm⟩)
          repeat still_step
          refine wpStill_nil ?_
          have HQ9 : Hid (Blk .i64 w8.drew W.heap.size 3 qs) := HQ8.out
          have HX9 : Hid (N16 w8.drew xo xl (2 * R + b - D)) := HX.out.keep (Below.refl _ _).drew
          have HW9 : Hid (Below W.heap.size W w8.drew) := below_drewN1 HW8.out 1
          have c9 : w8.drew.cell? ⟨W.heap.size, j, none⟩ = some (.int .i64 (x : Int)) := c1
          have fz9 : w8.drew.frozen? ⟨W.heap.size, j, none⟩ = false := fz1
          change wpList _ _ _ _ _ w8.drew
          generalize w8.drew = w9 at HQ9 HX9 HW9 c9 fz9 ⊢
          clear c1 fz1
          go_wp2_with fail
          refine ⟨⟨i, 2 * R + b - D, 2 * Q + 1, qs.set j (x + p), xo, xl, xc, rfl, rfl, HX9.out.setOther HNE.out, by have := GRD.out; omega, dm_more HDB.out GD.out HBE.out hlt, HQ9.out.set _ _ _ (Int.natCast_add _ _).symm, by rw [List.length_set]; exact GL.out, GQD.out.set _ (by rw [B16_eq]; exact hxp), ?_, by omega, hxlc, hxcm, HW9.out.setCell (Nat.le_refl _) _⟩, by simp only [intOf]; omega⟩
          rw [HSET.out, GV.out, Nat.pow_succ]
          generalize 2 ^ i = u
          grind
end Go.Proofs.YtcgnmihabkgecaaGreat
