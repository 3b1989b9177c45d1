/- Part 6 of the contracts: RefD, Plus, RefE, RefF, Whole. -/
import Derived.Test.YtdnnjjclklcihaaPart5

/- The specification's cmp and sub. -/
set_option linter.unusedVariables false
namespace Go.Proofs.Ytdnnjjclklcihaa
open Go.RowKit

set_option maxHeartbeats 1000000 in
theorem cmp16_any (ao bo : Option Addr) (la lb ca cb : Nat) (m n : Nat) (w : World) (ha : N16 w ao la m) (hb : N16 w bo lb n) (hla : la ≤ 1000000000) (hlb : lb ≤ 1000000000) :
    Calls Try.prog 83 #[.slice ao la ca, .slice bo lb cb] w (CmpPost m n w) := by
  obtain ⟨xs, ⟨hx, b, off, h0, hc⟩, hd, ht, hv⟩ := ha
  obtain ⟨ys, ⟨hy, b', off', h0', hc'⟩, hd', ht', hv'⟩ := hb
  by_cases hl : la = lb
  · subst hl
    have Hx := Lib.hid hx
    have Hy := Lib.hid hy
    have Hv := Lib.hid hv
    have Hv' := Lib.hid hv'
    have Hd := Lib.hid hd
    have Hd' := Lib.hid hd'
    have H0 := Lib.hid h0
    have H0' := Lib.hid h0'
    have HC := Lib.hid hc
    have HC' := Lib.hid hc'
    clear hx hy hv hv' hd hd' ht ht' h0 h0' hc hc'
    go_enter Try.func83, Try.ntmps83
    go_wp2
    go_loopw [5] (fun t wr => ∃ i : Nat, i ≤ la ∧ t = .int .i64 ((i : Int) - 1) ∧ xs.drop i = ys.drop i ∧ Drew w wr) (fun t _ => (intOf t + 1).toNat)
    case atStart => exact ⟨la, Nat.le_refl _, rfl, by rw [List.drop_of_length_le (by have := Hx.out; omega), List.drop_of_length_le (by have := Hy.out; omega)], Drew.refl _⟩
    case round =>
      obtain ⟨i, hi, rfl, hdr, hw⟩ := hrel
      have HD := Lib.hid hdr
      have HW := Lib.hid hw
      clear hdr hw
      by_cases hi0 : i = 0
      · subst hi0
        go_wp2
        go_ret
        refine ⟨ret_int ?_, HW.out⟩
        rw [cmpN_eq]
        have := HD.out
        simp at this
        rw [← Hv.out, ← Hv'.out, this]
      · obtain ⟨j, rfl⟩ : ∃ j, i = j + 1 := ⟨i - 1, by omega⟩
        have hlen : 0 < la := by omega
        obtain rfl := H0.out hlen
        obtain rfl := H0'.out hlen
        have e1 : (((j + 1 : Nat) : Int) - 1) = (j : Int) := by omega
        rw [e1]
        clear e1
        have c1 := (HW.out.cell ⟨b, off + j, none⟩).trans (HC.out j (by omega))
        have c2 := (HW.out.cell ⟨b', off' + j, none⟩).trans (HC'.out j (by omega))
        have b1 : (0 : Int) ≤ (j : Int) := by omega
        have b2 : (j : Int) < (la : Int) := by omega
        obtain ⟨x, hxe⟩ : ∃ x, x = xs[j]?.getD 0 := ⟨_, rfl⟩
        obtain ⟨y, hye⟩ : ∃ x, x = ys[j]?.getD 0 := ⟨_, rfl⟩
        rw [← hxe] at c1
        rw [← hye] at c2
        have Ex := Lib.hid hxe
        have Ey := Lib.hid hye
        clear hxe hye
        have hjx : j < xs.length := by have := Hx.out; omega
        have hxy : xs.length = ys.length := by rw [Hx.out, Hy.out]
        have HXY := Lib.hid hxy
        have HJX := Lib.hid hjx
        clear hjx hxy
        rcases Nat.lt_trichotomy x y with hlt | heq | hgt
        · have t1 : (x : Int) < (y : Int) := by omega
          go_wp2
          go_quiet (fail)
          go_wp2
          go_ret
          refine ⟨ret_int ?_, HW.out.more _⟩
          have hlt2 := hlt
          rw [Ex.out, Ey.out] at hlt2
          have := val_lt_of_part B16_pos HXY.out Hd.out HJX.out HD.out hlt2
          rw [Hv.out, Hv'.out] at this
          rw [cmpN_lt this]
        · subst heq
          go_wp2
          go_quiet (fail)
          go_wp2
          go_quiet (fail)
          go_wp2
          go_roundw
          case rel => exact ⟨j, by omega, rfl, eq_of_drop HXY.out j HJX.out HD.out (by rw [← Ex.out, ← Ey.out]), by first | exact HW.out.more _ | exact (HW.out.more _).more _⟩
          case measure => simp [intOf]
        · have t1 : (y : Int) < (x : Int) := by omega
          have t2 : ¬ (x : Int) < (y : Int) := by omega
          go_wp2
          go_quiet (fail)
          go_wp2
          go_quiet (fail)
          go_wp2
          go_ret
          refine ⟨ret_int ?_, by first | exact HW.out.more _ | exact (HW.out.more _).more _⟩
          have hlt2 := hgt
          rw [Ex.out, Ey.out] at hlt2
          have := val_lt_of_part B16_pos HXY.out.symm Hd'.out (HXY.out ▸ HJX.out) HD.out.symm hlt2
          rw [Hv.out, Hv'.out] at this
          rw [cmpN_gt this]
  · rcases Nat.lt_or_gt_of_ne hl with hlt | hgt
    · have t1 : (la : Int) < (lb : Int) := by omega
      have hvv := val_lt_of_len B16_pos hd ht' (by omega)
      rw [hv, hv'] at hvv
      have HV := Lib.hid hvv
      clear hx hy hv hv' hd hd' ht ht' h0 h0' hc hc' hvv
      go_enter Try.func83, Try.ntmps83
      go_wp2
      go_ret
      exact ⟨ret_int (cmpN_lt HV.out).symm, Drew.refl _⟩
    · have t1 : ¬ (la : Int) < (lb : Int) := by omega
      have t2 : (lb : Int) < (la : Int) := by omega
      have hvv := val_lt_of_len B16_pos hd' ht (by omega)
      rw [hv, hv'] at hvv
      have HV := Lib.hid hvv
      clear hx hy hv hv' hd hd' ht ht' h0 h0' hc hc' hvv
      go_enter Try.func83, Try.ntmps83
      go_wp2
      go_ret
      exact ⟨ret_int (cmpN_gt HV.out).symm, Drew.refl _⟩

/-- at inside a region that draws its order -/
theorem at_quiet (ao : Option Addr) (len cap : Nat) (xs : List Nat) (I : Int) (i y n : Nat) (w : World) (hs : Sl .i64 w ao len xs) (hI : I = (i : Int)) (hy : y = xs[i]?.getD 0) :
    Calls Try.prog 100 #[.slice ao len cap, .int .i64 I] (w.drewN n) fun e w'' => e = .returned (.int .i64 (y : Int)) ∧ ∃ m, w'' = w.drewN m :=
  (at_any ao len cap xs I i (w.drewN n) (hs.drewN n) hI).mono fun e w' ⟨h1, h2⟩ => ⟨by rw [h1, hy], n, h2.symm⟩

/-- the loop of sub -/
def Sub16Rel (la : Nat) (xa xb : List Nat) (W : World) (ov cv iv : Value) (wr : World) : Prop :=
  ∃ (c i : Nat) (zs : List Nat), cv = .int .i64 (c : Int) ∧ iv = .int .i64 (i : Int) ∧ Own .i64 wr W.heap.size 3 ov i zs ∧ Dig B16 zs ∧ c ≤ 1 ∧ i ≤ la ∧
    val B16 zs + val B16 (xb.take i) = val B16 (xa.take i) + c * B16 ^ i ∧ Below W.heap.size W wr

theorem sub16_rel {la i c d x y : Nat} {xa xb zs : List Nat} {W wr w2 : World} {v' : Value} (c' : Nat) (hlz : zs.length = i) (hd : Dig B16 zs) (hi : i < la) (hx : x = xa[i]?.getD 0) (hy : y = xb[i]?.getD 0) (hdb : d < B16) (hc' : c' ≤ 1)
    (he : d + y + c = x + c' * B16)
    (hv : val B16 zs + val B16 (xb.take i) = val B16 (xa.take i) + c * B16 ^ i) (hb : Below W.heap.size W wr) (ho : Own .i64 w2 W.heap.size 3 v' (i + 1) (zs ++ [d])) (hb2 : Below W.heap.size wr w2)
    (C I : Int) (hC : C = (c' : Int)) (hI : I = (i : Int) + 1) : Sub16Rel la xa xb W v' (.int .i64 C) (.int .i64 I) w2 := by
  refine ⟨c', i + 1, zs ++ [d], by rw [hC], by rw [hI]; rfl, ho, hd.append (Dig.cons hdb (Dig.nil _)), hc', by omega, ?_, hb.trans hb2⟩
  rw [val_snoc, hlz, val_take_succ, val_take_succ, ← hx, ← hy, Nat.pow_succ]
  generalize B16 ^ i = p at *
  generalize B16 = B at *
  grind

theorem sub16_end {la m n c : Nat} {xa xb zs : List Nat} (hla : xa.length = la) (hlz : zs.length = la) (hd : Dig B16 zs) (hdb : Dig B16 xb) (htb : Top xb) (hda : Dig B16 xa) (ha : val B16 xa = m) (hb : val B16 xb = n) (hnm : n ≤ m)
    (hv : val B16 zs + val B16 (xb.take la) = val B16 (xa.take la) + c * B16 ^ la) : val B16 zs = m - n := by
  have h1 := val_lt B16_pos hda
  rw [hla, ha] at h1
  have h2 : xb.length ≤ la := len_le_of_lt B16_gt htb (by rw [hb]; omega)
  rw [List.take_of_length_le h2, List.take_of_length_le (by omega), ha, hb] at hv
  have h3 := val_lt B16_pos hd
  rw [hlz] at h3
  rcases Nat.eq_zero_or_pos c with h | h
  · subst h; omega
  · have : 1 * B16 ^ la ≤ c * B16 ^ la := Nat.mul_le_mul_right _ h
    omega

set_option maxHeartbeats 1000000 in
theorem sub16_any (ao bo : Option Addr) (la lb ca cb : Nat) (m n : Nat) (W : World) (ha : N16 W ao la m) (hb : N16 W bo lb n) (hla : la ≤ 1000000000) (hnm : n ≤ m) :
    Calls Try.prog 77 #[.slice ao la ca, .slice bo lb cb] W (Out16 W (m - n)) := by
  obtain ⟨xa, ha, hda, hta, hva⟩ := ha
  obtain ⟨xb, hb, hdb, htb, hvb⟩ := hb
  have HA := Lib.hid ha
  have HB := Lib.hid hb
  have HDA := Lib.hid hda
  have HDB := Lib.hid hdb
  have HTB := Lib.hid htb
  have HVA := Lib.hid hva
  have HVB := Lib.hid hvb
  have HNM := Lib.hid hnm
  clear ha hb hda hdb hta htb hva hvb hnm
  go_enter Try.func77, Try.ntmps77
  go_wp2
  go_loopw [5, 6, 7] (fun ov cv iv wr => Sub16Rel la xa xb W ov cv iv wr) (fun ov cv iv _ => la - (intOf iv).toNat)
  case atStart => exact ⟨0, 0, [], rfl, rfl, Own.nil _ _ _ _, Dig.nil _, by omega, by omega, by simp [val], Below.refl _ _⟩
  case round =>
    obtain ⟨c, i, zs, rfl, rfl, hown, hd, hc, hi, hv, hbel⟩ := hrel
    have GO := Lib.hid hown
    have GD := Lib.hid hd
    have GV := Lib.hid hv
    have GW := Lib.hid hbel
    clear hown hd hv hbel
    by_cases hil : i = la
    · subst hil
      obtain ⟨oo, cap, rfl, hlc, hcm, hsl⟩ := GO.out.sl
      have HS := Lib.hid hsl
      clear hsl
      go_wp2_with fail
      refine (trim16_raw _ _ _ zs _ HS.out hlc hcm).mono ?_
      rintro e w1 ⟨⟨ao', k, rfl, hk, ha', ht, hz⟩, rfl⟩
      have HT := Lib.hid ht
      have HZ := Lib.hid hz
      have HAA := Lib.hid ha'
      clear ht hz ha'
      go_wp2
      go_ret
      exact ⟨ao', k, cap, rfl, by omega, hcm, ⟨zs.take k, trim_sl HS.out hk HAA.out, GD.out.take _, HT.out, by rw [val_take_of_zeros HZ.out]; exact sub16_end HA.out.len GO.out.len GD.out HDB.out HTB.out HDA.out HVA.out HVB.out HNM.out GV.out⟩, GW.out⟩
    · have t1 : (i : Int) < (la : Int) := by omega
      have t0 : (0 : Int) ≤ (i : Int) := by omega
      have hx := HDA.out.get B16_pos i
      have hy := HDB.out.get B16_pos i
      obtain ⟨x, hxe⟩ : ∃ x, x = xa[i]?.getD 0 := ⟨_, rfl⟩
      obtain ⟨y, hye⟩ : ∃ x, x = xb[i]?.getD 0 := ⟨_, rfl⟩
      rw [← hxe] at hx
      rw [← hye] at hy
      rw [B16_eq] at hx hy
      obtain ⟨hxl, b, off, h0, hcc⟩ := HA.out.keep GW.out
      obtain rfl := h0 (by omega)
      have hci := hcc i (by omega)
      rw [← hxe] at hci
      have HX := Lib.hid hxe
      have HY := Lib.hid hye
      have HBr := Lib.hid (HB.out.keep GW.out)
      clear hxe hye hxl h0 hcc
      by_cases hlt : x < y + c
      · have t2 : (x : Int) - (y : Int) - (c : Int) < 0 := by omega
        go_wp2_with fail
        go_quiet ((go_at_call 100; exact at_quiet _ _ _ xb _ i y _ _ HBr.out rfl HY.out))
        go_wp2_with (at_builtin; refine wpList_app rfl _ _ 26 rfl W.heap.size 3 .i64 8 Try.underlying26 (by kernel_rfl) _ i zs rfl GO.out _ (x + 65536 - y - c) rfl (by omega) (by omega) (by omega) GW.out.size ?_; intro v' w2 hown' hbel')
        go_roundw
        case rel => exact sub16_rel 1 GO.out.len GD.out (by omega) HX.out HY.out (by rw [B16_eq]; omega) (by omega) (by rw [B16_eq]; omega) GV.out GW.out hown' ((below_drewN1 (Below.refl _ _) _).trans hbel') _ _ rfl rfl
        case measure => simp only [intOf]; omega
      · have t2 : ¬ (x : Int) - (y : Int) - (c : Int) < 0 := by omega
        go_wp2_with fail
        go_quiet ((go_at_call 100; exact at_quiet _ _ _ xb _ i y _ _ HBr.out rfl HY.out))
        go_wp2_with (at_builtin; refine wpList_app rfl _ _ 26 rfl W.heap.size 3 .i64 8 Try.underlying26 (by kernel_rfl) _ i zs rfl GO.out _ (x - y - c) rfl (by omega) (by omega) (by omega) GW.out.size ?_; intro v' w2 hown' hbel')
        go_roundw
        case rel => exact sub16_rel 0 GO.out.len GD.out (by omega) HX.out HY.out (by rw [B16_eq]; omega) (by omega) (by rw [B16_eq]; omega) GV.out GW.out hown' ((below_drewN1 (Below.refl _ _) _).trans hbel') _ _ rfl rfl
        case measure => simp only [intOf]; omega
end Go.Proofs.Ytdnnjjclklcihaa

/- plus. -/
set_option linter.unusedVariables false
namespace Go.Proofs.Ytdnnjjclklcihaa
open Go.RowKit

theorem sgn_add (s : Bool) (m n : Nat) : sgn s m + sgn s n = sgn s (m + n) := by cases s <;> simp [sgn]; omega
theorem sgn_lt (s : Bool) {m n : Nat} (h : m < n) : sgn s m + sgn (!s) n = sgn (!s) (n - m) := by cases s <;> simp [sgn] <;> omega
theorem sgn_ge (s : Bool) {m n : Nat} (h : n ≤ m) : sgn s m + sgn (!s) n = sgn s (m - n) := by cases s <;> simp [sgn] <;> omega

set_option maxHeartbeats 2000000 in
theorem plus_same (s : Bool) (ao bo : Option Addr) (la lb ca cb : Nat) (m n : Nat) (W : World) (hm : N32 W ao la m) (hn : N32 W bo lb n) (hla : la ≤ 1000000000) (hlb : lb ≤ 1000000000) :
    Calls Try.prog 81 #[.agg #[.bool s, .slice ao la ca], .agg #[.bool s, .slice bo lb cb]] W (OutI W (sgn s (m + n))) := by
  have hf : Fr W (((W.alloc (.cells #[.bool s, .slice ao la ca] 24)).alloc (.cells #[.bool s, .slice bo lb cb] 24)).alloc (.cells #[.bool false, .slice none 0 0] 24))
      [(24, #[.bool s, .slice ao la ca]), (24, #[.bool s, .slice bo lb cb]), (24, #[.bool false, .slice none 0 0])] :=
    (((Fr.nil W).alloc rfl _ _).alloc (by simp) _ _).alloc (by simp) _ _
  have HM := Lib.hid (hm.keep hf.below)
  have HN := Lib.hid (hn.keep hf.below)
  clear hm hn
  go_enter Try.func81, Try.ntmps81
  go_wp2_with fail
  obtain ⟨W3, hW3⟩ : ∃ W3, W3 = ((W.alloc (.cells #[.bool s, .slice ao la ca] 24)).alloc (.cells #[.bool s, .slice bo lb cb] 24)).alloc (.cells #[.bool false, .slice none 0 0] 24) := ⟨_, rfl⟩
  rw [← hW3] at hf HM HN ⊢
  clear hW3
  have HF := Lib.hid hf
  clear hf
  have c0 : W3.cell? ⟨W.heap.size, 0, none⟩ = some (.bool s) := HF.out.cell 0 0 rfl rfl
  have c1 : W3.cell? ⟨W.heap.size, 1, none⟩ = some (.slice ao la ca) := HF.out.cell 0 1 rfl rfl
  have c2 : W3.cell? ⟨W.heap.size + 1, 0, none⟩ = some (.bool s) := HF.out.cell 1 0 rfl rfl
  have c3 : W3.cell? ⟨W.heap.size + 1, 1, none⟩ = some (.slice bo lb cb) := HF.out.cell 1 1 rfl rfl
  go_region_held3 (fun w' => w'.cell? ⟨W.heap.size, 0, none⟩ = some (.bool s) ∧ w'.cell? ⟨W.heap.size, 1, none⟩ = some (.slice ao la ca) ∧ w'.cell? ⟨W.heap.size + 1, 0, none⟩ = some (.bool s) ∧ w'.cell? ⟨W.heap.size + 1, 1, none⟩ = some (.slice bo lb cb)) (first | (go_keep; done) | ((try dsimp only); (repeat' apply And.intro) <;> (first | (go_keep; done) | (rw [cell_set2 _ _ _ _ _ _ (by omega)]; assumption))))
    (first | (go_at_call 87; refine (sum_any _ _ _ _ _ _ m n W3.drew HM.out HN.out hla hlb).mono ?_; rintro e u1 ⟨po, pl, pc, rfl, hp, hb1⟩; have HB1 := Lib.hid (below_of_drew hb1); have HP := Lib.hid hp; have HF1 := Lib.hid (HF.out.later HB1.out); clear hb1 hp; have k0 : u1.cell? ⟨W.heap.size, 0, none⟩ = some (.bool s) := HF1.out.cell 0 0 rfl rfl; have k1 : u1.cell? ⟨W.heap.size, 1, none⟩ = some (.slice ao la ca) := HF1.out.cell 0 1 rfl rfl; have k2 : u1.cell? ⟨W.heap.size + 1, 0, none⟩ = some (.bool s) := HF1.out.cell 1 0 rfl rfl; have k3 : u1.cell? ⟨W.heap.size + 1, 1, none⟩ = some (.slice bo lb cb) := HF1.out.cell 1 1 rfl rfl) | (go_at_call 62; refine (signed_any s _ _ _ (m + n) _ HP.out).mono ?_; rintro e u2 ⟨neg, so, sl, sc, rfl, hz, hb2⟩; have HF2 := Lib.hid (HF1.out.later hb2); have HZ := Lib.hid hz; clear hb2 hz; have j0 : u2.cell? ⟨W.heap.size, 0, none⟩ = some (.bool s) := HF2.out.cell 0 0 rfl rfl; have j1 : u2.cell? ⟨W.heap.size, 1, none⟩ = some (.slice ao la ca) := HF2.out.cell 0 1 rfl rfl; have j2 : u2.cell? ⟨W.heap.size + 1, 0, none⟩ = some (.bool s) := HF2.out.cell 1 0 rfl rfl; have j3 : u2.cell? ⟨W.heap.size + 1, 1, none⟩ = some (.slice bo lb cb) := HF2.out.cell 1 1 rfl rfl; have g0 : u2.cell? ⟨W.heap.size + 2, 0, none⟩ = some (.bool false) := HF2.out.cell 2 0 rfl rfl; have g1 : u2.cell? ⟨W.heap.size + 2, 1, none⟩ = some (.slice none 0 0) := HF2.out.cell 2 1 rfl rfl; have g2 : u2.frozen? ⟨W.heap.size + 2, 0, none⟩ = false := HF2.out.frozen 2 0 rfl; have g3 : u2.frozen? ⟨W.heap.size + 2, 1, none⟩ = false := HF2.out.frozen 2 1 rfl))
  go_wp2
  obtain ⟨e0, e1, hz, hbel, _⟩ := HF2.out.finI (cap := sc) 2 rfl HZ.out
  exact bodyPost_ret (v := .agg #[.bool neg, .slice so sl sc]) (by simp [results, Try.results81, go_sem, e0, e1]) rfl ⟨neg, so, sl, sc, rfl, hz, hbel⟩

set_option maxHeartbeats 2000000 in
theorem plus_lt (s : Bool) (ao bo : Option Addr) (la lb ca cb : Nat) (m n : Nat) (W : World) (hm : N32 W ao la m) (hn : N32 W bo lb n) (hla : la ≤ 1000000000) (hlb : lb ≤ 1000000000) (hlt : m < n) :
    Calls Try.prog 81 #[.agg #[.bool s, .slice ao la ca], .agg #[.bool (!s), .slice bo lb cb]] W (OutI W (sgn (!s) (n - m))) := by
  have hf : Fr W (((W.alloc (.cells #[.bool s, .slice ao la ca] 24)).alloc (.cells #[.bool (!s), .slice bo lb cb] 24)).alloc (.cells #[.bool false, .slice none 0 0] 24))
      [(24, #[.bool s, .slice ao la ca]), (24, #[.bool (!s), .slice bo lb cb]), (24, #[.bool false, .slice none 0 0])] :=
    (((Fr.nil W).alloc rfl _ _).alloc (by simp) _ _).alloc (by simp) _ _
  have HM := Lib.hid (hm.keep hf.below)
  have HN := Lib.hid (hn.keep hf.below)
  clear hm hn
  have hbb : (s == !s) = false := by cases s <;> rfl
  go_enter Try.func81, Try.ntmps81
  go_wp2_with fail
  obtain ⟨W3, hW3⟩ : ∃ W3, W3 = ((W.alloc (.cells #[.bool s, .slice ao la ca] 24)).alloc (.cells #[.bool (!s), .slice bo lb cb] 24)).alloc (.cells #[.bool false, .slice none 0 0] 24) := ⟨_, rfl⟩
  rw [← hW3] at hf HM HN ⊢
  clear hW3
  have HF0 := Lib.hid hf
  clear hf
  have c0 : W3.cell? ⟨W.heap.size, 0, none⟩ = some (.bool s) := HF0.out.cell 0 0 rfl rfl
  have c1 : W3.cell? ⟨W.heap.size, 1, none⟩ = some (.slice ao la ca) := HF0.out.cell 0 1 rfl rfl
  have c2 : W3.cell? ⟨W.heap.size + 1, 0, none⟩ = some (.bool (!s)) := HF0.out.cell 1 0 rfl rfl
  have c3 : W3.cell? ⟨W.heap.size + 1, 1, none⟩ = some (.slice bo lb cb) := HF0.out.cell 1 1 rfl rfl
  go_wp2_with fail
  refine (compare_any _ _ _ _ _ _ m n W3 HM.out HN.out hla hlb).mono ?_
  rintro e w1 ⟨rfl, hdr⟩
  rw [cmpN_lt hlt]
  have HF := Lib.hid (HF0.out.later hdr.below)
  have HM1 := Lib.hid (HM.out.keep hdr.below)
  have HN1 := Lib.hid (HN.out.keep hdr.below)
  clear hdr c0 c1 c2 c3
  have d0 : w1.cell? ⟨W.heap.size, 0, none⟩ = some (.bool s) := HF.out.cell 0 0 rfl rfl
  have d1 : w1.cell? ⟨W.heap.size, 1, none⟩ = some (.slice ao la ca) := HF.out.cell 0 1 rfl rfl
  have d2 : w1.cell? ⟨W.heap.size + 1, 0, none⟩ = some (.bool (!s)) := HF.out.cell 1 0 rfl rfl
  have d3 : w1.cell? ⟨W.heap.size + 1, 1, none⟩ = some (.slice bo lb cb) := HF.out.cell 1 1 rfl rfl
  go_wp2_with fail
  go_region_held3 (fun w' => w'.cell? ⟨W.heap.size, 0, none⟩ = some (.bool s) ∧ w'.cell? ⟨W.heap.size, 1, none⟩ = some (.slice ao la ca) ∧ w'.cell? ⟨W.heap.size + 1, 0, none⟩ = some (.bool (!s)) ∧ w'.cell? ⟨W.heap.size + 1, 1, none⟩ = some (.slice bo lb cb)) (first | (go_keep; done) | ((try dsimp only); (repeat' apply And.intro) <;> (first | (go_keep; done) | (rw [cell_set2 _ _ _ _ _ _ (by omega)]; assumption))))
    (first | (go_at_call 88; refine (difference_any _ _ _ _ _ _ n m w1.drew HN1.out HM1.out hlb (Nat.le_of_lt hlt)).mono ?_; rintro e u1 ⟨po, pl, pc, rfl, hp, hb1⟩; have HB1 := Lib.hid (below_of_drew hb1); have HP := Lib.hid hp; have HF1 := Lib.hid (HF.out.later HB1.out); clear hb1 hp; have k0 : u1.cell? ⟨W.heap.size, 0, none⟩ = some (.bool s) := HF1.out.cell 0 0 rfl rfl; have k1 : u1.cell? ⟨W.heap.size, 1, none⟩ = some (.slice ao la ca) := HF1.out.cell 0 1 rfl rfl; have k2 : u1.cell? ⟨W.heap.size + 1, 0, none⟩ = some (.bool (!s)) := HF1.out.cell 1 0 rfl rfl; have k3 : u1.cell? ⟨W.heap.size + 1, 1, none⟩ = some (.slice bo lb cb) := HF1.out.cell 1 1 rfl rfl) | (go_at_call 62; refine (signed_any (!s) _ _ _ (n - m) _ HP.out).mono ?_; rintro e u2 ⟨neg, so, sl, sc, rfl, hz, hb2⟩; have HF2 := Lib.hid (HF1.out.later hb2); have HZ := Lib.hid hz; clear hb2 hz; have j0 : u2.cell? ⟨W.heap.size, 0, none⟩ = some (.bool s) := HF2.out.cell 0 0 rfl rfl; have j1 : u2.cell? ⟨W.heap.size, 1, none⟩ = some (.slice ao la ca) := HF2.out.cell 0 1 rfl rfl; have j2 : u2.cell? ⟨W.heap.size + 1, 0, none⟩ = some (.bool (!s)) := HF2.out.cell 1 0 rfl rfl; have j3 : u2.cell? ⟨W.heap.size + 1, 1, none⟩ = some (.slice bo lb cb) := HF2.out.cell 1 1 rfl rfl; have g0 : u2.cell? ⟨W.heap.size + 2, 0, none⟩ = some (.bool false) := HF2.out.cell 2 0 rfl rfl; have g1 : u2.cell? ⟨W.heap.size + 2, 1, none⟩ = some (.slice none 0 0) := HF2.out.cell 2 1 rfl rfl; have g2 : u2.frozen? ⟨W.heap.size + 2, 0, none⟩ = false := HF2.out.frozen 2 0 rfl; have g3 : u2.frozen? ⟨W.heap.size + 2, 1, none⟩ = false := HF2.out.frozen 2 1 rfl))
  go_wp2
  obtain ⟨e0, e1, hz, hbel, _⟩ := HF2.out.finI (cap := sc) 2 rfl HZ.out
  exact bodyPost_ret (v := .agg #[.bool neg, .slice so sl sc]) (by simp [results, Try.results81, go_sem, e0, e1]) rfl ⟨neg, so, sl, sc, rfl, hz, hbel⟩

set_option maxHeartbeats 2000000 in
theorem plus_ge (s : Bool) (ao bo : Option Addr) (la lb ca cb : Nat) (m n : Nat) (W : World) (hm : N32 W ao la m) (hn : N32 W bo lb n) (hla : la ≤ 1000000000) (hlb : lb ≤ 1000000000) (hlt : n ≤ m) :
    Calls Try.prog 81 #[.agg #[.bool s, .slice ao la ca], .agg #[.bool (!s), .slice bo lb cb]] W (OutI W (sgn s (m - n))) := by
  have hf : Fr W (((W.alloc (.cells #[.bool s, .slice ao la ca] 24)).alloc (.cells #[.bool (!s), .slice bo lb cb] 24)).alloc (.cells #[.bool false, .slice none 0 0] 24))
      [(24, #[.bool s, .slice ao la ca]), (24, #[.bool (!s), .slice bo lb cb]), (24, #[.bool false, .slice none 0 0])] :=
    (((Fr.nil W).alloc rfl _ _).alloc (by simp) _ _).alloc (by simp) _ _
  have HM := Lib.hid (hm.keep hf.below)
  have HN := Lib.hid (hn.keep hf.below)
  clear hm hn
  have hbb : (s == !s) = false := by cases s <;> rfl
  go_enter Try.func81, Try.ntmps81
  go_wp2_with fail
  obtain ⟨W3, hW3⟩ : ∃ W3, W3 = ((W.alloc (.cells #[.bool s, .slice ao la ca] 24)).alloc (.cells #[.bool (!s), .slice bo lb cb] 24)).alloc (.cells #[.bool false, .slice none 0 0] 24) := ⟨_, rfl⟩
  rw [← hW3] at hf HM HN ⊢
  clear hW3
  have HF0 := Lib.hid hf
  clear hf
  have c0 : W3.cell? ⟨W.heap.size, 0, none⟩ = some (.bool s) := HF0.out.cell 0 0 rfl rfl
  have c1 : W3.cell? ⟨W.heap.size, 1, none⟩ = some (.slice ao la ca) := HF0.out.cell 0 1 rfl rfl
  have c2 : W3.cell? ⟨W.heap.size + 1, 0, none⟩ = some (.bool (!s)) := HF0.out.cell 1 0 rfl rfl
  have c3 : W3.cell? ⟨W.heap.size + 1, 1, none⟩ = some (.slice bo lb cb) := HF0.out.cell 1 1 rfl rfl
  go_wp2_with fail
  refine (compare_any _ _ _ _ _ _ m n W3 HM.out HN.out hla hlb).mono ?_
  rintro e w1 ⟨rfl, hdr⟩
  obtain ⟨z, hz⟩ : ∃ z, z = cmpN m n := ⟨_, rfl⟩
  rw [← hz]
  have tz : 0 ≤ z := by rw [hz]; unfold cmpN; rw [if_neg (by omega)]; split <;> decide
  have tn : ¬ z < 0 := by omega
  clear hz
  have HF := Lib.hid (HF0.out.later hdr.below)
  have HM1 := Lib.hid (HM.out.keep hdr.below)
  have HN1 := Lib.hid (HN.out.keep hdr.below)
  clear hdr c0 c1 c2 c3
  have d0 : w1.cell? ⟨W.heap.size, 0, none⟩ = some (.bool s) := HF.out.cell 0 0 rfl rfl
  have d1 : w1.cell? ⟨W.heap.size, 1, none⟩ = some (.slice ao la ca) := HF.out.cell 0 1 rfl rfl
  have d2 : w1.cell? ⟨W.heap.size + 1, 0, none⟩ = some (.bool (!s)) := HF.out.cell 1 0 rfl rfl
  have d3 : w1.cell? ⟨W.heap.size + 1, 1, none⟩ = some (.slice bo lb cb) := HF.out.cell 1 1 rfl rfl
  go_wp2_with fail
  go_region_held3 (fun w' => w'.cell? ⟨W.heap.size, 0, none⟩ = some (.bool s) ∧ w'.cell? ⟨W.heap.size, 1, none⟩ = some (.slice ao la ca) ∧ w'.cell? ⟨W.heap.size + 1, 0, none⟩ = some (.bool (!s)) ∧ w'.cell? ⟨W.heap.size + 1, 1, none⟩ = some (.slice bo lb cb)) (first | (go_keep; done) | ((try dsimp only); (repeat' apply And.intro) <;> (first | (go_keep; done) | (rw [cell_set2 _ _ _ _ _ _ (by omega)]; assumption))))
    (first | (go_at_call 88; refine (difference_any _ _ _ _ _ _ m n w1.drew HM1.out HN1.out hla hlt).mono ?_; rintro e u1 ⟨po, pl, pc, rfl, hp, hb1⟩; have HB1 := Lib.hid (below_of_drew hb1); have HP := Lib.hid hp; have HF1 := Lib.hid (HF.out.later HB1.out); clear hb1 hp; have k0 : u1.cell? ⟨W.heap.size, 0, none⟩ = some (.bool s) := HF1.out.cell 0 0 rfl rfl; have k1 : u1.cell? ⟨W.heap.size, 1, none⟩ = some (.slice ao la ca) := HF1.out.cell 0 1 rfl rfl; have k2 : u1.cell? ⟨W.heap.size + 1, 0, none⟩ = some (.bool (!s)) := HF1.out.cell 1 0 rfl rfl; have k3 : u1.cell? ⟨W.heap.size + 1, 1, none⟩ = some (.slice bo lb cb) := HF1.out.cell 1 1 rfl rfl) | (go_at_call 62; refine (signed_any s _ _ _ (m - n) _ HP.out).mono ?_; rintro e u2 ⟨neg, so, sl, sc, rfl, hz, hb2⟩; have HF2 := Lib.hid (HF1.out.later hb2); have HZ := Lib.hid hz; clear hb2 hz; have j0 : u2.cell? ⟨W.heap.size, 0, none⟩ = some (.bool s) := HF2.out.cell 0 0 rfl rfl; have j1 : u2.cell? ⟨W.heap.size, 1, none⟩ = some (.slice ao la ca) := HF2.out.cell 0 1 rfl rfl; have j2 : u2.cell? ⟨W.heap.size + 1, 0, none⟩ = some (.bool (!s)) := HF2.out.cell 1 0 rfl rfl; have j3 : u2.cell? ⟨W.heap.size + 1, 1, none⟩ = some (.slice bo lb cb) := HF2.out.cell 1 1 rfl rfl; have g0 : u2.cell? ⟨W.heap.size + 2, 0, none⟩ = some (.bool false) := HF2.out.cell 2 0 rfl rfl; have g1 : u2.cell? ⟨W.heap.size + 2, 1, none⟩ = some (.slice none 0 0) := HF2.out.cell 2 1 rfl rfl; have g2 : u2.frozen? ⟨W.heap.size + 2, 0, none⟩ = false := HF2.out.frozen 2 0 rfl; have g3 : u2.frozen? ⟨W.heap.size + 2, 1, none⟩ = false := HF2.out.frozen 2 1 rfl))
  go_wp2
  obtain ⟨e0, e1, hz, hbel, _⟩ := HF2.out.finI (cap := sc) 2 rfl HZ.out
  exact bodyPost_ret (v := .agg #[.bool neg, .slice so sl sc]) (by simp [results, Try.results81, go_sem, e0, e1]) rfl ⟨neg, so, sl, sc, rfl, hz, hbel⟩

theorem plus_any (na nb : Bool) (ao bo : Option Addr) (la lb ca cb : Nat) (x y : Int) (W : World) (ha : Z32 W na ao la x) (hb : Z32 W nb bo lb y) (hla : la ≤ 1000000000) (hlb : lb ≤ 1000000000) :
    Calls Try.prog 81 #[.agg #[.bool na, .slice ao la ca], .agg #[.bool nb, .slice bo lb cb]] W (OutI W (x + y)) := by
  obtain ⟨m, hm, rfl, hpm⟩ := ha
  obtain ⟨n, hn, rfl, hpn⟩ := hb
  by_cases h : na = nb
  · subst h
    rw [sgn_add]
    exact plus_same na ao bo la lb ca cb m n W hm hn hla hlb
  · obtain rfl : nb = !na := by cases na <;> cases nb <;> simp_all
    rcases Nat.lt_or_ge m n with hlt | hlt
    · rw [sgn_lt na hlt]
      exact plus_lt na ao bo la lb ca cb m n W hm hn hla hlb hlt
    · rw [sgn_ge na hlt]
      exact plus_ge na ao bo la lb ca cb m n W hm hn hla hlb hlt
end Go.Proofs.Ytdnnjjclklcihaa

/- The specification: Add. -/
set_option linter.unusedVariables false
namespace Go.Proofs.Ytdnnjjclklcihaa
open Go.RowKit

set_option maxHeartbeats 2000000 in
theorem plus16_same (s : Bool) (ao bo : Option Addr) (la lb ca cb : Nat) (m n : Nat) (W : World) (hm : N16 W ao la m) (hn : N16 W bo lb n) (hla : la ≤ 1000000000) (hlb : lb ≤ 1000000000) :
    Calls Try.prog 39 #[.agg #[.bool s, .slice ao la ca], .agg #[.bool s, .slice bo lb cb]] W (OutJ W (sgn s (m + n))) := by
  have hf : Fr W (((W.alloc (.cells #[.bool s, .slice ao la ca] 28)).alloc (.cells #[.bool s, .slice bo lb cb] 28)).alloc (.cells #[.bool false, .slice none 0 0] 28))
      [(28, #[.bool s, .slice ao la ca]), (28, #[.bool s, .slice bo lb cb]), (28, #[.bool false, .slice none 0 0])] :=
    (((Fr.nil W).alloc rfl _ _).alloc (by simp) _ _).alloc (by simp) _ _
  have HM := Lib.hid (hm.keep hf.below)
  have HN := Lib.hid (hn.keep hf.below)
  clear hm hn
  go_enter Try.func39, Try.ntmps39
  go_wp2_with fail
  obtain ⟨W3, hW3⟩ : ∃ W3, W3 = ((W.alloc (.cells #[.bool s, .slice ao la ca] 28)).alloc (.cells #[.bool s, .slice bo lb cb] 28)).alloc (.cells #[.bool false, .slice none 0 0] 28) := ⟨_, rfl⟩
  rw [← hW3] at hf HM HN ⊢
  clear hW3
  have HF := Lib.hid hf
  clear hf
  have c0 : W3.cell? ⟨W.heap.size, 0, none⟩ = some (.bool s) := HF.out.cell 0 0 rfl rfl
  have c1 : W3.cell? ⟨W.heap.size, 1, none⟩ = some (.slice ao la ca) := HF.out.cell 0 1 rfl rfl
  have c2 : W3.cell? ⟨W.heap.size + 1, 0, none⟩ = some (.bool s) := HF.out.cell 1 0 rfl rfl
  have c3 : W3.cell? ⟨W.heap.size + 1, 1, none⟩ = some (.slice bo lb cb) := HF.out.cell 1 1 rfl rfl
  go_region_held3 (fun w' => w'.cell? ⟨W.heap.size, 0, none⟩ = some (.bool s) ∧ w'.cell? ⟨W.heap.size, 1, none⟩ = some (.slice ao la ca) ∧ w'.cell? ⟨W.heap.size + 1, 0, none⟩ = some (.bool s) ∧ w'.cell? ⟨W.heap.size + 1, 1, none⟩ = some (.slice bo lb cb)) (first | (go_keep; done) | ((try dsimp only); (repeat' apply And.intro) <;> (first | (go_keep; done) | (rw [cell_set2 _ _ _ _ _ _ (by omega)]; assumption))))
    (first | (go_at_call 66; refine (add_any _ _ _ _ _ _ m n W3.drew HM.out HN.out hla hlb).mono ?_; rintro e u1 ⟨po, pl, pc, rfl, hlc1, hcm1, hp, hb1⟩; have HB1 := Lib.hid (below_of_drew hb1); have HP := Lib.hid hp; have HF1 := Lib.hid (HF.out.later HB1.out); clear hb1 hp; have k0 : u1.cell? ⟨W.heap.size, 0, none⟩ = some (.bool s) := HF1.out.cell 0 0 rfl rfl; have k1 : u1.cell? ⟨W.heap.size, 1, none⟩ = some (.slice ao la ca) := HF1.out.cell 0 1 rfl rfl; have k2 : u1.cell? ⟨W.heap.size + 1, 0, none⟩ = some (.bool s) := HF1.out.cell 1 0 rfl rfl; have k3 : u1.cell? ⟨W.heap.size + 1, 1, none⟩ = some (.slice bo lb cb) := HF1.out.cell 1 1 rfl rfl) | (go_at_call 64; refine (made_any s _ _ _ (m + n) _ HP.out hlc1 hcm1).mono ?_; rintro e u2 ⟨neg, so, sl, sc, rfl, hlc2, hcm2, hz, hb2⟩; have HF2 := Lib.hid (HF1.out.later hb2); have HZ := Lib.hid hz; clear hb2 hz; have j0 : u2.cell? ⟨W.heap.size, 0, none⟩ = some (.bool s) := HF2.out.cell 0 0 rfl rfl; have j1 : u2.cell? ⟨W.heap.size, 1, none⟩ = some (.slice ao la ca) := HF2.out.cell 0 1 rfl rfl; have j2 : u2.cell? ⟨W.heap.size + 1, 0, none⟩ = some (.bool s) := HF2.out.cell 1 0 rfl rfl; have j3 : u2.cell? ⟨W.heap.size + 1, 1, none⟩ = some (.slice bo lb cb) := HF2.out.cell 1 1 rfl rfl; have g0 : u2.cell? ⟨W.heap.size + 2, 0, none⟩ = some (.bool false) := HF2.out.cell 2 0 rfl rfl; have g1 : u2.cell? ⟨W.heap.size + 2, 1, none⟩ = some (.slice none 0 0) := HF2.out.cell 2 1 rfl rfl; have g2 : u2.frozen? ⟨W.heap.size + 2, 0, none⟩ = false := HF2.out.frozen 2 0 rfl; have g3 : u2.frozen? ⟨W.heap.size + 2, 1, none⟩ = false := HF2.out.frozen 2 1 rfl))
  go_wp2
  obtain ⟨e0, e1, hz, hbel, _⟩ := HF2.out.finJ (cap := sc) 2 rfl HZ.out
  exact bodyPost_ret (v := .agg #[.bool neg, .slice so sl sc]) (by simp [results, Try.results39, go_sem, e0, e1]) rfl ⟨neg, so, sl, sc, rfl, hlc2, hcm2, hz, hbel⟩

set_option maxHeartbeats 2000000 in
theorem plus16_lt (s : Bool) (ao bo : Option Addr) (la lb ca cb : Nat) (m n : Nat) (W : World) (hm : N16 W ao la m) (hn : N16 W bo lb n) (hla : la ≤ 1000000000) (hlb : lb ≤ 1000000000) (hlt : m < n) :
    Calls Try.prog 39 #[.agg #[.bool s, .slice ao la ca], .agg #[.bool (!s), .slice bo lb cb]] W (OutJ W (sgn (!s) (n - m))) := by
  have hf : Fr W (((W.alloc (.cells #[.bool s, .slice ao la ca] 28)).alloc (.cells #[.bool (!s), .slice bo lb cb] 28)).alloc (.cells #[.bool false, .slice none 0 0] 28))
      [(28, #[.bool s, .slice ao la ca]), (28, #[.bool (!s), .slice bo lb cb]), (28, #[.bool false, .slice none 0 0])] :=
    (((Fr.nil W).alloc rfl _ _).alloc (by simp) _ _).alloc (by simp) _ _
  have HM := Lib.hid (hm.keep hf.below)
  have HN := Lib.hid (hn.keep hf.below)
  clear hm hn
  have hbb : (s == !s) = false := by cases s <;> rfl
  go_enter Try.func39, Try.ntmps39
  go_wp2_with fail
  obtain ⟨W3, hW3⟩ : ∃ W3, W3 = ((W.alloc (.cells #[.bool s, .slice ao la ca] 28)).alloc (.cells #[.bool (!s), .slice bo lb cb] 28)).alloc (.cells #[.bool false, .slice none 0 0] 28) := ⟨_, rfl⟩
  rw [← hW3] at hf HM HN ⊢
  clear hW3
  have HF0 := Lib.hid hf
  clear hf
  have c0 : W3.cell? ⟨W.heap.size, 0, none⟩ = some (.bool s) := HF0.out.cell 0 0 rfl rfl
  have c1 : W3.cell? ⟨W.heap.size, 1, none⟩ = some (.slice ao la ca) := HF0.out.cell 0 1 rfl rfl
  have c2 : W3.cell? ⟨W.heap.size + 1, 0, none⟩ = some (.bool (!s)) := HF0.out.cell 1 0 rfl rfl
  have c3 : W3.cell? ⟨W.heap.size + 1, 1, none⟩ = some (.slice bo lb cb) := HF0.out.cell 1 1 rfl rfl
  go_wp2_with fail
  refine (cmp16_any _ _ _ _ _ _ m n W3 HM.out HN.out hla hlb).mono ?_
  rintro e w1 ⟨rfl, hdr⟩
  rw [cmpN_lt hlt]
  have HF := Lib.hid (HF0.out.later hdr.below)
  have HM1 := Lib.hid (HM.out.keep hdr.below)
  have HN1 := Lib.hid (HN.out.keep hdr.below)
  clear hdr c0 c1 c2 c3
  have d0 : w1.cell? ⟨W.heap.size, 0, none⟩ = some (.bool s) := HF.out.cell 0 0 rfl rfl
  have d1 : w1.cell? ⟨W.heap.size, 1, none⟩ = some (.slice ao la ca) := HF.out.cell 0 1 rfl rfl
  have d2 : w1.cell? ⟨W.heap.size + 1, 0, none⟩ = some (.bool (!s)) := HF.out.cell 1 0 rfl rfl
  have d3 : w1.cell? ⟨W.heap.size + 1, 1, none⟩ = some (.slice bo lb cb) := HF.out.cell 1 1 rfl rfl
  go_wp2_with fail
  go_region_held3 (fun w' => w'.cell? ⟨W.heap.size, 0, none⟩ = some (.bool s) ∧ w'.cell? ⟨W.heap.size, 1, none⟩ = some (.slice ao la ca) ∧ w'.cell? ⟨W.heap.size + 1, 0, none⟩ = some (.bool (!s)) ∧ w'.cell? ⟨W.heap.size + 1, 1, none⟩ = some (.slice bo lb cb)) (first | (go_keep; done) | ((try dsimp only); (repeat' apply And.intro) <;> (first | (go_keep; done) | (rw [cell_set2 _ _ _ _ _ _ (by omega)]; assumption))))
    (first | (go_at_call 77; refine (sub16_any _ _ _ _ _ _ n m w1.drew HN1.out HM1.out hlb (Nat.le_of_lt hlt)).mono ?_; rintro e u1 ⟨po, pl, pc, rfl, hlc1, hcm1, hp, hb1⟩; have HB1 := Lib.hid (below_of_drew hb1); have HP := Lib.hid hp; have HF1 := Lib.hid (HF.out.later HB1.out); clear hb1 hp; have k0 : u1.cell? ⟨W.heap.size, 0, none⟩ = some (.bool s) := HF1.out.cell 0 0 rfl rfl; have k1 : u1.cell? ⟨W.heap.size, 1, none⟩ = some (.slice ao la ca) := HF1.out.cell 0 1 rfl rfl; have k2 : u1.cell? ⟨W.heap.size + 1, 0, none⟩ = some (.bool (!s)) := HF1.out.cell 1 0 rfl rfl; have k3 : u1.cell? ⟨W.heap.size + 1, 1, none⟩ = some (.slice bo lb cb) := HF1.out.cell 1 1 rfl rfl) | (go_at_call 64; refine (made_any (!s) _ _ _ (n - m) _ HP.out hlc1 hcm1).mono ?_; rintro e u2 ⟨neg, so, sl, sc, rfl, hlc2, hcm2, hz, hb2⟩; have HF2 := Lib.hid (HF1.out.later hb2); have HZ := Lib.hid hz; clear hb2 hz; have j0 : u2.cell? ⟨W.heap.size, 0, none⟩ = some (.bool s) := HF2.out.cell 0 0 rfl rfl; have j1 : u2.cell? ⟨W.heap.size, 1, none⟩ = some (.slice ao la ca) := HF2.out.cell 0 1 rfl rfl; have j2 : u2.cell? ⟨W.heap.size + 1, 0, none⟩ = some (.bool (!s)) := HF2.out.cell 1 0 rfl rfl; have j3 : u2.cell? ⟨W.heap.size + 1, 1, none⟩ = some (.slice bo lb cb) := HF2.out.cell 1 1 rfl rfl; have g0 : u2.cell? ⟨W.heap.size + 2, 0, none⟩ = some (.bool false) := HF2.out.cell 2 0 rfl rfl; have g1 : u2.cell? ⟨W.heap.size + 2, 1, none⟩ = some (.slice none 0 0) := HF2.out.cell 2 1 rfl rfl; have g2 : u2.frozen? ⟨W.heap.size + 2, 0, none⟩ = false := HF2.out.frozen 2 0 rfl; have g3 : u2.frozen? ⟨W.heap.size + 2, 1, none⟩ = false := HF2.out.frozen 2 1 rfl))
  go_wp2
  obtain ⟨e0, e1, hz, hbel, _⟩ := HF2.out.finJ (cap := sc) 2 rfl HZ.out
  exact bodyPost_ret (v := .agg #[.bool neg, .slice so sl sc]) (by simp [results, Try.results39, go_sem, e0, e1]) rfl ⟨neg, so, sl, sc, rfl, hlc2, hcm2, hz, hbel⟩

set_option maxHeartbeats 2000000 in
theorem plus16_ge (s : Bool) (ao bo : Option Addr) (la lb ca cb : Nat) (m n : Nat) (W : World) (hm : N16 W ao la m) (hn : N16 W bo lb n) (hla : la ≤ 1000000000) (hlb : lb ≤ 1000000000) (hlt : n ≤ m) :
    Calls Try.prog 39 #[.agg #[.bool s, .slice ao la ca], .agg #[.bool (!s), .slice bo lb cb]] W (OutJ W (sgn s (m - n))) := by
  have hf : Fr W (((W.alloc (.cells #[.bool s, .slice ao la ca] 28)).alloc (.cells #[.bool (!s), .slice bo lb cb] 28)).alloc (.cells #[.bool false, .slice none 0 0] 28))
      [(28, #[.bool s, .slice ao la ca]), (28, #[.bool (!s), .slice bo lb cb]), (28, #[.bool false, .slice none 0 0])] :=
    (((Fr.nil W).alloc rfl _ _).alloc (by simp) _ _).alloc (by simp) _ _
  have HM := Lib.hid (hm.keep hf.below)
  have HN := Lib.hid (hn.keep hf.below)
  clear hm hn
  have hbb : (s == !s) = false := by cases s <;> rfl
  go_enter Try.func39, Try.ntmps39
  go_wp2_with fail
  obtain ⟨W3, hW3⟩ : ∃ W3, W3 = ((W.alloc (.cells #[.bool s, .slice ao la ca] 28)).alloc (.cells #[.bool (!s), .slice bo lb cb] 28)).alloc (.cells #[.bool false, .slice none 0 0] 28) := ⟨_, rfl⟩
  rw [← hW3] at hf HM HN ⊢
  clear hW3
  have HF0 := Lib.hid hf
  clear hf
  have c0 : W3.cell? ⟨W.heap.size, 0, none⟩ = some (.bool s) := HF0.out.cell 0 0 rfl rfl
  have c1 : W3.cell? ⟨W.heap.size, 1, none⟩ = some (.slice ao la ca) := HF0.out.cell 0 1 rfl rfl
  have c2 : W3.cell? ⟨W.heap.size + 1, 0, none⟩ = some (.bool (!s)) := HF0.out.cell 1 0 rfl rfl
  have c3 : W3.cell? ⟨W.heap.size + 1, 1, none⟩ = some (.slice bo lb cb) := HF0.out.cell 1 1 rfl rfl
  go_wp2_with fail
  refine (cmp16_any _ _ _ _ _ _ m n W3 HM.out HN.out hla hlb).mono ?_
  rintro e w1 ⟨rfl, hdr⟩
  obtain ⟨z, hz⟩ : ∃ z, z = cmpN m n := ⟨_, rfl⟩
  rw [← hz]
  have tz : 0 ≤ z := by rw [hz]; unfold cmpN; rw [if_neg (by omega)]; split <;> decide
  have tn : ¬ z < 0 := by omega
  clear hz
  have HF := Lib.hid (HF0.out.later hdr.below)
  have HM1 := Lib.hid (HM.out.keep hdr.below)
  have HN1 := Lib.hid (HN.out.keep hdr.below)
  clear hdr c0 c1 c2 c3
  have d0 : w1.cell? ⟨W.heap.size, 0, none⟩ = some (.bool s) := HF.out.cell 0 0 rfl rfl
  have d1 : w1.cell? ⟨W.heap.size, 1, none⟩ = some (.slice ao la ca) := HF.out.cell 0 1 rfl rfl
  have d2 : w1.cell? ⟨W.heap.size + 1, 0, none⟩ = some (.bool (!s)) := HF.out.cell 1 0 rfl rfl
  have d3 : w1.cell? ⟨W.heap.size + 1, 1, none⟩ = some (.slice bo lb cb) := HF.out.cell 1 1 rfl rfl
  go_wp2_with fail
  go_region_held3 (fun w' => w'.cell? ⟨W.heap.size, 0, none⟩ = some (.bool s) ∧ w'.cell? ⟨W.heap.size, 1, none⟩ = some (.slice ao la ca) ∧ w'.cell? ⟨W.heap.size + 1, 0, none⟩ = some (.bool (!s)) ∧ w'.cell? ⟨W.heap.size + 1, 1, none⟩ = some (.slice bo lb cb)) (first | (go_keep; done) | ((try dsimp only); (repeat' apply And.intro) <;> (first | (go_keep; done) | (rw [cell_set2 _ _ _ _ _ _ (by omega)]; assumption))))
    (first | (go_at_call 77; refine (sub16_any _ _ _ _ _ _ m n w1.drew HM1.out HN1.out hla hlt).mono ?_; rintro e u1 ⟨po, pl, pc, rfl, hlc1, hcm1, hp, hb1⟩; have HB1 := Lib.hid (below_of_drew hb1); have HP := Lib.hid hp; have HF1 := Lib.hid (HF.out.later HB1.out); clear hb1 hp; have k0 : u1.cell? ⟨W.heap.size, 0, none⟩ = some (.bool s) := HF1.out.cell 0 0 rfl rfl; have k1 : u1.cell? ⟨W.heap.size, 1, none⟩ = some (.slice ao la ca) := HF1.out.cell 0 1 rfl rfl; have k2 : u1.cell? ⟨W.heap.size + 1, 0, none⟩ = some (.bool (!s)) := HF1.out.cell 1 0 rfl rfl; have k3 : u1.cell? ⟨W.heap.size + 1, 1, none⟩ = some (.slice bo lb cb) := HF1.out.cell 1 1 rfl rfl) | (go_at_call 64; refine (made_any s _ _ _ (m - n) _ HP.out hlc1 hcm1).mono ?_; rintro e u2 ⟨neg, so, sl, sc, rfl, hlc2, hcm2, hz, hb2⟩; have HF2 := Lib.hid (HF1.out.later hb2); have HZ := Lib.hid hz; clear hb2 hz; have j0 : u2.cell? ⟨W.heap.size, 0, none⟩ = some (.bool s) := HF2.out.cell 0 0 rfl rfl; have j1 : u2.cell? ⟨W.heap.size, 1, none⟩ = some (.slice ao la ca) := HF2.out.cell 0 1 rfl rfl; have j2 : u2.cell? ⟨W.heap.size + 1, 0, none⟩ = some (.bool (!s)) := HF2.out.cell 1 0 rfl rfl; have j3 : u2.cell? ⟨W.heap.size + 1, 1, none⟩ = some (.slice bo lb cb) := HF2.out.cell 1 1 rfl rfl; have g0 : u2.cell? ⟨W.heap.size + 2, 0, none⟩ = some (.bool false) := HF2.out.cell 2 0 rfl rfl; have g1 : u2.cell? ⟨W.heap.size + 2, 1, none⟩ = some (.slice none 0 0) := HF2.out.cell 2 1 rfl rfl; have g2 : u2.frozen? ⟨W.heap.size + 2, 0, none⟩ = false := HF2.out.frozen 2 0 rfl; have g3 : u2.frozen? ⟨W.heap.size + 2, 1, none⟩ = false := HF2.out.frozen 2 1 rfl))
  go_wp2
  obtain ⟨e0, e1, hz, hbel, _⟩ := HF2.out.finJ (cap := sc) 2 rfl HZ.out
  exact bodyPost_ret (v := .agg #[.bool neg, .slice so sl sc]) (by simp [results, Try.results39, go_sem, e0, e1]) rfl ⟨neg, so, sl, sc, rfl, hlc2, hcm2, hz, hbel⟩

theorem plus16_any (na nb : Bool) (ao bo : Option Addr) (la lb ca cb : Nat) (x y : Int) (W : World) (ha : Z16 W na ao la x) (hb : Z16 W nb bo lb y) (hla : la ≤ 1000000000) (hlb : lb ≤ 1000000000) :
    Calls Try.prog 39 #[.agg #[.bool na, .slice ao la ca], .agg #[.bool nb, .slice bo lb cb]] W (OutJ W (x + y)) := by
  obtain ⟨m, hm, rfl, hpm⟩ := ha
  obtain ⟨n, hn, rfl, hpn⟩ := hb
  by_cases h : na = nb
  · subst h
    rw [sgn_add]
    exact plus16_same na ao bo la lb ca cb m n W hm hn hla hlb
  · obtain rfl : nb = !na := by cases na <;> cases nb <;> simp_all
    rcases Nat.lt_or_ge m n with hlt | hlt
    · rw [sgn_lt na hlt]
      exact plus16_lt na ao bo la lb ca cb m n W hm hn hla hlb hlt
    · rw [sgn_ge na hlt]
      exact plus16_ge na ao bo la lb ca cb m n W hm hn hla hlb hlt
end Go.Proofs.Ytdnnjjclklcihaa

/- The specification: Opp, Sub, Cmp. -/
set_option linter.unusedVariables false
namespace Go.Proofs.Ytdnnjjclklcihaa
open Go.RowKit

theorem sgn_neg (s : Bool) (n : Nat) : -sgn s n = sgn (!s) n := by cases s <;> simp [sgn]

set_option maxHeartbeats 800000 in
theorem opp16_any (neg : Bool) (ao : Option Addr) (len cap : Nat) (z : Int) (W : World) (h : Z16 W neg ao len z) (hlc : len ≤ cap) (hcm : cap ≤ 9223372036854775807) :
    Calls Try.prog 33 #[.agg #[.bool neg, .slice ao len cap]] W (OutJ W (-z)) := by
  have hf : Fr W ((W.alloc (.cells #[.bool neg, .slice ao len cap] 28)).alloc (.cells #[.bool false, .slice none 0 0] 28))
      [(28, #[.bool neg, .slice ao len cap]), (28, #[.bool false, .slice none 0 0])] := ((Fr.nil W).alloc rfl _ _).alloc (by simp) _ _
  obtain ⟨n, hn, rfl, hp⟩ := h
  have HF := Lib.hid hf
  have HN := Lib.hid (hn.keep hf.below)
  clear hf hn hp
  rw [sgn_neg]
  go_enter Try.func33, Try.ntmps33
  go_wp2_with fail
  refine (made_any (!neg) _ _ _ n _ HN.out hlc hcm).mono ?_
  rintro e w1 ⟨s1, uo, ul, uc, rfl, huc, hum, hz1, hb1⟩
  have HF1 := Lib.hid (HF.out.later hb1)
  have HZ1 := Lib.hid hz1
  clear hz1 hb1
  have g0 : w1.cell? ⟨W.heap.size + 1, 0, none⟩ = some (.bool false) := HF1.out.cell 1 0 rfl rfl
  have g1 : w1.cell? ⟨W.heap.size + 1, 1, none⟩ = some (.slice none 0 0) := HF1.out.cell 1 1 rfl rfl
  have g2 : w1.frozen? ⟨W.heap.size + 1, 0, none⟩ = false := HF1.out.frozen 1 0 rfl
  have g3 : w1.frozen? ⟨W.heap.size + 1, 1, none⟩ = false := HF1.out.frozen 1 1 rfl
  go_wp2
  obtain ⟨e0, e1, hz, hbel, _⟩ := HF1.out.finJ (cap := uc) 1 rfl HZ1.out
  exact bodyPost_ret (v := .agg #[.bool s1, .slice uo ul uc]) (by simp [results, Try.results33, go_sem, e0, e1]) rfl ⟨s1, uo, ul, uc, rfl, huc, hum, hz, hbel⟩

set_option maxHeartbeats 2000000 in
theorem subZ16_any (na nb : Bool) (ao bo : Option Addr) (la lb ca cb : Nat) (x y : Int) (W : World) (ha : Z16 W na ao la x) (hb : Z16 W nb bo lb y) (hla : la ≤ 1000000000) (hlb : lb ≤ 1000000000) (hlc : lb ≤ cb) (hcm : cb ≤ 9223372036854775807) :
    Calls Try.prog 40 #[.agg #[.bool na, .slice ao la ca], .agg #[.bool nb, .slice bo lb cb]] W (OutJ W (x - y)) := by
  have hf : Fr W (((W.alloc (.cells #[.bool na, .slice ao la ca] 28)).alloc (.cells #[.bool nb, .slice bo lb cb] 28)).alloc (.cells #[.bool false, .slice none 0 0] 28))
      [(28, #[.bool na, .slice ao la ca]), (28, #[.bool nb, .slice bo lb cb]), (28, #[.bool false, .slice none 0 0])] :=
    (((Fr.nil W).alloc rfl _ _).alloc (by simp) _ _).alloc (by simp) _ _
  have HA := Lib.hid (ha.keep hf.below)
  have HB := Lib.hid (hb.keep hf.below)
  have HLT := Lib.hid hb.n16.lt
  clear ha hb
  rw [show x - y = x + -y from rfl]
  go_enter Try.func40, Try.ntmps40
  go_wp2_with fail
  obtain ⟨W3, hW3⟩ : ∃ W3, W3 = ((W.alloc (.cells #[.bool na, .slice ao la ca] 28)).alloc (.cells #[.bool nb, .slice bo lb cb] 28)).alloc (.cells #[.bool false, .slice none 0 0] 28) := ⟨_, rfl⟩
  rw [← hW3] at hf HA HB ⊢
  clear hW3
  have HF := Lib.hid hf
  clear hf
  have c0 : W3.cell? ⟨W.heap.size, 0, none⟩ = some (.bool na) := HF.out.cell 0 0 rfl rfl
  have c1 : W3.cell? ⟨W.heap.size, 1, none⟩ = some (.slice ao la ca) := HF.out.cell 0 1 rfl rfl
  have c2 : W3.cell? ⟨W.heap.size + 1, 0, none⟩ = some (.bool nb) := HF.out.cell 1 0 rfl rfl
  have c3 : W3.cell? ⟨W.heap.size + 1, 1, none⟩ = some (.slice bo lb cb) := HF.out.cell 1 1 rfl rfl
  go_region_held3 (fun w' => w'.cell? ⟨W.heap.size, 0, none⟩ = some (.bool na) ∧ w'.cell? ⟨W.heap.size, 1, none⟩ = some (.slice ao la ca) ∧ w'.cell? ⟨W.heap.size + 1, 0, none⟩ = some (.bool nb) ∧ w'.cell? ⟨W.heap.size + 1, 1, none⟩ = some (.slice bo lb cb)) (first | (go_keep; done) | ((try dsimp only); (repeat' apply And.intro) <;> (first | (go_keep; done) | (rw [cell_set2 _ _ _ _ _ _ (by omega)]; assumption))))
    (first | (go_at_call 33; refine (opp16_any _ _ _ _ y W3.drew (HB.out.keep ((Below.refl _ _).drew)) hlc hcm).mono ?_; rintro e u1 ⟨s1, po, pl, pc, rfl, hlc1, hcm1, hp, hb1⟩; have HB1 := Lib.hid (below_of_drew hb1); have HP := Lib.hid hp; have HF1 := Lib.hid (HF.out.later HB1.out); have HA1 := Lib.hid (HA.out.keep HB1.out); have hpl : pl ≤ 1000000000 := (by have h5 := HLT.out; have h6 := hp.n16; rw [Int.natAbs_neg] at h6; exact Nat.le_trans (h6.len_le h5) hlb); clear hb1 hp; have k0 : u1.cell? ⟨W.heap.size, 0, none⟩ = some (.bool na) := HF1.out.cell 0 0 rfl rfl; have k1 : u1.cell? ⟨W.heap.size, 1, none⟩ = some (.slice ao la ca) := HF1.out.cell 0 1 rfl rfl; have k2 : u1.cell? ⟨W.heap.size + 1, 0, none⟩ = some (.bool nb) := HF1.out.cell 1 0 rfl rfl; have k3 : u1.cell? ⟨W.heap.size + 1, 1, none⟩ = some (.slice bo lb cb) := HF1.out.cell 1 1 rfl rfl) | (go_at_call 39; refine (plus16_any _ _ _ _ _ _ _ _ x (-y) _ HA1.out HP.out hla hpl).mono ?_; rintro e u2 ⟨neg, so, sl, sc, rfl, hlc2, hcm2, hz, hb2⟩; have HF2 := Lib.hid (HF1.out.later hb2); have HZ := Lib.hid hz; clear hb2 hz; have j0 : u2.cell? ⟨W.heap.size, 0, none⟩ = some (.bool na) := HF2.out.cell 0 0 rfl rfl; have j1 : u2.cell? ⟨W.heap.size, 1, none⟩ = some (.slice ao la ca) := HF2.out.cell 0 1 rfl rfl; have j2 : u2.cell? ⟨W.heap.size + 1, 0, none⟩ = some (.bool nb) := HF2.out.cell 1 0 rfl rfl; have j3 : u2.cell? ⟨W.heap.size + 1, 1, none⟩ = some (.slice bo lb cb) := HF2.out.cell 1 1 rfl rfl; have g0 : u2.cell? ⟨W.heap.size + 2, 0, none⟩ = some (.bool false) := HF2.out.cell 2 0 rfl rfl; have g1 : u2.cell? ⟨W.heap.size + 2, 1, none⟩ = some (.slice none 0 0) := HF2.out.cell 2 1 rfl rfl; have g2 : u2.frozen? ⟨W.heap.size + 2, 0, none⟩ = false := HF2.out.frozen 2 0 rfl; have g3 : u2.frozen? ⟨W.heap.size + 2, 1, none⟩ = false := HF2.out.frozen 2 1 rfl))
  go_wp2
  obtain ⟨e0, e1, hz, hbel, _⟩ := HF2.out.finJ (cap := sc) 2 rfl HZ.out
  exact bodyPost_ret (v := .agg #[.bool neg, .slice so sl sc]) (by simp [results, Try.results40, go_sem, e0, e1]) rfl ⟨neg, so, sl, sc, rfl, hlc2, hcm2, hz, hbel⟩

set_option maxHeartbeats 800000 in
theorem cmpZ16_any (na nb : Bool) (ao bo : Option Addr) (la lb ca cb : Nat) (x y : Int) (W : World) (ha : Z16 W na ao la x) (hb : Z16 W nb bo lb y) (hla : la ≤ 1000000000) (hlb : lb ≤ 1000000000) (hlc : lb ≤ cb) (hcm : cb ≤ 9223372036854775807) :
    Calls Try.prog 38 #[.agg #[.bool na, .slice ao la ca], .agg #[.bool nb, .slice bo lb cb]] W (fun e w' => e = .returned (.int .i64 (x - y).sign) ∧ Below W.heap.size W w') := by
  have hf : Fr W ((W.alloc (.cells #[.bool na, .slice ao la ca] 28)).alloc (.cells #[.bool nb, .slice bo lb cb] 28))
      [(28, #[.bool na, .slice ao la ca]), (28, #[.bool nb, .slice bo lb cb])] := ((Fr.nil W).alloc rfl _ _).alloc (by simp) _ _
  have HA := Lib.hid (ha.keep hf.below)
  have HB := Lib.hid (hb.keep hf.below)
  have HF := Lib.hid hf
  clear ha hb hf
  go_enter Try.func38, Try.ntmps38
  go_wp2_with fail
  refine (subZ16_any _ _ _ _ _ _ _ _ x y _ HA.out HB.out hla hlb hlc hcm).mono ?_
  rintro e w1 ⟨s1, uo, ul, uc, rfl, huc, hum, hz1, hb1⟩
  have HF1 := Lib.hid (HF.out.later hb1)
  have HZ1 := Lib.hid hz1
  clear hz1 hb1
  go_wp2_with fail
  refine (sign16_any _ _ _ _ (x - y) _ HZ1.out).mono ?_
  rintro e w2 ⟨rfl, hb2⟩
  have HF2 := Lib.hid (HF1.out.later hb2)
  clear hb2
  go_wp2
  go_ret
  exact ⟨rfl, HF2.out.below⟩
end Go.Proofs.Ytdnnjjclklcihaa

/- Of, Num, Floor of fractions; the specification's Whole and Text of a fraction. -/
set_option linter.unusedVariables false
namespace Go.Proofs.Ytdnnjjclklcihaa
open Go.RowKit

set_option maxHeartbeats 800000 in
theorem ratOf_any (z : Int) (W : World) (h1 : -9223372036854775808 ≤ z) (h2 : z ≤ 9223372036854775807) :
    Calls Try.prog 47 #[.int .i64 z] W (OutQ W z 1) := by
  have hf : Fr W (W.alloc (.cells #[.bool false, .slice none 0 0, .slice none 0 0] 67)) [(67, #[.bool false, .slice none 0 0, .slice none 0 0])] := (Fr.nil W).alloc rfl _ _
  have HF := Lib.hid hf
  clear hf
  go_enter Try.func47, Try.ntmps47
  go_wp2_with fail
  refine (new_any z _ h1 h2).mono ?_
  rintro e w1 ⟨neg, uo, ul, uc, rfl, hz, hb1⟩
  have HF1 := Lib.hid (HF.out.later hb1)
  have hq : Q32 w1 neg uo ul none 0 z 1 := ⟨hz, .inl ⟨rfl, rfl⟩⟩
  have HQ := Lib.hid hq
  clear hz hb1 hq
  have g0 : w1.cell? ⟨W.heap.size, 0, none⟩ = some (.bool false) := HF1.out.cell 0 0 rfl rfl
  have g1 : w1.cell? ⟨W.heap.size, 1, none⟩ = some (.slice none 0 0) := HF1.out.cell 0 1 rfl rfl
  have g5 : w1.cell? ⟨W.heap.size, 2, none⟩ = some (.slice none 0 0) := HF1.out.cell 0 2 rfl rfl
  have g2 : w1.frozen? ⟨W.heap.size, 0, none⟩ = false := HF1.out.frozen 0 0 rfl
  have g3 : w1.frozen? ⟨W.heap.size, 1, none⟩ = false := HF1.out.frozen 0 1 rfl
  have g4 : w1.frozen? ⟨W.heap.size, 2, none⟩ = false := HF1.out.frozen 0 2 rfl
  go_wp2
  obtain ⟨e0, e1, e2, hz, hbel⟩ := HF1.out.finQ (cap := uc) (bc := 0) 0 rfl HQ.out
  exact bodyPost_ret (v := .agg #[.bool neg, .slice uo ul uc, .slice none 0 0]) (by simp only [Nat.add_zero] at e0 e1 e2; simp [results, Try.results47, go_sem, e0, e1, e2]) rfl ⟨neg, uo, ul, uc, none, 0, 0, rfl, hz, hbel⟩

set_option maxHeartbeats 1000000 in
theorem ratNum_any (na : Bool) (ao bo : Option Addr) (la lb ca cb : Nat) (p : Int) (q : Nat) (W : World) (h : Q32 W na ao la bo lb p q) (hla : la ≤ 1000000000) :
    Calls Try.prog 51 #[.agg #[.bool na, .slice ao la ca, .slice bo lb cb]] W (OutI W p) := by
  have hf : Fr W ((W.alloc (.cells #[.bool na, .slice ao la ca, .slice bo lb cb] 67)).alloc (.cells #[.bool false, .slice none 0 0] 24))
      [(67, #[.bool na, .slice ao la ca, .slice bo lb cb]), (24, #[.bool false, .slice none 0 0])] :=
    ((Fr.nil W).alloc rfl _ _).alloc (by simp) _ _
  obtain ⟨n, hn, rfl, hp⟩ := (h.keep hf.below).1
  have HN := Lib.hid hn
  clear h hn hp
  go_enter Try.func51, Try.ntmps51
  go_wp2_with fail
  obtain ⟨W3, hW3⟩ : ∃ W3, W3 = (W.alloc (.cells #[.bool na, .slice ao la ca, .slice bo lb cb] 67)).alloc (.cells #[.bool false, .slice none 0 0] 24) := ⟨_, rfl⟩
  rw [← hW3] at hf HN ⊢
  clear hW3
  have HF := Lib.hid hf
  clear hf
  have c0 : W3.cell? ⟨W.heap.size, 0, none⟩ = some (.bool na) := HF.out.cell 0 0 rfl rfl
  have c1 : W3.cell? ⟨W.heap.size, 1, none⟩ = some (.slice ao la ca) := HF.out.cell 0 1 rfl rfl
  go_region_held3 (fun w' => w'.cell? ⟨W.heap.size, 0, none⟩ = some (.bool na) ∧ w'.cell? ⟨W.heap.size, 1, none⟩ = some (.slice ao la ca)) (first | (go_keep; done) | ((try dsimp only); (repeat' apply And.intro) <;> (first | (go_keep; done) | (rw [cell_set2 _ _ _ _ _ _ (by omega)]; assumption))))
    (first | (go_at_call 79; refine (duplicate_n _ _ _ n W3.drew HN.out hla).mono ?_; rintro e u1 ⟨po, pc, rfl, hp, hb1⟩; have HB1 := Lib.hid (below_of_drew hb1); have HP := Lib.hid hp; have HF1 := Lib.hid (HF.out.later HB1.out); clear hb1 hp; have k0 : u1.cell? ⟨W.heap.size, 0, none⟩ = some (.bool na) := HF1.out.cell 0 0 rfl rfl; have k1 : u1.cell? ⟨W.heap.size, 1, none⟩ = some (.slice ao la ca) := HF1.out.cell 0 1 rfl rfl) | (go_at_call 62; refine (signed_any na _ _ _ n _ HP.out).mono ?_; rintro e u2 ⟨neg, so, sl, sc, rfl, hz, hb2⟩; have HF2 := Lib.hid (HF1.out.later hb2); have HZ := Lib.hid hz; clear hb2 hz; have j0 : u2.cell? ⟨W.heap.size, 0, none⟩ = some (.bool na) := HF2.out.cell 0 0 rfl rfl; have j1 : u2.cell? ⟨W.heap.size, 1, none⟩ = some (.slice ao la ca) := HF2.out.cell 0 1 rfl rfl; have g0 : u2.cell? ⟨W.heap.size + 1, 0, none⟩ = some (.bool false) := HF2.out.cell 1 0 rfl rfl; have g1 : u2.cell? ⟨W.heap.size + 1, 1, none⟩ = some (.slice none 0 0) := HF2.out.cell 1 1 rfl rfl; have g2 : u2.frozen? ⟨W.heap.size + 1, 0, none⟩ = false := HF2.out.frozen 1 0 rfl; have g3 : u2.frozen? ⟨W.heap.size + 1, 1, none⟩ = false := HF2.out.frozen 1 1 rfl))
  go_wp2
  obtain ⟨e0, e1, hz, hbel, _⟩ := HF2.out.finI (cap := sc) 1 rfl HZ.out
  exact bodyPost_ret (v := .agg #[.bool neg, .slice so sl sc]) (by simp [results, Try.results51, go_sem, e0, e1]) rfl ⟨neg, so, sl, sc, rfl, hz, hbel⟩

/-- a fraction of the specification is returned -/
def OutK (W : World) (p : Int) (q : Int) (e : Ending) (w' : World) : Prop :=
  ∃ s1 o1 l1 c1 s2 o2 l2 c2, e = .returned (.agg #[.bool s1, .slice o1 l1 c1, .bool s2, .slice o2 l2 c2]) ∧ l1 ≤ c1 ∧ c1 ≤ 9223372036854775807 ∧ l2 ≤ c2 ∧ c2 ≤ 9223372036854775807 ∧ Z16 w' s1 o1 l1 p ∧ Z16 w' s2 o2 l2 q ∧ Below W.heap.size W w'

theorem Fr.finK {W w : World} {bs : List (Nat × Array Value)} {s1 s2 : Bool} {o1 o2 : Option Addr} {l1 l2 c1 c2 : Nat} {p q : Int} (hf : Fr W w bs) (i : Nat) {T : Nat} {e0 e1 : Bool} {a1 a2 : Option Addr} {m1 m2 d1 d2 : Nat}
    (hi : bs[i]? = some (T, #[.bool e0, .slice a1 m1 d1, .bool e1, .slice a2 m2 d2])) (h1 : Z16 w s1 o1 l1 p) (h2 : Z16 w s2 o2 l2 q) :
    let w' := (((w.setCell ⟨W.heap.size + i, 0, none⟩ (.bool s1)).setCell ⟨W.heap.size + i, 1, none⟩ (.slice o1 l1 c1)).setCell ⟨W.heap.size + i, 2, none⟩ (.bool s2)).setCell ⟨W.heap.size + i, 3, none⟩ (.slice o2 l2 c2)
    w'.cell? ⟨W.heap.size + i, 0, none⟩ = some (.bool s1) ∧ w'.cell? ⟨W.heap.size + i, 1, none⟩ = some (.slice o1 l1 c1) ∧ w'.cell? ⟨W.heap.size + i, 2, none⟩ = some (.bool s2) ∧ w'.cell? ⟨W.heap.size + i, 3, none⟩ = some (.slice o2 l2 c2) ∧
      Z16 w' s1 o1 l1 p ∧ Z16 w' s2 o2 l2 q ∧ Below W.heap.size W w' := by
  have hl := (List.getElem?_eq_some_iff.1 hi).1
  have k1 := hf.set i 0 hi (.bool s1)
  have i1 : (bs.set i (T, #[.bool s1, .slice a1 m1 d1, .bool e1, .slice a2 m2 d2]))[i]? = some (T, #[.bool s1, .slice a1 m1 d1, .bool e1, .slice a2 m2 d2]) := List.getElem?_set_self hl
  have p1 := h1.setFr hf i 0 hi rfl (.bool s1)
  have q1 := h2.setFr hf i 0 hi rfl (.bool s1)
  have k2 := k1.set i 1 i1 (.slice o1 l1 c1)
  have i2 : ((bs.set i (T, #[.bool s1, .slice a1 m1 d1, .bool e1, .slice a2 m2 d2])).set i (T, #[.bool s1, .slice o1 l1 c1, .bool e1, .slice a2 m2 d2]))[i]? = some (T, #[.bool s1, .slice o1 l1 c1, .bool e1, .slice a2 m2 d2]) := List.getElem?_set_self (by simpa using hl)
  have p2 := p1.setFr k1 i 1 i1 rfl (.slice o1 l1 c1)
  have q2 := q1.setFr k1 i 1 i1 rfl (.slice o1 l1 c1)
  have k3 := k2.set i 2 i2 (.bool s2)
  have i3 : (((bs.set i (T, #[.bool s1, .slice a1 m1 d1, .bool e1, .slice a2 m2 d2])).set i (T, #[.bool s1, .slice o1 l1 c1, .bool e1, .slice a2 m2 d2])).set i (T, #[.bool s1, .slice o1 l1 c1, .bool s2, .slice a2 m2 d2]))[i]? = some (T, #[.bool s1, .slice o1 l1 c1, .bool s2, .slice a2 m2 d2]) := List.getElem?_set_self (by simpa using hl)
  have p3 := p2.setFr k2 i 2 i2 rfl (.bool s2)
  have q3 := q2.setFr k2 i 2 i2 rfl (.bool s2)
  have k4 := k3.set i 3 i3 (.slice o2 l2 c2)
  have i4 : ((((bs.set i (T, #[.bool s1, .slice a1 m1 d1, .bool e1, .slice a2 m2 d2])).set i (T, #[.bool s1, .slice o1 l1 c1, .bool e1, .slice a2 m2 d2])).set i (T, #[.bool s1, .slice o1 l1 c1, .bool s2, .slice a2 m2 d2])).set i (T, #[.bool s1, .slice o1 l1 c1, .bool s2, .slice o2 l2 c2]))[i]? = some (T, #[.bool s1, .slice o1 l1 c1, .bool s2, .slice o2 l2 c2]) := List.getElem?_set_self (by simpa using hl)
  have p4 := p3.setFr k3 i 3 i3 rfl (.slice o2 l2 c2)
  have q4 := q3.setFr k3 i 3 i3 rfl (.slice o2 l2 c2)
  exact ⟨k4.cell i 0 i4 rfl, k4.cell i 1 i4 rfl, k4.cell i 2 i4 rfl, k4.cell i 3 i4 rfl, p4, q4, k4.below⟩

set_option maxHeartbeats 800000 in
theorem whole_any (z : Int) (W : World) (h1 : -9223372036854775808 ≤ z) (h2 : z ≤ 9223372036854775807) :
    Calls Try.prog 49 #[.int .i64 z] W (OutK W z 1) := by
  have hf : Fr W (W.alloc (.cells #[.bool false, .slice none 0 0, .bool false, .slice none 0 0] 70)) [(70, #[.bool false, .slice none 0 0, .bool false, .slice none 0 0])] := (Fr.nil W).alloc rfl _ _
  have HF := Lib.hid hf
  clear hf
  go_enter Try.func49, Try.ntmps49
  go_wp2_with fail
  refine (refOf_any z _ h1 h2).mono ?_
  rintro e w1 ⟨s1, o1, l1, c1, rfl, hlc1, hcm1, hz1, hb1⟩
  have HF1 := Lib.hid (HF.out.later hb1)
  have HZ1 := Lib.hid hz1
  clear hz1 hb1
  go_wp2_with fail
  refine (refOf_any 1 _ (by omega) (by omega)).mono ?_
  rintro e w2 ⟨s2, o2, l2, c2, rfl, hlc2, hcm2, hz2, hb2⟩
  have HF2 := Lib.hid (HF1.out.later hb2)
  have HZ2 := Lib.hid hz2
  have HY := Lib.hid (HZ1.out.keep hb2)
  clear hz2 hb2
  have g0 : w2.cell? ⟨W.heap.size, 0, none⟩ = some (.bool false) := HF2.out.cell 0 0 rfl rfl
  have g1 : w2.cell? ⟨W.heap.size, 1, none⟩ = some (.slice none 0 0) := HF2.out.cell 0 1 rfl rfl
  have g2 : w2.cell? ⟨W.heap.size, 2, none⟩ = some (.bool false) := HF2.out.cell 0 2 rfl rfl
  have g3 : w2.cell? ⟨W.heap.size, 3, none⟩ = some (.slice none 0 0) := HF2.out.cell 0 3 rfl rfl
  have g4 : w2.frozen? ⟨W.heap.size, 0, none⟩ = false := HF2.out.frozen 0 0 rfl
  have g5 : w2.frozen? ⟨W.heap.size, 1, none⟩ = false := HF2.out.frozen 0 1 rfl
  have g6 : w2.frozen? ⟨W.heap.size, 2, none⟩ = false := HF2.out.frozen 0 2 rfl
  have g7 : w2.frozen? ⟨W.heap.size, 3, none⟩ = false := HF2.out.frozen 0 3 rfl
  go_wp2
  obtain ⟨e0, e1, e2, e3, hp, hq, hbel⟩ := HF2.out.finK (c1 := c1) (c2 := c2) 0 rfl HY.out HZ2.out
  exact bodyPost_ret (v := .agg #[.bool s1, .slice o1 l1 c1, .bool s2, .slice o2 l2 c2]) (by simp only [Nat.add_zero] at e0 e1 e2 e3; simp [results, Try.results49, go_sem, e0, e1, e2, e3]) rfl ⟨s1, o1, l1, c1, s2, o2, l2, c2, rfl, hlc1, hcm1, hlc2, hcm2, hp, hq, hbel⟩
end Go.Proofs.Ytdnnjjclklcihaa
