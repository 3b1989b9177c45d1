/- Part 7 of the contracts: Raw, RefI, Post, ArgRaw, Facts, Plan, Plan2, TwoOf, Law5. -/
import Derived.ProofKit
import Derived.Carry
import Derived.Lib.SmallJoins
import Derived.OpenShut
import Derived.Test.YtcgnmihabkgecaaPart6

/- The specification's raw, Raw; the laws' helper of. -/
set_option linter.unusedVariables false
namespace Go.Proofs.Ytcgnmihabkgecaa
open Go.RowKit

def RawRel (la most : Nat) (xs : List Nat) (W : World) (ov iv : Value) (wr : World) : Prop :=
  ∃ i : Nat, iv = .int .i64 (i : Int) ∧ Own .i64 wr W.heap.size 3 ov i (xs.take i) ∧ i ≤ la ∧ i ≤ most ∧ Below W.heap.size W wr

theorem raw_end {la most i : Nat} {xs : List Nat} (hx : xs.length = la) (h : i = la ∨ i = most) (h1 : i ≤ la) (h2 : i ≤ most) : xs.take i = xs.take most := by
  rcases h with rfl | rfl
  · rw [List.take_of_length_le (by omega), List.take_of_length_le (by omega)]
  · rfl

set_option maxHeartbeats 1000000 in
theorem raw_any (ao : Option Addr) (la ca : Nat) (xs : List Nat) (K : Int) (most : Nat) (W : World) (hs : Sl .u16 W ao la xs) (hd : Dig B16 xs) (hK : K = (most : Int)) (hm : most ≤ 1000000) (hla : la ≤ 9223372036854775807) :
    Calls Try.prog 45 #[.slice ao la ca, .int .i64 K] W (Out16 W (val B16 (xs.take most))) := by
  subst hK
  have HS := Lib.hid hs
  have HD := Lib.hid hd
  have HLX := Lib.hid hs.len
  clear hs hd
  go_enter Try.func45, Try.ntmps45
  go_wp2
  go_loopw [5, 6] (fun ov iv wr => RawRel la most xs W ov iv wr) (fun ov iv _ => la - (intOf iv).toNat)
  case atStart => exact ⟨0, rfl, Own.nil _ _ _ _, by omega, by omega, Below.refl _ _⟩
  case round =>
    obtain ⟨i, rfl, hown, hil, him, hbel⟩ := hrel
    have GO := Lib.hid hown
    have GW := Lib.hid hbel
    clear hown hbel
    by_cases h1 : i < la
    · by_cases h2 : i < most
      · have t1 : (i : Int) < (la : Int) := by omega
        have t2 : (i : Int) < (most : Int) := by omega
        have t0 : (0 : Int) ≤ (i : Int) := by omega
        have hx := HD.out.get B16_pos i
        obtain ⟨x, hxe⟩ : ∃ x, x = xs[i]?.getD 0 := ⟨_, rfl⟩
        rw [← hxe] at hx
        rw [B16_eq] at hx
        obtain ⟨hxl, b, off, h0, hcc⟩ := HS.out.keep GW.out
        obtain rfl := h0 (by omega)
        have hci := hcc i (by omega)
        rw [← hxe] at hci
        have HX := Lib.hid hxe
        clear hxe hxl h0 hcc
        go_wp2_with (at_builtin; refine wpList_app rfl _ _ 30 rfl W.heap.size 3 .i64 8 Try.underlying30 (by kernel_rfl) _ i (xs.take i) rfl GO.out _ x rfl rfl (by omega) (by omega) GW.out.size ?_; intro v' w2 hown' hbel')
        go_roundw
        case rel =>
          refine ⟨i + 1, by go_num, ?_, by omega, by omega, GW.out.trans hbel'⟩
          rw [List.take_succ_eq_append_getElem (by rw [HLX.out]; omega)]
          have : xs[i]'(by rw [HLX.out]; omega) = x := by rw [HX.out, List.getElem?_eq_getElem (by rw [HLX.out]; omega)]; rfl
          rw [this]
          exact hown'
        case measure => simp only [intOf]; omega
      · have t1 : (i : Int) < (la : Int) := by omega
        have t2 : ¬ (i : Int) < (most : Int) := by omega
        obtain ⟨oo, cap, rfl, hlc, hcm, hsl⟩ := GO.out.sl
        have HSL := Lib.hid hsl
        have HE := Lib.hid (raw_end HLX.out (.inr (by omega)) hil him)
        clear hsl
        go_wp2_with fail
        refine (trim16_raw _ _ _ (xs.take i) _ HSL.out hlc hcm).mono ?_
        rintro e w1 ⟨⟨ao', k, rfl, hk, ha', ht, hz⟩, rfl⟩
        have HT := Lib.hid ht
        have HZ := Lib.hid hz
        have HAA := Lib.hid ha'
        clear ht hz ha'
        go_wp2
        go_ret
        exact ⟨ao', k, cap, rfl, by omega, hcm, ⟨(xs.take i).take k, trim_sl HSL.out hk HAA.out, (HD.out.take _).take _, HT.out, by rw [val_take_of_zeros HZ.out, HE.out]⟩, GW.out⟩
    · have t1 : ¬ (i : Int) < (la : Int) := by omega
      obtain ⟨oo, cap, rfl, hlc, hcm, hsl⟩ := GO.out.sl
      have HSL := Lib.hid hsl
      have HE := Lib.hid (raw_end HLX.out (.inl (by omega)) hil him)
      clear hsl
      go_wp2_with fail
      refine (trim16_raw _ _ _ (xs.take i) _ HSL.out hlc hcm).mono ?_
      rintro e w1 ⟨⟨ao', k, rfl, hk, ha', ht, hz⟩, rfl⟩
      have HT := Lib.hid ht
      have HZ := Lib.hid hz
      have HAA := Lib.hid ha'
      clear ht hz ha'
      go_wp2
      go_ret
      exact ⟨ao', k, cap, rfl, by omega, hcm, ⟨(xs.take i).take k, trim_sl HSL.out hk HAA.out, (HD.out.take _).take _, HT.out, by rw [val_take_of_zeros HZ.out, HE.out]⟩, GW.out⟩

/-- the integer with these digits, of which the first most count -/
def rawZ (s : Bool) (xs : List Nat) (most : Nat) : Int := sgn s (val B16 (xs.take most))

set_option maxHeartbeats 800000 in
theorem refRaw_any (s : Bool) (ao : Option Addr) (la ca : Nat) (xs : List Nat) (K : Int) (most : Nat) (W : World) (hs : Sl .u16 W ao la xs) (hd : Dig B16 xs) (hK : K = (most : Int)) (hm : most ≤ 1000000) (hla : la ≤ 9223372036854775807) :
    Calls Try.prog 20 #[.bool s, .slice ao la ca, .int .i64 K] W (OutJ W (rawZ s xs most)) := by
  subst hK
  have hf : Fr W (W.alloc (.cells #[.bool false, .slice none 0 0] 32)) [(32, #[.bool false, .slice none 0 0])] := (Fr.nil W).alloc rfl _ _
  have HF := Lib.hid hf
  have HS := Lib.hid (hs.keep hf.below)
  have HD := Lib.hid hd
  clear hf hs hd
  go_enter Try.func20, Try.ntmps20
  go_wp2_with fail
  refine (raw_any _ _ _ xs _ most _ HS.out HD.out rfl hm hla).mono ?_
  rintro e w1 ⟨po, pl, pc, rfl, hlc, hcm, hn, hb1⟩
  have HF1 := Lib.hid (HF.out.later hb1)
  have HN := Lib.hid hn
  clear hn hb1
  go_wp2_with fail
  refine (made_any s _ _ _ _ _ HN.out hlc hcm).mono ?_
  rintro e w2 ⟨neg, uo, ul, uc, rfl, huc, hum, hz2, hb2⟩
  have HF2 := Lib.hid (HF1.out.later hb2)
  have HZ2 := Lib.hid hz2
  clear hz2 hb2
  have g0 : w2.cell? ⟨W.heap.size, 0, none⟩ = some (.bool false) := HF2.out.cell 0 0 rfl rfl
  have g1 : w2.cell? ⟨W.heap.size, 1, none⟩ = some (.slice none 0 0) := HF2.out.cell 0 1 rfl rfl
  have g2 : w2.frozen? ⟨W.heap.size, 0, none⟩ = false := HF2.out.frozen 0 0 rfl
  have g3 : w2.frozen? ⟨W.heap.size, 1, none⟩ = false := HF2.out.frozen 0 1 rfl
  go_wp2
  obtain ⟨e0, e1, hz, hbel, _⟩ := HF2.out.finJ (cap := uc) 0 rfl HZ2.out
  exact bodyPost_ret (v := .agg #[.bool neg, .slice uo ul uc]) (by simp only [Nat.add_zero] at e0 e1; simp [results, Try.results20, go_sem, e0, e1]) rfl ⟨neg, uo, ul, uc, rfl, huc, hum, hz, hbel⟩

set_option maxHeartbeats 800000 in
theorem lawOf_any (s : Bool) (ao : Option Addr) (la ca : Nat) (xs : List Nat) (K : Int) (most : Nat) (W : World) (hs : Sl .u16 W ao la xs) (hd : Dig B16 xs) (hK : K = (most : Int)) (hm : most ≤ 1000000) (hla : la ≤ 9223372036854775807) :
    Calls Try.prog 5 #[.agg #[.bool s, .slice ao la ca], .int .i64 K] W (OutJ W (rawZ s xs most)) := by
  subst hK
  have hf : Fr W ((W.alloc (.cells #[.bool s, .slice ao la ca] 24)).alloc (.cells #[.bool false, .slice none 0 0] 32)) [(24, #[.bool s, .slice ao la ca]), (32, #[.bool false, .slice none 0 0])] := ((Fr.nil W).alloc rfl _ _).alloc (by simp) _ _
  have HF := Lib.hid hf
  have HS := Lib.hid (hs.keep hf.below)
  have HD := Lib.hid hd
  clear hf hs hd
  go_enter Try.func5, Try.ntmps5
  go_wp2_with fail
  refine (refRaw_any s _ _ _ xs _ most _ HS.out HD.out rfl hm hla).mono ?_
  rintro e w2 ⟨neg, uo, ul, uc, rfl, huc, hum, hz2, hb2⟩
  have HF2 := Lib.hid (HF.out.later hb2)
  have HZ2 := Lib.hid hz2
  clear hz2 hb2
  have g0 : w2.cell? ⟨W.heap.size + 1, 0, none⟩ = some (.bool false) := HF2.out.cell 1 0 rfl rfl
  have g1 : w2.cell? ⟨W.heap.size + 1, 1, none⟩ = some (.slice none 0 0) := HF2.out.cell 1 1 rfl rfl
  have g2 : w2.frozen? ⟨W.heap.size + 1, 0, none⟩ = false := HF2.out.frozen 1 0 rfl
  have g3 : w2.frozen? ⟨W.heap.size + 1, 1, none⟩ = false := HF2.out.frozen 1 1 rfl
  go_wp2
  obtain ⟨e0, e1, hz, hbel, _⟩ := HF2.out.finJ (cap := uc) 1 rfl HZ2.out
  exact bodyPost_ret (v := .agg #[.bool neg, .slice uo ul uc]) (by simp [results, Try.results5, go_sem, e0, e1]) rfl ⟨neg, uo, ul, uc, rfl, huc, hum, hz, hbel⟩
end Go.Proofs.Ytcgnmihabkgecaa

/- The specification's Int. -/
set_option linter.unusedVariables false
namespace Go.Proofs.Ytcgnmihabkgecaa
open Go.RowKit

theorem one_len {w : World} {ao : Option Addr} {len : Nat} (h : N16 w ao len 1) : len ≤ 1000000000 := Nat.le_trans (h.len_le (k := 1) (by decide)) (by decide)

end Go.Proofs.Ytcgnmihabkgecaa

/- A law's end: of what was there before the call, nothing is turned. -/
set_option linter.unusedVariables false
namespace Go.Proofs.Ytcgnmihabkgecaa
open Go.ChangeShapes Go.RowKit

variable {P : Program} {H : Type} {enc : TypeId × Value → H}

theorem post_below {f : Func} {s : ChangeSpec} {apart fresh handsOn : Bool} {W W' : World} {args : Array Value} {v : Value} {ds gs : List (DataW H)} {before pa pv : List MemPlace}
    (hW : DataW.Whole enc P f.params.toList s.vars apart W args.toList ds gs before)
    (hres : ∀ (b : Nat) (sp : Nat → Bool) (hd : Bool), DataW.TrodAll enc P W' b sp hd f.resultTypes.toList (v.resultList f.resultTypes.size) (s.fn H (ds ++ gs)).results [])
    (hargs : ∀ sp : Nat → Bool, (∀ p ∈ before, sp p.block = true) → DataW.TrodAll enc P W' 0 sp true f.params.toList args.toList (s.fn H (ds ++ gs)).args pa)
    (hvars : ∀ sp : Nat → Bool, (∀ p ∈ before, sp p.block = true) → DataW.TrodVars enc P W' sp s.vars (s.fn H (ds ++ gs)).vars pv)
    (hps : before = pa ++ pv) (hb : Below W.heap.size W W') :
    s.post enc P f apart fresh handsOn false W args v W' := by
  have hold : ∀ p ∈ before, (fun b => decide (b < W.heap.size)) p.block = true := fun p hp => by simpa using hW.lt p hp
  refine ⟨ds, gs, before, [], pa, pv, hW, hres _ _ _, hargs _ hold, hvars _ hold, World.keptBut_mono (fun p hp => ⟨hp, ?_⟩) (hb.frame _), fun h => by cases h⟩
  rw [hps, List.mem_append] at hp
  exact Or.inr hp

end Go.Proofs.Ytcgnmihabkgecaa

/- An argument that is an integer's raw digits: opened; and what was there before a law's call reads on as it did. -/
set_option linter.unusedVariables false
namespace Go.Proofs.Ytcgnmihabkgecaa
open Go.ChangeShapes Go.WideShapes Go.RowKit Go.Joins

set_option maxRecDepth 100000 in
theorem open_raw {H : Type} {enc : TypeId × Value → H} {W : World} {v : Value} {d : DataW H} {p : List MemPlace} {base : Nat}
    (hv : Value.okWide Try.prog W .any base 24 v) (h : DataW.Trod enc Try.prog W 0 (fun _ => true) true 24 v d p) :
    ∃ s ao la ca xs, v = .agg #[.bool s, .slice ao la ca] ∧ Sl .u16 W ao la xs ∧ Dig B16 xs ∧ la ≤ 9223372036854775807 := by
  obtain ⟨c0, c1, y0, y1, m, rfl, rfl, rfl, hy0, hy1⟩ := open_agg2 Try.underlying24 (by kernel_rfl) (by kernel_rfl) hv h
  obtain ⟨s, e0, _⟩ := DataW.trod_bool Try.underlying4 hy0
  simp at e0
  subst e0
  rcases open_ints Try.underlying22 Try.underlying94 (by kernel_rfl) hy1 with ⟨e1, _⟩ | ⟨a, len, cap, zs, e1, _, hlc, hcm, hzl, _, hcell, hwf⟩
  · simp at e1
    subst e1
    exact ⟨s, none, 0, 0, [], rfl, Sl.nil _ _ _, Dig.nil _, by omega⟩
  · simp at e1
    subst e1
    have hzl2 : zs.length = cap := by simpa using hzl
    have hr := range_u16 hwf
    refine ⟨s, some a, len, cap, (zs.take len).map Int.toNat, rfl, ⟨by simp; omega, ?_⟩, ?_, by unfold maxLen at hcm; omega⟩
    · by_cases h0 : 0 < zs.length
      · obtain ⟨b, off, rfl, hc⟩ := ints_at hcell h0
        refine ⟨b, off, fun _ => rfl, fun i hi => ?_⟩
        rw [hc i (by omega)]
        have h1 := hr i
        have e : (((zs.take len).map Int.toNat)[i]?.getD 0 : Nat) = (zs[i]?.getD 0).toNat := by
          have hiz : i < zs.length := by omega
          simp [hi, List.getElem?_eq_getElem hiz]
        rw [e, List.getD]
        congr 2
        omega
      · exact ⟨0, 0, fun h => by omega, fun i hi => by omega⟩
    · intro x hx
      obtain ⟨y, hy, rfl⟩ := List.mem_map.1 hx
      have := bounds_u16 (hwf y (List.mem_of_mem_take hy))
      rw [B16_eq]; omega

/-- the arguments read on as they did -/
theorem trodAll_below {H : Type} {enc : TypeId × Value → H} {P : Program} (hl : laidOutB P = true) {W W' : World} (hb : Below W.heap.size W W') :
    ∀ {ts : List TypeId} {vs : List Value} {ds : List (DataW H)} {ps : List MemPlace}, (∀ t ∈ ts, P.readableRec t = true ∧ t < P.types.size) →
      DataW.TrodAll enc P W 0 (fun _ => true) true ts vs ds ps → (∀ x ∈ ps, x.block < W.heap.size) → DataW.TrodAll enc P W' 0 (fun b => decide (b < W.heap.size)) true ts vs ds ps
  | [], [], [], _, _, h, _ => h
  | t :: ts, v :: vs, d :: ds, _, ht, ⟨p, q, h1, h2, e⟩, hlt => by
    have h3 := ht t List.mem_cons_self
    exact ⟨p, q, Below.trod hl h3.1 h3.2 h1 hb (fun x hx => hlt x (by rw [e]; exact List.mem_append_left _ hx)),
      trodAll_below hl hb (fun t' ht' => ht t' (List.mem_cons_of_mem _ ht')) h2 (fun x hx => hlt x (by rw [e]; exact List.mem_append_right _ hx)), e⟩
  | [], _ :: _, _, _, _, h, _ => by simp [DataW.TrodAll] at h
  | [], [], _ :: _, _, _, h, _ => by simp [DataW.TrodAll] at h
  | _ :: _, [], _, _, _, h, _ => by simp [DataW.TrodAll] at h
  | _ :: _, _ :: _, [], _, _, h, _ => by simp [DataW.TrodAll] at h

/-- a law's end -/
theorem post_law {P : Program} {H : Type} {enc : TypeId × Value → H} {f : Func} {s : ChangeSpec} {apart fresh handsOn : Bool} {W W' : World} {args : Array Value} {ds : List (DataW H)} {before : List MemPlace} {t : TypeId}
    (hl : laidOutB P = true) (hts : ∀ t ∈ f.params.toList, P.readableRec t = true ∧ t < P.types.size)
    (hW : DataW.Whole enc P f.params.toList s.vars apart W args.toList ds [] before) (hvs : s.vars = []) (hrt : f.resultTypes = #[t]) (hub : P.underlying t = some .bool)
    (hA : DataW.TrodAll enc P W 0 (fun _ => true) true f.params.toList args.toList ds before)
    (hr : (s.fn H ds).results = [.lit (.bool true)]) (ha : (s.fn H ds).args = ds) (hv : (s.fn H ds).vars = []) (hb : Below W.heap.size W W') :
    s.post enc P f apart fresh handsOn false W args (.bool true) W' := by
  have hlt := hW.lt
  refine ⟨ds, [], before, [], before, [], hW, ?_, ?_, ?_, World.keptBut_mono (fun p hp => ⟨hp, ?_⟩) (hb.frame _), fun h => by cases h⟩
  · rw [List.append_nil, hr, hrt]
    exact trodAll_cons_mk (shut_bool hub _) trodAll_mk0
  · rw [List.append_nil, ha]
    exact trodAll_below hl hb hts hA (fun x hx => by simpa using hlt x hx)
  · rw [List.append_nil, hv, hvs]
    rfl
  · exact Or.inr (by simpa using hp)
end Go.Proofs.Ytcgnmihabkgecaa

/- Small facts for the laws' walks. -/
set_option linter.unusedVariables false
namespace Go.Proofs.Ytcgnmihabkgecaa
open Go.RowKit Go.Proofs

theorem rawZ_natAbs (s : Bool) (xs : List Nat) (most : Nat) : (rawZ s xs most).natAbs = val B16 (xs.take most) := sgn_natAbs _ _

theorem rawZ_lt (s : Bool) (xs : List Nat) (hd : Dig B16 xs) (most : Nat) : (rawZ s xs most).natAbs < B16 ^ most := by
  rw [rawZ_natAbs]
  have h1 := val_lt B16_pos (hd.take most)
  exact Nat.lt_of_lt_of_le h1 (Nat.pow_le_pow_right B16_pos (by rw [List.length_take]; omega))

theorem rawZ_fits (s : Bool) (xs : List Nat) (hd : Dig B16 xs) (most : Nat) (hm : most ≤ 1024) : Fits (rawZ s xs most) := by
  unfold Fits
  have h1 := rawZ_lt s xs hd most
  rw [B16_pow] at h1
  have h2 := blen_le.2 h1
  omega

/-- what Int answers -/
def iv (z : Int) : Int := if -9223372036854775808 ≤ z ∧ z ≤ 9223372036854775807 then z else 0
def ib (z : Int) : Bool := if -9223372036854775808 ≤ z ∧ z ≤ 9223372036854775807 then true else false

theorem IntPost.one {z : Int} {W w' : World} {e : Ending} (h : IntPost z W e w') : e = .returned (.tuple #[.int .i64 (iv z), .bool (ib z)]) ∧ Below W.heap.size W w' := by
  refine ⟨?_, h.2⟩
  rw [h.1]
  unfold iv ib
  split <;> rfl

theorem fits_neg {z : Int} (h : Fits z) : Fits (-z) := by unfold Fits at *; rwa [Int.natAbs_neg]

theorem neg_len {w : World} {neg : Bool} {ao : Option Addr} {len : Nat} {z : Int} (h : Z32 w neg ao len (-z)) (hf : Fits z) : len ≤ 1000000000 := Nat.le_trans (fits_len h (fits_neg hf)) (by omega)
theorem opp_len {w : World} {neg : Bool} {ao : Option Addr} {len : Nat} {z : Int} (h : Z16 w neg ao len (-z)) (hf : Fits z) : len ≤ 1000000000 := Nat.le_trans (fits_len16 h (fits_neg hf)) (by omega)
end Go.Proofs.Ytcgnmihabkgecaa

/- Regions that draw their order and make blocks: one invariant for all orders. No function of the program is walked here. -/
set_option linter.unusedVariables false
namespace Go.Proofs.Ytcgnmihabkgecaa
open Go.RowKit

section
variable {P : Program} {ops : Array Oper} {Q : Exit → Act → World → Prop} {md : Region.Mode}

theorem listed_count {L : Array Bool} {i : Nat} (h : L.getD i true = false) : (L.setIfInBounds i true).toList.count false + 1 = L.toList.count false := by
  have hi : i < L.size := by
    rcases Nat.lt_or_ge i L.size with h1 | h1
    · exact h1
    · simp [Array.getElem?_eq_none h1] at h
  have hv : L[i] = false := by simpa [hi] using h
  rw [Array.toList_setIfInBounds, List.count_set (by simpa using hi)]
  have h2 : 0 < L.toList.count false := List.count_pos_iff.2 (by rw [← hv]; exact Array.getElem_mem_toList hi)
  have hv2 : L.toList[i]'(by simpa using hi) = false := by simpa using hv
  rw [hv2]
  rw [if_pos (by rfl), if_neg (by decide)]
  omega

/-- an invariant that each operation keeps, whichever comes up -/
theorem wpAny_inv {Inv : Array Bool → Act → World → Prop}
    (hstep : ∀ (L : Array Bool) (a : Act) (w : World) (i : Nat), L.size = ops.size → Inv L a w → i ∈ Region.ready md ops L → wpOp P ops Q i (fun a' w' => Inv (L.setIfInBounds i true) a' w') a w)
    (hend : ∀ (L : Array Bool) (a : Act) (w : World), L.size = ops.size → Inv L a w → Region.ready md ops L = [] → Q .normal a w) :
    ∀ (fuel : Nat) (L : Array Bool) (a : Act) (w : World), L.size = ops.size → L.toList.count false ≤ fuel → Inv L a w → wpAny P md ops Q fuel L a w := by
  intro fuel
  induction fuel with
  | zero =>
    intro L a w hs hc hi
    have hr : Region.ready md ops L = [] := by
      apply List.eq_nil_iff_forall_not_mem.2
      intro i hm
      have h1 := (mem_ready.1 hm).1
      have := listed_count h1
      omega
    exact ⟨hr, hend L a w hs hi hr⟩
  | succ fuel ih =>
    intro L a w hs hc hi
    refine ⟨fun hr => hend L a w hs hi hr, fun i hm => ?_⟩
    refine wpOp_mono (fun a' w' h' => ih _ a' w' (by simpa using hs) ?_ h') (hstep L a w i hs hi hm)
    have := listed_count (mem_ready.1 hm).1
    omega
end

/-- a is as a0 but for these slots -/
def Agree (slots : List Nat) (a0 a : Act) : Prop := a.tmps.size = a0.tmps.size ∧ a.defers = a0.defers ∧ ∀ k, k ∉ slots → a.tmps[k]? = a0.tmps[k]?

theorem Agree.refl (slots : List Nat) (a : Act) : Agree slots a a := ⟨rfl, rfl, fun _ _ => rfl⟩

theorem Agree.put {slots : List Nat} {a0 a : Act} (h : Agree slots a0 a) {t : Nat} (ht : t ∈ slots) (v : Value) : Agree slots a0 (a.put (some t) v) := by
  refine ⟨by simp [Act.put, h.1], h.2.1, fun k hk => ?_⟩
  have : t ≠ k := fun e => hk (e ▸ ht)
  simp only [Act.put]
  rw [Array.getElem?_setIfInBounds_ne this]
  exact h.2.2 k hk

theorem Agree.eval {slots : List Nat} {a0 a : Act} (h : Agree slots a0 a) {k : Nat} (hk : k ∉ slots) : a.eval (.tmp k) = a0.eval (.tmp k) := by
  simp only [Act.eval, Array.getD_eq_getD_getElem?, h.2.2 k hk]

theorem eval_put_self {a : Act} {t : Nat} (h : t < a.tmps.size) (v : Value) : (a.put (some t) v).eval (.tmp t) = v := by
  simp [Act.eval, Act.put, h]

theorem eval_put_ne {a : Act} {t k : Nat} (h : t ≠ k) (v : Value) : (a.put (some t) v).eval (.tmp k) = a.eval (.tmp k) := by
  simp [Act.eval, Act.put, Array.getElem?_setIfInBounds_ne h]

def puts (a : Act) : List (Nat × Value) → Act
  | [] => a
  | (t, v) :: r => puts (a.put (some t) v) r

theorem puts_defers (l : List (Nat × Value)) : ∀ a : Act, (puts a l).defers = a.defers := by
  induction l with
  | nil => intro a; rfl
  | cons x l ih => intro a; exact ih _

theorem puts_get (f : Nat → Value) (l : List Nat) : ∀ (a : Act) (k : Nat), (puts a (l.map fun t => (t, f t))).tmps[k]? = if k ∈ l ∧ k < a.tmps.size then some (f k) else a.tmps[k]? := by
  induction l with
  | nil => intro a k; simp [puts]
  | cons t l ih =>
    intro a k
    simp only [List.map_cons, puts]
    rw [ih]
    have hs : (a.put (some t) (f t)).tmps.size = a.tmps.size := by simp [Act.put]
    rw [hs]
    by_cases hk : k ∈ l ∧ k < a.tmps.size
    · rw [if_pos hk, if_pos ⟨List.mem_cons_of_mem _ hk.1, hk.2⟩]
    · rw [if_neg hk]
      by_cases ht : t = k
      · subst ht
        by_cases hl : t < a.tmps.size
        · rw [if_pos ⟨List.mem_cons_self, hl⟩]; simp [Act.put, hl]
        · rw [if_neg (fun h => hl h.2)]
          simp only [Act.put]
          rw [Array.getElem?_eq_none (by simp; omega), Array.getElem?_eq_none (by omega)]
      · have : ¬ (k ∈ t :: l ∧ k < a.tmps.size) := by
          rintro ⟨h1, h2⟩
          rcases List.mem_cons.1 h1 with h3 | h3
          · exact ht h3.symm
          · exact hk ⟨h3, h2⟩
        rw [if_neg this]
        simp [Act.put, Array.getElem?_setIfInBounds_ne ht]

/-- the frame written out -/
theorem Agree.form {slots : List Nat} {a0 a : Act} (h : Agree slots a0 a) : a = puts a0 (slots.map fun t => (t, a.eval (.tmp t))) := by
  obtain ⟨ts, ds⟩ := a
  have hd := puts_defers (slots.map fun t => (t, Act.eval ⟨ts, ds⟩ (.tmp t))) a0
  have ht : ts = (puts a0 (slots.map fun t => (t, Act.eval ⟨ts, ds⟩ (.tmp t)))).tmps := by
    apply Array.ext_getElem?
    intro k
    rw [puts_get (fun t => Act.eval ⟨ts, ds⟩ (.tmp t))]
    by_cases hk : k ∈ slots
    · by_cases hl : k < a0.tmps.size
      · rw [if_pos ⟨hk, hl⟩]
        have : k < ts.size := by have := h.1; simp at this; omega
        simp [Act.eval, this]
      · rw [if_neg (fun x => hl x.2)]
        have : ts.size ≤ k := by have := h.1; simp at this; omega
        rw [Array.getElem?_eq_none this, Array.getElem?_eq_none (by omega)]
    · rw [if_neg (fun x => hk x.1)]
      exact h.2.2 k hk
  have h2 := h.2.1
  generalize hp : puts a0 (slots.map fun t => (t, Act.eval ⟨ts, ds⟩ (.tmp t))) = b at *
  obtain ⟨t2, d2⟩ := b
  simp at *
  exact ⟨ht, by rw [h2, hd]⟩

/-- cells are stored one after the other -/
def setFrom (w : World) (g : Nat) (i : Nat) : List Value → World
  | [] => w
  | u :: us => setFrom (w.setCell ⟨g, i, none⟩ u) g (i + 1) us

theorem setFrom_size (g : Nat) (us : List Value) : ∀ (w : World) (i : Nat), (setFrom w g i us).heap.size = w.heap.size := by
  induction us with
  | nil => intro w i; rfl
  | cons u us ih => intro w i; simp only [setFrom]; rw [ih]; simp

theorem setFrom_below {B g : Nat} (hg : B ≤ g) (us : List Value) : ∀ (w0 w : World) (i : Nat), Below B w0 w → Below B w0 (setFrom w g i us) := by
  induction us with
  | nil => intro w0 w i h; exact h
  | cons u us ih => intro w0 w i h; exact ih w0 _ _ (h.setCell hg u)

theorem setFrom_other {g k : Nat} (hk : k ≠ g) (us : List Value) : ∀ (w : World) (i : Nat), (setFrom w g i us).heap[k]? = w.heap[k]? := by
  induction us with
  | nil => intro w i; rfl
  | cons u us ih => intro w i; simp only [setFrom]; rw [ih, Below.heap_setCell _ _ _ _ hk]

theorem setFrom_box {g T : Nat} (us : List Value) : ∀ (w : World) (pre old : List Value), Box w g T (pre ++ old).toArray → old.length = us.length → Box (setFrom w g pre.length us) g T (pre ++ us).toArray := by
  induction us with
  | nil =>
    intro w pre old h hl
    obtain rfl := List.eq_nil_of_length_eq_zero hl
    exact h
  | cons u us ih =>
    intro w pre old h hl
    match old, hl with
    | o :: old, hl =>
      have h2 := h.set pre.length u
      have e : ((pre ++ o :: old).toArray.setIfInBounds pre.length u) = ((pre ++ [u]) ++ old).toArray := by
        apply Array.toList_inj.1
        simp
      rw [e] at h2
      have h3 := ih _ (pre ++ [u]) old h2 (by simpa using hl)
      rw [List.length_append] at h3
      simpa [setFrom] using h3

theorem setFrom_box0 {w : World} {g T : Nat} {z : Array Value} (us : List Value) (h : Box w g T z) (hl : z.size = us.length) : Box (setFrom w g 0 us) g T us.toArray := by
  obtain ⟨z⟩ := z
  exact setFrom_box us w [] z (by simpa using h) (by simpa using hl)

theorem noInts_set {c : Array Value} (h : noInts c = true) (i : Nat) {u : Value} (hu : isInt u = false) : noInts (c.setIfInBounds i u) = true := by
  unfold noInts at *
  rw [List.all_eq_true] at *
  intro x hx
  rw [Array.toList_setIfInBounds] at hx
  rcases List.mem_or_eq_of_mem_set hx with hx | rfl
  · exact h x hx
  · simp [hu]

/-- what stays while new blocks are made, and own blocks without numbers are written -/
def Stable (base : Nat) (Φ : World → Prop) : Prop :=
  (∀ w w', Φ w → Below w.heap.size w w' → Φ w') ∧ (∀ w g T c k u, Φ w → base ≤ g → Box w g T c → noInts c = true → Φ (w.setCell ⟨g, k, none⟩ u))

theorem Stable.setFrom {base : Nat} {Φ : World → Prop} (hs : Stable base Φ) {g T : Nat} (hg : base ≤ g) (us : List Value) (hu : ∀ u ∈ us, isInt u = false) :
    ∀ (w : World) (i : Nat) (c : Array Value), Φ w → Box w g T c → noInts c = true → Φ (setFrom w g i us) := by
  induction us with
  | nil => intro w i c h _ _; exact h
  | cons u us ih =>
    intro w i c h hb hc
    exact ih (fun x hx => hu x (List.mem_cons_of_mem _ hx)) _ _ (c.setIfInBounds i u) (hs.2 w g T c i u h hg hb hc) (hb.set i u) (noInts_set hc i (hu u List.mem_cons_self))

theorem Stable.n32 (base : Nat) (ao : Option Addr) (len n : Nat) : Stable base (fun w => N32 w ao len n) :=
  ⟨fun w w' h hb => h.keep hb, fun w g T c k u h _ hb hc => h.setBox hb (noInts_get hc) k u⟩
theorem Stable.and {base : Nat} {Φ Ψ : World → Prop} (h : Stable base Φ) (k : Stable base Ψ) : Stable base (fun w => Φ w ∧ Ψ w) :=
  ⟨fun w w' x hb => ⟨h.1 w w' x.1 hb, k.1 w w' x.2 hb⟩, fun w g T c i u x hg hb hc => ⟨h.2 w g T c i u x.1 hg hb hc, k.2 w g T c i u x.2 hg hb hc⟩⟩
theorem Stable.ex {base : Nat} {α : Sort _} {Φ : α → World → Prop} (h : ∀ x, Stable base (Φ x)) : Stable base (fun w => ∃ x, Φ x w) :=
  ⟨fun w w' ⟨x, hx⟩ hb => ⟨x, (h x).1 w w' hx hb⟩, fun w g T c i u ⟨x, hx⟩ hg hb hc => ⟨x, (h x).2 w g T c i u hx hg hb hc⟩⟩
theorem Stable.const (base : Nat) (p : Prop) : Stable base (fun _ => p) := ⟨fun _ _ h _ => h, fun _ _ _ _ _ _ h _ _ _ => h⟩
theorem Stable.or {base : Nat} {Φ Ψ : World → Prop} (h : Stable base Φ) (k : Stable base Ψ) : Stable base (fun w => Φ w ∨ Ψ w) :=
  ⟨fun w w' x hb => x.imp (fun y => h.1 w w' y hb) (fun y => k.1 w w' y hb), fun w g T c i u x hg hb hc => x.imp (fun y => h.2 w g T c i u y hg hb hc) (fun y => k.2 w g T c i u y hg hb hc)⟩
theorem Stable.z32 (base : Nat) (neg : Bool) (ao : Option Addr) (len : Nat) (z : Int) : Stable base (fun w => Z32 w neg ao len z) :=
  Stable.ex fun n => (Stable.n32 base ao len n).and (Stable.const base _)

/-! a plan of such a region -/
inductive Kd where
  | val
  | box (T : Nat) (z : Array Value)
  | put (p s : Nat)

def Kd.isPut : Kd → Bool | .put _ _ => true | _ => false
def Kd.isVal : Kd → Bool | .val => true | _ => false

structure Shape where
  f : Nat → Nat
  kd : Nat → Kd
  need : Nat → List Nat
  st : Nat → Nat
  src : Nat → Nat

/-- what is asked of the operations' own text: by decision -/
def Shape.ok (S : Shape) (ops : Array Oper) (size : Nat) : Bool :=
  (List.range ops.size).all fun i => match ops[i]? with
    | none => false
    | some o => o.guard.isNone && decide (o.dst = if (S.kd i).isPut then none else some (S.f i)) &&
        (o.after.toList.all fun e => !Region.binds .any e || decide (e.on < i)) &&
        ((S.need i).all fun j => !(S.kd j).isPut && o.after.toList.any fun e => Region.binds .any e && decide (e.on = j)) &&
        ((S.kd i).isPut || decide (S.f i < size)) &&
        ((List.range ops.size).all fun j => decide (i = j) || (S.kd i).isPut || (S.kd j).isPut || decide (S.f i ≠ S.f j)) &&
        (match S.kd i with
          | .val => true
          | .box _ z => decide (S.st i < ops.size) && (match S.kd (S.st i) with | .put p s => decide (p = i) && decide (s = S.src i) | _ => false) && (S.need (S.st i)).contains i && (S.need (S.st i)).contains (S.src i) && noInts z
          | .put p s => decide (p < ops.size) && decide (S.st p = i) && decide (S.src p = s) && (S.need i).contains p && (S.need i).contains s && (match S.kd p with | .box _ _ => true | _ => false) && (S.kd s).isVal)

def Shape.slots (S : Shape) (n : Nat) : List Nat := ((List.range n).filter fun i => !(S.kd i).isPut).map S.f

def upd (v : Nat → Value) (i : Nat) (x : Value) : Nat → Value := fun j => if j = i then x else v j

def Shape.vals (S : Shape) (a : Act) : Nat → Value := fun i => a.eval (.tmp (S.f i))

structure Shape.Inv (S : Shape) (n base : Nat) (a0 : Act) (W0 : World) (Φ : Nat → (Nat → Value) → World → Prop) (L : Nat → Prop) (a : Act) (w : World) (blk : Nat → Nat) : Prop where
  agree : Agree (S.slots n) a0 a
  below : Below base W0 w
  hsz : base ≤ w.heap.size
  closed : ∀ i, i < n → L i → ∀ j ∈ S.need i, L j
  vals : ∀ i, i < n → L i → (S.kd i).isVal = true → Φ i (S.vals a) w
  boxes : ∀ i T z, i < n → L i → S.kd i = .box T z → S.vals a i = .pointer (some ⟨blk i, 0, none⟩) ∧ base ≤ blk i ∧
    (¬ L (S.st i) → Box w (blk i) T z) ∧ (L (S.st i) → ∃ us : List Value, S.vals a (S.src i) = .agg us.toArray ∧ us.length = z.size ∧ (∀ u ∈ us, isInt u = false) ∧ Box w (blk i) T us.toArray)
  apart : ∀ i j Ti zi Tj zj, i < n → j < n → L i → L j → S.kd i = .box Ti zi → S.kd j = .box Tj zj → i ≠ j → blk i ≠ blk j

theorem below_undrew {B : Nat} {w w' : World} (h : Below B w.drew w') : Below B w w' := ⟨h.os, h.tape, h.output, h.size, h.block⟩

theorem Box.lt {w : World} {g T : Nat} {c : Array Value} (h : Box w g T c) : g < w.heap.size := (Array.getElem?_eq_some_iff.1 h).1

end Go.Proofs.Ytcgnmihabkgecaa

/- The theorem of a plan: one invariant for all orders of a region. No function of the program is walked here. -/
set_option linter.unusedVariables false
namespace Go.Proofs.Ytcgnmihabkgecaa
open Go.RowKit

structure Shape.At (S : Shape) (n size i : Nat) (o : Oper) : Prop where
  guard : o.guard = none
  dst : o.dst = if (S.kd i).isPut then none else some (S.f i)
  back : ∀ e ∈ o.after, Region.binds .any e = true → e.on < i
  need : ∀ j ∈ S.need i, (S.kd j).isPut = false ∧ ∃ e ∈ o.after, Region.binds .any e = true ∧ e.on = j
  slot : (S.kd i).isPut = false → S.f i < size
  inj : ∀ j, j < n → i ≠ j → (S.kd i).isPut = false → (S.kd j).isPut = false → S.f i ≠ S.f j
  box : ∀ T z, S.kd i = .box T z → S.st i < n ∧ S.kd (S.st i) = .put i (S.src i) ∧ i ∈ S.need (S.st i) ∧ S.src i ∈ S.need (S.st i) ∧ noInts z = true
  put : ∀ p s, S.kd i = .put p s → p < n ∧ S.st p = i ∧ S.src p = s ∧ p ∈ S.need i ∧ s ∈ S.need i ∧ (∃ T z, S.kd p = .box T z) ∧ (S.kd s).isVal = true

theorem Shape.ok_at {S : Shape} {ops : Array Oper} {size i : Nat} {o : Oper} (h : S.ok ops size = true) (ho : ops[i]? = some o) : S.At ops.size size i o := by
  have hi : i < ops.size := (Array.getElem?_eq_some_iff.1 ho).1
  have h1 := List.all_eq_true.1 h i (List.mem_range.2 hi)
  simp only [ho] at h1
  rw [Bool.and_eq_true, Bool.and_eq_true, Bool.and_eq_true, Bool.and_eq_true, Bool.and_eq_true, Bool.and_eq_true] at h1
  obtain ⟨⟨⟨⟨⟨⟨g1, g2⟩, g3⟩, g4⟩, g5⟩, g6⟩, g7⟩ := h1
  refine ⟨by simpa using g1, by simpa using g2, fun e he hb => ?_, fun j hj => ?_, fun hp => ?_, fun j hj hne hp hq => ?_, fun T z hk => ?_, fun p s hk => ?_⟩
  · have := List.all_eq_true.1 g3 e (by simpa using he)
    simpa [hb] using this
  · have h2 := List.all_eq_true.1 g4 j hj
    rw [Bool.and_eq_true] at h2
    refine ⟨by simpa using h2.1, ?_⟩
    obtain ⟨e, he, hx⟩ := List.any_eq_true.1 h2.2
    simp at hx
    exact ⟨e, by simpa using he, hx.1, hx.2⟩
  · simpa [hp] using g5
  · have h2 := List.all_eq_true.1 g6 j (List.mem_range.2 hj)
    simpa [hne, hp, hq] using h2
  · simp only [hk] at g7
    rw [Bool.and_eq_true, Bool.and_eq_true, Bool.and_eq_true, Bool.and_eq_true] at g7
    obtain ⟨⟨⟨⟨a1, a2⟩, a3⟩, a4⟩, a5⟩ := g7
    refine ⟨by simpa using a1, ?_, by simpa using a3, by simpa using a4, a5⟩
    cases hst : S.kd (S.st i) with
    | val => rw [hst] at a2; simp at a2
    | box T z => rw [hst] at a2; simp at a2
    | put p s => rw [hst] at a2; simp at a2; rw [a2.1, a2.2]
  · simp only [hk] at g7
    rw [Bool.and_eq_true, Bool.and_eq_true, Bool.and_eq_true, Bool.and_eq_true, Bool.and_eq_true, Bool.and_eq_true] at g7
    obtain ⟨⟨⟨⟨⟨⟨a1, a2⟩, a3⟩, a4⟩, a5⟩, a6⟩, a7⟩ := g7
    refine ⟨by simpa using a1, by simpa using a2, by simpa using a3, by simpa using a4, by simpa using a5, ?_, a7⟩
    cases hp : S.kd p with
    | val => rw [hp] at a6; simp at a6
    | box T z => exact ⟨T, z, rfl⟩
    | put p' s' => rw [hp] at a6; simp at a6

theorem notput_val {k : Kd} (h : k.isVal = true) : k.isPut = false := by cases k <;> simp_all [Kd.isVal, Kd.isPut]

theorem Shape.mem_slots {S : Shape} {n i : Nat} (hi : i < n) (h : (S.kd i).isPut = false) : S.f i ∈ S.slots n :=
  List.mem_map.2 ⟨i, List.mem_filter.2 ⟨List.mem_range.2 hi, by simp [h]⟩, rfl⟩

section
variable {P : Program} {ops : Array Oper} {Q : Exit → Act → World → Prop}

theorem Shape.region {id : Nat} {a0 : Act} {W : World} {base : Nat} (S : Shape) (Φ : Nat → (Nat → Value) → World → Prop) (hm : P.follows .mixedOrders = true) (hok : S.ok ops a0.tmps.size = true)
    (hdep : ∀ i v v' w, i < ops.size → (∀ j, (j = i ∨ j ∈ S.need i) → v j = v' j) → Φ i v w → Φ i v' w)
    (hstab : ∀ i v, i < ops.size → Stable base (Φ i v))
    (hval : ∀ i o, ops[i]? = some o → (S.kd i).isVal = true → ∀ a w, Agree (S.slots ops.size) a0 a → Below base W.drew w → base ≤ w.heap.size →
      (∀ j ∈ S.need i, (S.kd j).isVal = true → Φ j (S.vals a) w) → ∀ K : Act → World → Prop, (∀ v w', Below w.heap.size w w' → Φ i (upd (S.vals a) i v) w' → K (a.put o.dst v) w') → o.wp P a w K Q)
    (hbox : ∀ i o T z, ops[i]? = some o → S.kd i = .box T z → ∀ (a : Act) (w : World), (execOp a.eval o).run P w = .ok (.value (.pointer (some ⟨w.heap.size, 0, none⟩))) (w.alloc (.cells z T)))
    (hput : ∀ i o p s T z, ops[i]? = some o → S.kd i = .put p s → S.kd p = .box T z → ∀ (a : Act) (w : World) (g : Nat), S.vals a p = .pointer (some ⟨g, 0, none⟩) → Φ s (S.vals a) w → Box w g T z →
      ∃ us : List Value, S.vals a s = .agg us.toArray ∧ us.length = z.size ∧ (∀ u ∈ us, isInt u = false) ∧ (execOp a.eval o).run P w = .ok .skip (setFrom w g 0 us))
    (hbase : base = W.heap.size)
    (hend : ∀ a w blk, S.Inv ops.size base a0 W.drew Φ (fun i => i < ops.size) a w blk → Q .normal a w) :
    (Code.region id ops true).wp P Q a0 W := by
  subst hbase
  refine wp_region_any hm (wpAny_inv (md := .any) (Inv := fun L a w => ∃ blk, S.Inv ops.size W.heap.size a0 W.drew Φ (fun i => L.getD i false = true) a w blk) ?step ?fin _ _ _ _ (by simp) (by simp) ⟨fun _ => 0, ?init⟩)
  case init =>
    have h0 : ∀ i, ¬ ((Array.replicate ops.size false).getD i false = true) := by
      intro i h
      rw [Array.getD_eq_getD_getElem?, Array.getElem?_replicate] at h
      split at h <;> simp at h
    exact ⟨Agree.refl _ _, Below.refl _ _, Nat.le_refl _, fun i _ h => absurd h (h0 i), fun i _ h => absurd h (h0 i), fun i T z _ h => absurd h (h0 i), fun i j Ti zi Tj zj _ _ h => absurd h (h0 i)⟩
  case fin =>
    intro L a w hs ⟨blk, hI⟩ hr
    have hall : ∀ i, i < ops.size → L.getD i false = true := by
      intro i
      induction i using Nat.strongRecOn with
      | ind i ih =>
        intro hi
        cases hL : L.getD i false with
        | true => rfl
        | false =>
          exfalso
          have hun : L.getD i true = false := by
            have : i < L.size := by omega
            simpa [this] using hL
          have ho : ops[i]? = some ops[i] := Array.getElem?_eq_getElem hi
          have hA := Shape.ok_at hok ho
          have hm : i ∈ Region.ready .any ops L := mem_ready.2 ⟨hun, _, ho, fun e he hb => by
            have hlt := hA.back e he hb
            exact ih e.on hlt (by omega)⟩
          rw [hr] at hm
          cases hm
    refine hend a w blk ⟨hI.agree, hI.below, hI.hsz, ?_, fun i hi _ => hI.vals i hi (hall i hi), fun i T z hi _ hk => ?_, fun i j Ti zi Tj zj hi hj _ _ => hI.apart i j Ti zi Tj zj hi hj (hall i hi) (hall j hj)⟩
    · intro i hi _ j hj
      have ho : ops[i]? = some ops[i] := Array.getElem?_eq_getElem hi
      have hA := Shape.ok_at hok ho
      obtain ⟨_, e, he, hb, rfl⟩ := hA.need j hj
      have := hA.back e he hb
      show e.on < ops.size
      omega
    · obtain ⟨h1, h2, h3, h4⟩ := hI.boxes i T z hi (hall i hi) hk
      have ho : ops[i]? = some ops[i] := Array.getElem?_eq_getElem hi
      have hst := ((Shape.ok_at hok ho).box T z hk).1
      exact ⟨h1, h2, fun h => absurd hst h, fun _ => h4 (hall _ hst)⟩
  case step =>
    intro L a w i hs ⟨blk, hI⟩ hr
    obtain ⟨hun, o, ho, hafter⟩ := mem_ready.1 hr
    have hi : i < ops.size := (Array.getElem?_eq_some_iff.1 ho).1
    have hiL : i < L.size := by omega
    have hnot : ¬ L.getD i false = true := by
      have : L.getD i false = false := by simpa [hiL] using hun
      rw [this]; decide
    have hA := Shape.ok_at hok ho
    have hneed : ∀ j ∈ S.need i, L.getD j false = true := by
      intro j hj
      obtain ⟨_, e, he, hb, rfl⟩ := hA.need j hj
      exact hafter e he hb
    have hset : ∀ j, (L.setIfInBounds i true).getD j false = true ↔ (j = i ∨ L.getD j false = true) := by
      intro j
      by_cases hj : j = i
      · subst hj; simp [hiL]
      · rw [getD_set_ne false (Ne.symm hj)]; simp [hj]
    have hneedlt : ∀ k, k < ops.size → ∀ j ∈ S.need k, j < ops.size ∧ (S.kd j).isPut = false := by
      intro k hk j hj
      have ho : ops[k]? = some ops[k] := Array.getElem?_eq_getElem hk
      have hA := Shape.ok_at hok ho
      obtain ⟨h1, e, he, hb, rfl⟩ := hA.need j hj
      have := hA.back e he hb
      exact ⟨by omega, h1⟩
    have hclosed : ∀ k, k < ops.size → (L.setIfInBounds i true).getD k false = true → ∀ j ∈ S.need k, (L.setIfInBounds i true).getD j false = true := by
      intro k hk hL j hj
      rw [hset] at hL ⊢
      rcases hL with rfl | hL
      · exact .inr (hneed j hj)
      · exact .inr (hI.closed k hk hL j hj)
    have hw : Region.wanted o (yielded ops a.tmps) = true := by
      unfold Region.wanted
      rw [hA.guard]
    unfold wpOp
    simp only [ho, hw, if_true]
    left
    cases hk : S.kd i with
    | val =>
      have hv : (S.kd i).isVal = true := by rw [hk]; rfl
      have hnp := notput_val hv
      have hdst : o.dst = some (S.f i) := by rw [hA.dst, hnp]; rfl
      refine hval i o ho hv a w hI.agree hI.below hI.hsz (fun j hj hjv => hI.vals j (hneedlt i hi j hj).1 (hneed j hj) hjv) _ fun v w' hb hΦ => ?_
      rw [hdst]
      have hslot := hA.slot hnp
      have hself : S.vals (a.put (some (S.f i)) v) i = v := eval_put_self (by rw [hI.agree.1]; exact hslot) v
      have hother : ∀ j, j < ops.size → j ≠ i → (S.kd j).isPut = false → S.vals (a.put (some (S.f i)) v) j = S.vals a j := fun j hj hne hp => eval_put_ne (hA.inj j hj (Ne.symm hne) hnp hp) v
      have hne_of : ∀ k, k < ops.size → L.getD k false = true → k ≠ i := fun k _ hL e => hnot (e ▸ hL)
      refine ⟨blk, hI.agree.put (Shape.mem_slots hi hnp) v, hI.below.trans (hb.mono hI.hsz), Nat.le_trans hI.hsz hb.size, hclosed, ?_, ?_, ?_⟩
      · intro k hk' hL hkv
        rw [hset] at hL
        by_cases hki : k = i
        · subst hki
          refine hdep k _ _ w' hi (fun j hj => ?_) hΦ
          rcases hj with rfl | hj
          · simp [upd, hself]
          · have hjne : j ≠ k := hne_of j (hneedlt k hi j hj).1 (hneed j hj)
            simp only [upd, if_neg hjne]
            exact (hother j (hneedlt k hi j hj).1 hjne (hneedlt k hi j hj).2).symm
        · have hLk := hL.resolve_left hki
          refine (hstab k _ hk').1 w w' (hdep k (S.vals a) _ w hk' (fun j hj => ?_) (hI.vals k hk' hLk hkv)) hb
          rcases hj with rfl | hj
          · exact (hother j hk' hki (notput_val hkv)).symm
          · exact (hother j (hneedlt k hk' j hj).1 (hne_of j (hneedlt k hk' j hj).1 (hI.closed k hk' hLk j hj)) (hneedlt k hk' j hj).2).symm
      · intro k T z hk' hL hkb
        rw [hset] at hL
        have hki : k ≠ i := fun e => by subst e; rw [hk] at hkb; cases hkb
        have hLk := hL.resolve_left hki
        obtain ⟨h1, h2, h3, h4⟩ := hI.boxes k T z hk' hLk hkb
        have hAk := Shape.ok_at hok (Array.getElem?_eq_getElem hk')
        obtain ⟨s1, s2, s3, s4, s5⟩ := hAk.box T z hkb
        have hsti : S.st k ≠ i := fun e => by rw [e, hk] at s2; cases s2
        have hLst : ((L.setIfInBounds i true).getD (S.st k) false = true) ↔ (L.getD (S.st k) false = true) := by rw [hset]; simp [hsti]
        have hlt : ∀ {c : Array Value}, Box w (blk k) T c → Box w' (blk k) T c := fun hb' => hb'.below hb hb'.lt
        refine ⟨(hother k hk' hki (by rw [hkb]; rfl)).trans h1, h2, fun hn => hlt (h3 (fun x => hn (hLst.2 x))), fun hy => ?_⟩
        obtain ⟨us, u1, u2, u3, u4⟩ := h4 (hLst.1 hy)
        have hsrcL := hI.closed (S.st k) s1 (hLst.1 hy) (S.src k) s4
        refine ⟨us, (hother (S.src k) (hneedlt _ s1 _ s4).1 (hne_of _ (hneedlt _ s1 _ s4).1 hsrcL) (hneedlt _ s1 _ s4).2).trans u1, u2, u3, hlt u4⟩
      · intro k j Tk zk Tj zj hk' hj' hLk hLj hkk hkj hne
        rw [hset] at hLk hLj
        have h1 : k ≠ i := fun e => by subst e; rw [hk] at hkk; cases hkk
        have h2 : j ≠ i := fun e => by subst e; rw [hk] at hkj; cases hkj
        exact hI.apart k j Tk zk Tj zj hk' hj' (hLk.resolve_left h1) (hLj.resolve_left h2) hkk hkj hne
    | box T z =>
      have hnp : (S.kd i).isPut = false := by rw [hk]; rfl
      have hdst : o.dst = some (S.f i) := by rw [hA.dst, hnp]; rfl
      have hslot := hA.slot hnp
      unfold Oper.wp
      rw [hbox i o T z ho hk a w]
      show ∃ blk, _
      rw [hdst]
      have hself : ∀ v, S.vals (a.put (some (S.f i)) v) i = v := fun v => eval_put_self (by rw [hI.agree.1]; exact hslot) v
      have hother : ∀ v j, j < ops.size → j ≠ i → (S.kd j).isPut = false → S.vals (a.put (some (S.f i)) v) j = S.vals a j := fun v j hj hne hp => eval_put_ne (hA.inj j hj (Ne.symm hne) hnp hp) v
      have hne_of : ∀ k, k < ops.size → L.getD k false = true → k ≠ i := fun k _ hL e => hnot (e ▸ hL)
      have hb : Below w.heap.size w (w.alloc (.cells z T)) := (Below.refl _ _).alloc (Nat.le_refl _) _
      obtain ⟨t1, t2, t3, t4, t5⟩ := hA.box T z hk
      refine ⟨fun k => if k = i then w.heap.size else blk k, hI.agree.put (Shape.mem_slots hi hnp) _, hI.below.trans (hb.mono hI.hsz), Nat.le_trans hI.hsz hb.size, hclosed, ?_, ?_, ?_⟩
      · intro k hk' hL hkv
        rw [hset] at hL
        have hki : k ≠ i := fun e => by subst e; rw [hk] at hkv; cases hkv
        have hLk := hL.resolve_left hki
        refine (hstab k _ hk').1 w _ (hdep k (S.vals a) _ w hk' (fun j hj => ?_) (hI.vals k hk' hLk hkv)) hb
        rcases hj with rfl | hj
        · exact (hother _ j hk' hki (notput_val hkv)).symm
        · exact (hother _ j (hneedlt k hk' j hj).1 (hne_of j (hneedlt k hk' j hj).1 (hI.closed k hk' hLk j hj)) (hneedlt k hk' j hj).2).symm
      · intro k T' z' hk' hL hkb
        rw [hset] at hL
        by_cases hki : k = i
        · subst hki
          rw [hk] at hkb
          cases hkb
          refine ⟨by rw [hself]; simp, by simp; exact hI.hsz, fun _ => by simp; exact Box.new w T z, fun hy => ?_⟩
          rw [hset] at hy
          rcases hy with hy | hy
          · rw [hy, hk] at t2; cases t2
          · exact absurd (hI.closed _ t1 hy _ t3) hnot
        · have hLk := hL.resolve_left hki
          obtain ⟨h1, h2, h3, h4⟩ := hI.boxes k T' z' hk' hLk hkb
          have hAk := Shape.ok_at hok (Array.getElem?_eq_getElem hk')
          obtain ⟨s1, s2, s3, s4, s5⟩ := hAk.box T' z' hkb
          have hsti : S.st k ≠ i := fun e => by rw [e, hk] at s2; cases s2
          have hLst : ((L.setIfInBounds i true).getD (S.st k) false = true) ↔ (L.getD (S.st k) false = true) := by rw [hset]; simp [hsti]
          have hlt : ∀ {c : Array Value}, Box w (blk k) T' c → Box (w.alloc (.cells z T)) (blk k) T' c := fun hb' => hb'.below hb hb'.lt
          simp only [if_neg hki]
          refine ⟨(hother _ k hk' hki (by rw [hkb]; rfl)).trans h1, h2, fun hn => hlt (h3 (fun x => hn (hLst.2 x))), fun hy => ?_⟩
          obtain ⟨us, u1, u2, u3, u4⟩ := h4 (hLst.1 hy)
          have hsrcL := hI.closed (S.st k) s1 (hLst.1 hy) (S.src k) s4
          exact ⟨us, (hother _ (S.src k) (hneedlt _ s1 _ s4).1 (hne_of _ (hneedlt _ s1 _ s4).1 hsrcL) (hneedlt _ s1 _ s4).2).trans u1, u2, u3, hlt u4⟩
      · have hltk : ∀ k T' z', k < ops.size → L.getD k false = true → S.kd k = .box T' z' → blk k < w.heap.size := by
          intro k T' z' hk' hLk hkb
          obtain ⟨h1, h2, h3, h4⟩ := hI.boxes k T' z' hk' hLk hkb
          by_cases hst : L.getD (S.st k) false = true
          · obtain ⟨us, _, _, _, u4⟩ := h4 hst
            exact u4.lt
          · exact (h3 hst).lt
        intro k j Tk zk Tj zj hk' hj' hLk hLj hkk hkj hne
        rw [hset] at hLk hLj
        by_cases h1 : k = i
        · have h2 : j ≠ i := fun e => hne (h1.trans e.symm)
          have := hltk j Tj zj hj' (hLj.resolve_left h2) hkj
          simp only [if_pos h1, if_neg h2]; omega
        · by_cases h2 : j = i
          · have := hltk k Tk zk hk' (hLk.resolve_left h1) hkk
            simp only [if_neg h1, if_pos h2]; omega
          · simp only [if_neg h1, if_neg h2]
            exact hI.apart k j Tk zk Tj zj hk' hj' (hLk.resolve_left h1) (hLj.resolve_left h2) hkk hkj hne
    | put p s =>
      have hdst : o.dst = none := by rw [hA.dst, hk]; rfl
      obtain ⟨p1, p2, p3, p4, p5, ⟨T, z, hp⟩, hsv⟩ := hA.put p s hk
      have hLp := hneed p p4
      have hLs := hneed s p5
      obtain ⟨h1, h2, h3, h4⟩ := hI.boxes p T z p1 hLp hp
      have hbx := h3 (by rw [p2]; exact hnot)
      obtain ⟨us, u1, u2, u3, u4⟩ := hput i o p s T z ho hk hp a w (blk p) h1 (hI.vals s (hneedlt i hi s p5).1 hLs hsv) hbx
      unfold Oper.wp
      rw [u4]
      show ∃ blk, _
      rw [hdst]
      have hAp := Shape.ok_at hok (Array.getElem?_eq_getElem p1)
      have hz := (hAp.box T z hp).2.2.2.2
      refine ⟨blk, hI.agree, setFrom_below h2 _ _ _ _ hI.below, by rw [setFrom_size]; exact hI.hsz, hclosed, ?_, ?_, ?_⟩
      · intro k hk' hL hkv
        rw [hset] at hL
        have hki : k ≠ i := fun e => by subst e; rw [hk] at hkv; cases hkv
        exact (hstab k _ hk').setFrom h2 us u3 w 0 z (hI.vals k hk' (hL.resolve_left hki) hkv) hbx hz
      · intro k T' z' hk' hL hkb
        rw [hset] at hL
        have hki : k ≠ i := fun e => by subst e; rw [hk] at hkb; cases hkb
        have hLk := hL.resolve_left hki
        obtain ⟨g1, g2, g3, g4⟩ := hI.boxes k T' z' hk' hLk hkb
        by_cases hkp : k = p
        · subst hkp
          rw [hp] at hkb
          cases hkb
          refine ⟨g1, g2, fun hn => absurd ((hset _).2 (.inl p2)) hn, fun _ => ⟨us, by rw [p3]; exact u1, u2, u3, setFrom_box0 us hbx u2.symm⟩⟩
        · have hAk := Shape.ok_at hok (Array.getElem?_eq_getElem hk')
          obtain ⟨s1, s2, s3, s4, s5⟩ := hAk.box T' z' hkb
          have hsti : S.st k ≠ i := fun e => by rw [e, hk] at s2; cases s2; exact hkp rfl
          have hLst : ((L.setIfInBounds i true).getD (S.st k) false = true) ↔ (L.getD (S.st k) false = true) := by rw [hset]; simp [hsti]
          have hne := hI.apart k p T' z' T z hk' p1 hLk hLp hkb hp hkp
          have hlt : ∀ {c : Array Value}, Box w (blk k) T' c → Box (setFrom w (blk p) 0 us) (blk k) T' c := fun hb' => (setFrom_other hne us w 0).trans hb'
          refine ⟨g1, g2, fun hn => hlt (g3 (fun x => hn (hLst.2 x))), fun hy => ?_⟩
          obtain ⟨vs, v1, v2, v3, v4⟩ := g4 (hLst.1 hy)
          exact ⟨vs, v1, v2, v3, hlt v4⟩
      · intro k j Tk zk Tj zj hk' hj' hLk hLj hkk hkj hne
        rw [hset] at hLk hLj
        have e1 : k ≠ i := fun e => by subst e; rw [hk] at hkk; cases hkk
        have e2 : j ≠ i := fun e => by subst e; rw [hk] at hkj; cases hkj
        exact hI.apart k j Tk zk Tj zj hk' hj' (hLk.resolve_left e1) (hLj.resolve_left e2) hkk hkj hne
end
end Go.Proofs.Ytcgnmihabkgecaa

/- The region 'a, b := of(x, n), of(y, n)', in whatever order its blocks are made. -/
set_option linter.unusedVariables false
namespace Go.Proofs.Ytcgnmihabkgecaa
open Go.RowKit Go.Proofs

/-- v is an integer of the specification -/
def IsJ (z : Int) (v : Value) (w : World) : Prop := ∃ n o l c, v = .agg #[.bool n, .slice o l c] ∧ l ≤ c ∧ c ≤ 9223372036854775807 ∧ Z16 w n o l z
/-- v is an integer of the program -/
def IsI (z : Int) (v : Value) (w : World) : Prop := ∃ n o l c, v = .agg #[.bool n, .slice o l c] ∧ Z32 w n o l z

theorem Stable.n16 (base : Nat) (ao : Option Addr) (len n : Nat) : Stable base (fun w => N16 w ao len n) :=
  ⟨fun w w' h hb => h.keep hb, fun w g T c k u h _ hb hc => by
    obtain ⟨xs, h1, h2⟩ := h
    exact ⟨xs, h1.setBox hb (noInts_get hc) k u, h2⟩⟩
theorem Stable.z16 (base : Nat) (neg : Bool) (ao : Option Addr) (len : Nat) (z : Int) : Stable base (fun w => Z16 w neg ao len z) :=
  Stable.ex fun n => (Stable.n16 base ao len n).and (Stable.const base _)
theorem Stable.isJ (base : Nat) (z : Int) (v : Value) : Stable base (IsJ z v) :=
  Stable.ex fun n => Stable.ex fun o => Stable.ex fun l => Stable.ex fun c => (Stable.const base _).and ((Stable.const base _).and ((Stable.const base _).and (Stable.z16 base n o l z)))
theorem Stable.isI (base : Nat) (z : Int) (v : Value) : Stable base (IsI z v) :=
  Stable.ex fun n => Stable.ex fun o => Stable.ex fun l => Stable.ex fun c => (Stable.const base _).and (Stable.z32 base n o l z)

theorem OutJ.is {W w' : World} {z : Int} {e : Ending} (h : OutJ W z e w') : ∃ v, e = .returned v ∧ IsJ z v w' ∧ Below W.heap.size W w' := by
  obtain ⟨n, o, l, c, rfl, h1, h2, h3, h4⟩ := h
  exact ⟨_, rfl, ⟨n, o, l, c, rfl, h1, h2, h3⟩, h4⟩

/-- a call as an operation of a plan -/
theorem wp_call {P : Program} {Q : Exit → Act → World → Prop} {o : Oper} {a : Act} {w : World} {f : FuncId} {args : Array Value} {φ : Value → World → Prop} {K : Act → World → Prop}
    (hr : (execOp a.eval o).run P w = .ok (.enter f args) w) (hc : Calls P f args w fun e w' => ∃ v, e = .returned v ∧ φ v w' ∧ Below w.heap.size w w')
    (hK : ∀ v w', Below w.heap.size w w' → φ v w' → K (a.put o.dst v) w') : o.wp P a w K Q := by
  unfold Oper.wp
  rw [hr]
  refine hc.mono ?_
  rintro e w' ⟨v, rfl, h1, h2⟩
  exact hK v w' h2 h1

theorem wp_value {P : Program} {Q : Exit → Act → World → Prop} {o : Oper} {a : Act} {w w' : World} {v : Value} {K : Act → World → Prop}
    (hr : (execOp a.eval o).run P w = .ok (.value v) w') (hK : K (a.put o.dst v) w') : o.wp P a w K Q := by
  unfold Oper.wp
  rw [hr]
  exact hK

theorem run_enter {P : Program} {f : FuncId} {fn : Func} {c : Code} (hf : P.funcs[f]? = some fn) (hname : (fn.name == "runtime.NumGoroutine") = false) (hb : fn.body = some c) (args : Array Value) (w : World) :
    (callFunc f args).run P w = .ok (.enter f args) w := by
  have h1 : ¬ fn.name = "runtime.NumGoroutine" := by simpa using hname
  simp [callFunc, hf, h1, hb]

theorem run_call {P : Program} {o : Oper} {f : FuncId} {fn : Func} {c : Code} {xs : Array Operand} {ts : Array TypeId} (hf : P.funcs[f]? = some fn) (hname : (fn.name == "runtime.NumGoroutine") = false) (hb : fn.body = some c)
    (h : o.op = .call { callee := .value (.func f), args := xs, argTypes := ts }) (a : Act) (w : World) :
    (execOp a.eval o).run P w = .ok (.enter f (xs.map a.eval)) w := by
  unfold execOp
  rw [h]
  simp [go_sem, Act.eval, run_enter hf hname hb]

def twoS (t0 t1 t2 t3 p q : Nat) (T : Nat) (z : Array Value) : Shape where
  f := fun i => match i with | 0 => t0 | 1 => t1 | 2 => t2 | 3 => t3 | 4 => p | 5 => q | _ => 0
  kd := fun i => match i with | 4 => .box T z | 5 => .box T z | 6 => .put 4 1 | 7 => .put 5 3 | _ => .val
  need := fun i => match i with | 1 => [0] | 3 => [2] | 6 => [4, 1] | 7 => [5, 3] | _ => []
  st := fun i => match i with | 4 => 6 | _ => 7
  src := fun i => match i with | 4 => 1 | _ => 3

def twoΦ (r1 r2 : Value) (z1 z2 : Int) (i : Nat) (v : Value) (w : World) : Prop :=
  match i with | 0 => v = r1 | 1 => IsJ z1 v w | 2 => v = r2 | _ => IsJ z2 v w

set_option maxHeartbeats 1000000 in
theorem two_of {Q : Exit → Act → World → Prop} {id : Nat} {a0 : Act} {W : World} {o0 o1 o2 o3 o4 o5 o6 o7 : Oper} (t0 t1 t2 t3 p q r s : Nat) (f : FuncId) (K : Value) (u1 u2 v1 v2 : Value) (g h : Nat) (z1 z2 : Int) (ts : Array TypeId) {fn : Func} {cb : Code}
    (hfn : Try.prog.funcs[f]? = some fn) (hname : (fn.name == "runtime.NumGoroutine") = false) (hbody : fn.body = some cb)
    (hok : (twoS t0 t1 t2 t3 p q 32 #[.bool false, .slice none 0 0]).ok #[o0, o1, o2, o3, o4, o5, o6, o7] a0.tmps.size = true)
    (h0 : o0.op = .load 24 (.tmp r)) (h1 : o1.op = .call { callee := .value (.func f), args := #[.tmp t0, .const K], argTypes := ts })
    (h2 : o2.op = .load 24 (.tmp s)) (h3 : o3.op = .call { callee := .value (.func f), args := #[.tmp t2, .const K], argTypes := ts })
    (h4 : o4.op = .alloc 32) (h5 : o5.op = .alloc 32) (h6 : o6.op = .store 32 (.tmp p) (.tmp t1)) (h7 : o7.op = .store 32 (.tmp q) (.tmp t3))
    (hr : a0.eval (.tmp r) = .pointer (some ⟨g, 0, none⟩)) (hs : a0.eval (.tmp s) = .pointer (some ⟨h, 0, none⟩))
    (hrs : r ∉ [t0, t1, t2, t3, p, q]) (hss : s ∉ [t0, t1, t2, t3, p, q]) (hg : g < W.heap.size) (hh : h < W.heap.size)
    (c1 : W.cell? ⟨g, 0, none⟩ = some u1) (c2 : W.cell? ⟨g, 1, none⟩ = some u2) (c3 : W.cell? ⟨h, 0, none⟩ = some v1) (c4 : W.cell? ⟨h, 1, none⟩ = some v2)
    (hc1 : ∀ w, Below W.heap.size W w → W.heap.size ≤ w.heap.size → Calls Try.prog f #[.agg #[u1, u2], K] w (OutJ w z1))
    (hc2 : ∀ w, Below W.heap.size W w → W.heap.size ≤ w.heap.size → Calls Try.prog f #[.agg #[v1, v2], K] w (OutJ w z2))
    (hend : ∀ w b1 b2 n1 x1 l1 k1 n2 x2 l2 k2, Below W.heap.size W w → W.heap.size ≤ b1 → W.heap.size ≤ b2 → b1 ≠ b2 → Box w b1 32 #[.bool n1, .slice x1 l1 k1] → Box w b2 32 #[.bool n2, .slice x2 l2 k2] →
      l1 ≤ k1 → k1 ≤ 9223372036854775807 → l2 ≤ k2 → k2 ≤ 9223372036854775807 → Z16 w n1 x1 l1 z1 → Z16 w n2 x2 l2 z2 →
      Q .normal (puts a0 [(t0, .agg #[u1, u2]), (t1, .agg #[.bool n1, .slice x1 l1 k1]), (t2, .agg #[v1, v2]), (t3, .agg #[.bool n2, .slice x2 l2 k2]), (p, .pointer (some ⟨b1, 0, none⟩)), (q, .pointer (some ⟨b2, 0, none⟩))]) w) :
    (Code.region id #[o0, o1, o2, o3, o4, o5, o6, o7] true).wp Try.prog Q a0 W := by
  refine Shape.region (twoS t0 t1 t2 t3 p q 32 #[.bool false, .slice none 0 0]) (fun i v w => twoΦ (.agg #[u1, u2]) (.agg #[v1, v2]) z1 z2 i (v i) w) (by kernel_rfl) hok
    (fun i v v' w _ hj hΦ => by rw [← hj i (.inl rfl)]; exact hΦ) ?stab ?val ?box ?put rfl ?fin
  case stab =>
    intro i v hi
    match i with
    | 0 => exact Stable.const _ _
    | 1 => exact Stable.isJ _ _ _
    | 2 => exact Stable.const _ _
    | i + 3 => exact Stable.isJ _ _ _
  case val =>
    intro i o ho hv a w hA hb hz hn K' hK
    match i, ho, hv with
    | 0, ho, _ =>
      have ho' : o0 = o := by simpa using ho
      subst ho'
      have e : a.eval (.tmp r) = .pointer (some ⟨g, 0, none⟩) := (hA.eval hrs).trans hr
      refine wp_value (v := .agg #[u1, u2]) (w' := w) ?_ (hK _ _ (Below.refl _ _) (by simp [upd, twoΦ]))
      have d1 := (hb.cell (p := ⟨g, 0, none⟩) hg).trans c1
      have d2 := (hb.cell (p := ⟨g, 1, none⟩) hg).trans c2
      unfold execOp
      rw [h0]
      dsimp only
      rw [e]
      simp [go_sem, d1, d2]
    | 1, ho, _ =>
      have ho' : o1 = o := by simpa using ho
      subst ho'
      have e := hn 0 (by simp [twoS]) rfl
      refine wp_call (run_call hfn hname hbody h1 a w) ((?_ : Calls _ _ _ _ _).mono fun e w' h => OutJ.is h) (fun v w' hb' hφ => hK v w' hb' (by simpa [upd, twoΦ] using hφ))
      have e2 : a.eval (.tmp t0) = .agg #[u1, u2] := e
      have em : Array.map a.eval #[Operand.tmp t0, Operand.const K] = #[a.eval (.tmp t0), K] := by simp only [List.map_toArray, List.map_cons, List.map_nil]; rfl
      rw [em, e2]
      exact hc1 w (below_undrew hb) hz
    | 2, ho, _ =>
      have ho' : o2 = o := by simpa using ho
      subst ho'
      have e : a.eval (.tmp s) = .pointer (some ⟨h, 0, none⟩) := (hA.eval hss).trans hs
      refine wp_value (v := .agg #[v1, v2]) (w' := w) ?_ (hK _ _ (Below.refl _ _) (by simp [upd, twoΦ]))
      have d1 := (hb.cell (p := ⟨h, 0, none⟩) hh).trans c3
      have d2 := (hb.cell (p := ⟨h, 1, none⟩) hh).trans c4
      unfold execOp
      rw [h2]
      dsimp only
      rw [e]
      simp [go_sem, d1, d2]
    | 3, ho, _ =>
      have ho' : o3 = o := by simpa using ho
      subst ho'
      have e := hn 2 (by simp [twoS]) rfl
      refine wp_call (run_call hfn hname hbody h3 a w) ((?_ : Calls _ _ _ _ _).mono fun e w' h => OutJ.is h) (fun v w' hb' hφ => hK v w' hb' (by simpa [upd, twoΦ] using hφ))
      have e2 : a.eval (.tmp t2) = .agg #[v1, v2] := e
      have em : Array.map a.eval #[Operand.tmp t2, Operand.const K] = #[a.eval (.tmp t2), K] := by simp only [List.map_toArray, List.map_cons, List.map_nil]; rfl
      rw [em, e2]
      exact hc2 w (below_undrew hb) hz
    | 4, _, hv => cases hv
    | 5, _, hv => cases hv
    | 6, _, hv => cases hv
    | 7, _, hv => cases hv
    | i + 8, ho, _ => simp at ho
  case box =>
    intro i o T z ho hk a w
    match i, ho, hk with
    | 0, _, hk => cases hk
    | 1, _, hk => cases hk
    | 2, _, hk => cases hk
    | 3, _, hk => cases hk
    | 6, _, hk => cases hk
    | 7, _, hk => cases hk
    | i + 8, ho, _ => simp at ho
    | 4, ho, hk => have ho' : o4 = o := by simpa using ho
                   subst ho'; cases hk; unfold execOp; rw [h4]; simp [go_sem]
    | 5, ho, hk => have ho' : o5 = o := by simpa using ho
                   subst ho'; cases hk; unfold execOp; rw [h5]; simp [go_sem]
  case put =>
    intro i o p' s' T z ho hk hp a w b hva hφ hbx
    match i, ho, hk with
    | 0, _, hk => cases hk
    | 1, _, hk => cases hk
    | 2, _, hk => cases hk
    | 3, _, hk => cases hk
    | 4, _, hk => cases hk
    | 5, _, hk => cases hk
    | i + 8, ho, _ => simp at ho
    | 6, ho, hk =>
      have ho' : o6 = o := by simpa using ho
      subst ho'; cases hk; cases hp
      obtain ⟨n, x, l, c, e, _⟩ := hφ
      have e1 : a.eval (.tmp t1) = .agg #[.bool n, .slice x l c] := e
      have e2 : a.eval (.tmp p) = .pointer (some ⟨b, 0, none⟩) := hva
      have d1 := hbx.cell 0
      have d2 := hbx.cell 1
      have f1 := hbx.frozen 0
      have f2 := hbx.frozen 1
      refine ⟨[.bool n, .slice x l c], e, rfl, by simp [isInt], ?_⟩
      unfold execOp; rw [h6]
      dsimp only
      rw [e1, e2]
      simp [go_sem, d1, d2, f1, f2, setFrom]
    | 7, ho, hk =>
      have ho' : o7 = o := by simpa using ho
      subst ho'; cases hk; cases hp
      obtain ⟨n, x, l, c, e, _⟩ := hφ
      have e1 : a.eval (.tmp t3) = .agg #[.bool n, .slice x l c] := e
      have e2 : a.eval (.tmp q) = .pointer (some ⟨b, 0, none⟩) := hva
      have d1 := hbx.cell 0
      have d2 := hbx.cell 1
      have f1 := hbx.frozen 0
      have f2 := hbx.frozen 1
      refine ⟨[.bool n, .slice x l c], e, rfl, by simp [isInt], ?_⟩
      unfold execOp; rw [h7]
      dsimp only
      rw [e1, e2]
      simp [go_sem, d1, d2, f1, f2, setFrom]
  case fin =>
    intro a w blk hI
    have n8 : (#[o0, o1, o2, o3, o4, o5, o6, o7] : Array Oper).size = 8 := rfl
    rw [n8] at hI
    have hf := hI.agree.form
    have e0 : a.eval (.tmp t0) = .agg #[u1, u2] := hI.vals 0 (by decide) (by decide) rfl
    obtain ⟨n1, x1, l1, k1, e1, a1, a2, a3⟩ : IsJ z1 (a.eval (.tmp t1)) w := hI.vals 1 (by decide) (by decide) rfl
    have e2 : a.eval (.tmp t2) = .agg #[v1, v2] := hI.vals 2 (by decide) (by decide) rfl
    obtain ⟨n2, x2, l2, k2, e3, b1, b2, b3⟩ : IsJ z2 (a.eval (.tmp t3)) w := hI.vals 3 (by decide) (by decide) rfl
    obtain ⟨p1, p2, _, p3⟩ := hI.boxes 4 32 #[.bool false, .slice none 0 0] (by decide) (by decide) rfl
    obtain ⟨us, y1, y2, y3, y4⟩ := p3 (show (6 : Nat) < 8 by decide)
    obtain ⟨q1, q2, _, q3⟩ := hI.boxes 5 32 #[.bool false, .slice none 0 0] (by decide) (by decide) rfl
    obtain ⟨vs, w1, w2, w3, w4⟩ := q3 (show (7 : Nat) < 8 by decide)
    have y5 : a.eval (.tmp t1) = .agg us.toArray := y1
    have w5 : a.eval (.tmp t3) = .agg vs.toArray := w1
    rw [e1] at y5
    rw [e3] at w5
    cases y5
    cases w5
    have e4 : a.eval (.tmp p) = .pointer (some ⟨blk 4, 0, none⟩) := p1
    have e5 : a.eval (.tmp q) = .pointer (some ⟨blk 5, 0, none⟩) := q1
    have hsl : (twoS t0 t1 t2 t3 p q 32 #[.bool false, .slice none 0 0]).slots 8 = [t0, t1, t2, t3, p, q] := rfl
    rw [hsl] at hf
    simp only [List.map_cons, List.map_nil, e0, e1, e2, e3, e4, e5] at hf
    rw [hf]
    exact hend w (blk 4) (blk 5) n1 x1 l1 k1 n2 x2 l2 k2 (below_undrew hI.below) p2 q2 (hI.apart 4 5 _ _ _ _ (by decide) (by decide) (by decide) (by decide) rfl rfl (by decide)) y4 w4 a1 a2 b1 b2 a3 b3
end Go.Proofs.Ytcgnmihabkgecaa

/- Facts for the laws of two integers. -/
set_option linter.unusedVariables false
namespace Go.Proofs.Ytcgnmihabkgecaa
open Go.RowKit Go.Proofs

/-- an answer with an error is told of z -/
def ToldOk (z er z' : Int) : Prop := (Fits z ∧ er = 0 ∧ z' = z) ∨ (¬ Fits z ∧ er = 3 ∧ z' = 0)

def OutT (W : World) (z : Int) (e : Ending) (w' : World) : Prop :=
  ∃ neg ao len cap er z', e = .returned (.tuple #[.agg #[.bool neg, .slice ao len cap], .int .i64 er]) ∧ len ≤ 512 ∧ Z32 w' neg ao len z' ∧ Below W.heap.size W w' ∧ ToldOk z er z'

theorem OutF.told {W w' : World} {z : Int} {e : Ending} (h : OutF W z e w') : OutT W z e w' := by
  rcases h with ⟨h, neg, ao, len, cap, rfl, hz, hb⟩ | ⟨h, rfl, hb⟩
  · exact ⟨neg, ao, len, cap, 0, z, rfl, fits_len hz h, hz, hb, .inl ⟨h, rfl, rfl⟩⟩
  · exact ⟨false, none, 0, 0, 3, 0, rfl, by omega, Z32.nil _, hb, .inr ⟨h, rfl, rfl⟩⟩

def Two (x y : Int) (W : World) (e : Ending) (w' : World) : Prop :=
  ∃ na ao la ca nb bo lb cb, e = .returned (.tuple #[.agg #[.bool na, .slice ao la ca], .agg #[.bool nb, .slice bo lb cb], .bool true]) ∧ la ≤ 512 ∧ lb ≤ 512 ∧ Z32 w' na ao la x ∧ Z32 w' nb bo lb y ∧ Below W.heap.size W w'

theorem TwoPost.fits {x y : Int} {W w' : World} {e : Ending} (h : TwoPost x y W e w') (hx : Fits x) (hy : Fits y) : Two x y W e w' := by
  obtain ⟨na, ao, la, ca, nb, bo, lb, cb, ok1, ok2, x', y', rfl, h1, h2, h3, h4, h5, h6, h7⟩ := h
  rcases h6 with ⟨_, rfl, rfl⟩ | ⟨h, _⟩
  · rcases h7 with ⟨_, rfl, rfl⟩ | ⟨h, _⟩
    · exact ⟨na, ao, la, ca, nb, bo, lb, cb, rfl, h1, h2, h3, h4, h5⟩
    · exact absurd hy h
  · exact absurd hx h

theorem fits_lt16 {x : Int} (hx : Fits x) : ∀ k, 16384 ≤ 16 * k → x.natAbs < B16 ^ k := by
  intro k hk
  have h1 := blen_le.2 (blen_lt x.natAbs)
  have h2 : blen x.natAbs ≤ 16 * k := Nat.le_trans hx hk
  rw [B16_pow]
  exact blen_le.1 h2

theorem sum_len16 {w : World} {neg : Bool} {ao : Option Addr} {len : Nat} {x y : Int} (hx : Fits x) (hy : Fits y) (h : Z16 w neg ao len (x + y)) : len ≤ 1000000000 := by
  refine Nat.le_trans (h.n16.len_le (k := 1026) ?_) (by omega)
  obtain ⟨k, hk⟩ : ∃ k, k = 1025 := ⟨_, rfl⟩
  have h1 := fits_lt16 hx k (by omega)
  have h2 := fits_lt16 hy k (by omega)
  have h3 : (x + y).natAbs ≤ x.natAbs + y.natAbs := Int.natAbs_add_le x y
  rw [show 1026 = k + 1 by omega, Nat.pow_succ, B16_eq] at *
  omega

theorem mul_len16 {w : World} {neg : Bool} {ao : Option Addr} {len : Nat} {x y : Int} (hx : Fits x) (hy : Fits y) (h : Z16 w neg ao len (x * y)) : len ≤ 1000000000 := by
  refine Nat.le_trans (h.n16.len_le (k := 2050) ?_) (by omega)
  obtain ⟨k, hk⟩ : ∃ k, k = 1025 := ⟨_, rfl⟩
  have h1 := fits_lt16 hx k (by omega)
  have h2 := fits_lt16 hy k (by omega)
  rw [Int.natAbs_mul, show 2050 = k + k by omega, Nat.pow_add]
  exact Nat.mul_lt_mul'' h1 h2

theorem sub_len16 {w : World} {neg : Bool} {ao : Option Addr} {len : Nat} {x y : Int} (hx : Fits x) (hy : Fits y) (h : Z16 w neg ao len (x - y)) : len ≤ 1000000000 := sum_len16 hx (fits_neg hy) h
end Go.Proofs.Ytcgnmihabkgecaa
