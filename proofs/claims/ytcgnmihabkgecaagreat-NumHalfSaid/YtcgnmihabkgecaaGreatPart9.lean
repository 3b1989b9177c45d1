/- Part 9 of the contracts: RefP, RefQ, RefS, Law2, Numeral, Law3, Law4, RefT, Raw, RefI, Post, ArgRaw. -/
import Derived.ProofKit
import Derived.Carry
import Derived.Lib.SmallJoins
import Derived.OpenShut
import Derived.Test.YtcgnmihabkgecaaGreatPart8

/- The specification: numeral, parse. -/
set_option linter.unusedVariables false
namespace Go.Proofs.YtcgnmihabkgecaaGreat
open Go.RowKit Go.Proofs

def numB (xs : List UInt8) : Bool := hasDigs xs && (decide (xs.length = 1) || decide (xs.head? ≠ some 48))

set_option maxHeartbeats 800000 in
theorem numeral16_any (xs : List UInt8) (w : World) (hl : xs.length ≤ 1000000000) :
    Calls Tryz.prog 37 #[.string ⟨xs.toArray⟩] w fun e w' => e = .returned (.bool (numB xs)) ∧ w = w' := by
  by_cases hz : xs.length = 0
  · have : xs = [] := List.eq_nil_of_length_eq_zero hz
    subst this
    go_enter Tryz.func37, Tryz.ntmps37
    go_wp2
    go_ret
    exact ⟨rfl, rfl⟩
  · obtain ⟨x, t, rfl⟩ : ∃ x t, xs = x :: t := by
      cases xs with
      | nil => simp at hz
      | cons x t => exact ⟨x, t, rfl⟩
    clear hz
    obtain ⟨xs, hxs⟩ : ∃ xs, xs = x :: t := ⟨_, rfl⟩
    rw [← hxs] at hl ⊢
    have hlen : xs.length = t.length + 1 := by rw [hxs]; rfl
    have h00 : 0 < xs.length := by omega
    have hx0 : xs[0]'h00 = x := by subst hxs; rfl
    have hhead : xs.head? = some x := by rw [hxs]; rfl
    have hs0 : 0 < (⟨xs.toArray⟩ : ByteArray).size := by rw [str_size]; exact h00
    have hc0 : ((⟨xs.toArray⟩ : ByteArray)[0]'hs0).toNat = x.toNat := congrArg UInt8.toNat hx0
    have HH := Lib.hid hhead
    clear hxs hhead hx0 hlen
    by_cases hbad : 1 < xs.length ∧ x.toNat = 48
    · have HE : Hid (numB xs = false) := by
        show _ = _
        unfold numB
        rw [HH.out, Bool.and_eq_false_iff]
        right
        have : x = 48 := UInt8.toNat_inj.1 hbad.2
        simp [this]
        omega
      have t1 : (1 : Int) < (xs.length : Int) := by omega
      have t0 : ¬ ((xs.length : Int) = 0) := by omega
      have t0b : ((xs.length : Int) == 0) = false := by simpa using t0
      have t0c : ¬ xs = [] := fun e => by rw [e] at h00; simp at h00
      have t2 : ((((⟨xs.toArray⟩ : ByteArray)[0]'hs0).toNat : Nat) : Int) = 48 := by rw [hc0]; omega
      have t3 : (((((⟨xs.toArray⟩ : ByteArray)[0]'hs0).toNat : Nat) : Int) == 48) = true := by rw [hc0, hbad.2]; rfl
      clear hbad hc0
      rw [HE.out]
      go_enter Tryz.func37, Tryz.ntmps37
      go_wp2
      go_ret
      exact ⟨rfl, rfl⟩
    · have HFA : Hid (hasDigs xs = false → numB xs = false) := fun h => by unfold numB; rw [h]; rfl
      have HTR : Hid (xs.all isDig = true → numB xs = true) := fun h => by
        unfold numB hasDigs
        rw [h, HH.out]
        have hne : xs ≠ [] := fun e => by rw [e] at h00; simp at h00
        by_cases h1 : xs.length = 1
        · simp [h1, hne]
        · have : x ≠ 48 := fun e => hbad ⟨by omega, by rw [e]; rfl⟩
          simp [hne, this]
      have t0 : ¬ ((xs.length : Int) = 0) := by omega
      have t0b : ((xs.length : Int) == 0) = false := by simpa using t0
      have t0c : ¬ xs = [] := fun e => by rw [e] at h00; simp at h00
      have hcase : xs.length = 1 ∨ (1 < xs.length ∧ x.toNat ≠ 48) := by omega
      clear hbad
      rcases hcase with h1 | ⟨h1, h2⟩
      · have t1 : ¬ (1 : Int) < (xs.length : Int) := by omega
        clear hc0
        go_enter Tryz.func37, Tryz.ntmps37
        go_wp2
        go_loop [3] (fun t => ∃ i : Nat, i ≤ xs.length ∧ t = .int .i64 i ∧ (xs.take i).all isDig = true) (fun t => xs.length - (intOf t).toNat)
        case atStart => exact ⟨0, by omega, rfl, by simp⟩
        case round =>
          obtain ⟨i, hi, rfl, hall⟩ := hrel
          have HA := Lib.hid hall
          clear hall
          by_cases hil : i < xs.length
          · have t1 : (i : Int) < (xs.length : Int) := by omega
            have hs : i < (⟨xs.toArray⟩ : ByteArray).size := by rw [str_size]; exact hil
            obtain ⟨c, hc⟩ : ∃ c : Nat, c = xs[i].toNat := ⟨_, rfl⟩
            have hc2 : ((⟨xs.toArray⟩ : ByteArray)[i]'hs).toNat = c := hc.symm
            have HC := Lib.hid hc
            clear hc
            by_cases h1 : c < 48
            · have t2 : ¬ (48 : Int) ≤ ((((⟨xs.toArray⟩ : ByteArray)[i]'hs).toNat : Nat) : Int) := by rw [hc2]; omega
              have HX : Hid (numB xs = false) := HFA.out (hasDigs_false hil (by unfold isDig; rw [← HC.out]; simp; omega))
              clear hc2
              go_wp2
              go_ret
              exact ⟨ret_bool HX.out.symm, rfl⟩
            · have t2 : (48 : Int) ≤ ((((⟨xs.toArray⟩ : ByteArray)[i]'hs).toNat : Nat) : Int) := by rw [hc2]; omega
              by_cases h2 : c ≤ 57
              · have t3 : ((((⟨xs.toArray⟩ : ByteArray)[i]'hs).toNat : Nat) : Int) ≤ 57 := by rw [hc2]; omega
                have HX : Hid (isDig xs[i] = true) := by show _ = _; unfold isDig; rw [← HC.out]; simp; omega
                clear hc2
                go_wp2
                go_round
                case rel => exact ⟨i + 1, by omega, by go_num, by first | exact all_take_succ hil HA.out HX.out | exact List.all_eq_true.1 (all_take_succ hil HA.out HX.out)⟩
                case measure => simp [intOf]; omega
              · have t3 : ¬ ((((⟨xs.toArray⟩ : ByteArray)[i]'hs).toNat : Nat) : Int) ≤ 57 := by rw [hc2]; omega
                have HX : Hid (numB xs = false) := HFA.out (hasDigs_false hil (by unfold isDig; rw [← HC.out]; simp; omega))
                clear hc2
                go_wp2
                go_ret
                exact ⟨ret_bool HX.out.symm, rfl⟩
          · have t1 : ¬ (i : Int) < (xs.length : Int) := by omega
            have HX : Hid (numB xs = true) := by
              show _ = _
              have := HA.out
              rw [List.take_of_length_le (by omega)] at this
              exact HTR.out this
            go_wp2
            go_ret
            exact ⟨ret_bool HX.out.symm, rfl⟩
      · have t1 : (1 : Int) < (xs.length : Int) := by omega
        have t2 : ¬ ((((⟨xs.toArray⟩ : ByteArray)[0]'hs0).toNat : Nat) : Int) = 48 := by rw [hc0]; omega
        clear hc0 h2
        go_enter Tryz.func37, Tryz.ntmps37
        go_wp2
        go_loop [3] (fun t => ∃ i : Nat, i ≤ xs.length ∧ t = .int .i64 i ∧ (xs.take i).all isDig = true) (fun t => xs.length - (intOf t).toNat)
        case atStart => exact ⟨0, by omega, rfl, by simp⟩
        case round =>
          obtain ⟨i, hi, rfl, hall⟩ := hrel
          have HA := Lib.hid hall
          clear hall
          by_cases hil : i < xs.length
          · have t1 : (i : Int) < (xs.length : Int) := by omega
            have hs : i < (⟨xs.toArray⟩ : ByteArray).size := by rw [str_size]; exact hil
            obtain ⟨c, hc⟩ : ∃ c : Nat, c = xs[i].toNat := ⟨_, rfl⟩
            have hc2 : ((⟨xs.toArray⟩ : ByteArray)[i]'hs).toNat = c := hc.symm
            have HC := Lib.hid hc
            clear hc
            by_cases h1 : c < 48
            · have t2 : ¬ (48 : Int) ≤ ((((⟨xs.toArray⟩ : ByteArray)[i]'hs).toNat : Nat) : Int) := by rw [hc2]; omega
              have HX : Hid (numB xs = false) := HFA.out (hasDigs_false hil (by unfold isDig; rw [← HC.out]; simp; omega))
              clear hc2
              go_wp2
              go_ret
              exact ⟨ret_bool HX.out.symm, rfl⟩
            · have t2 : (48 : Int) ≤ ((((⟨xs.toArray⟩ : ByteArray)[i]'hs).toNat : Nat) : Int) := by rw [hc2]; omega
              by_cases h2 : c ≤ 57
              · have t3 : ((((⟨xs.toArray⟩ : ByteArray)[i]'hs).toNat : Nat) : Int) ≤ 57 := by rw [hc2]; omega
                have HX : Hid (isDig xs[i] = true) := by show _ = _; unfold isDig; rw [← HC.out]; simp; omega
                clear hc2
                go_wp2
                go_round
                case rel => exact ⟨i + 1, by omega, by go_num, by first | exact all_take_succ hil HA.out HX.out | exact List.all_eq_true.1 (all_take_succ hil HA.out HX.out)⟩
                case measure => simp [intOf]; omega
              · have t3 : ¬ ((((⟨xs.toArray⟩ : ByteArray)[i]'hs).toNat : Nat) : Int) ≤ 57 := by rw [hc2]; omega
                have HX : Hid (numB xs = false) := HFA.out (hasDigs_false hil (by unfold isDig; rw [← HC.out]; simp; omega))
                clear hc2
                go_wp2
                go_ret
                exact ⟨ret_bool HX.out.symm, rfl⟩
          · have t1 : ¬ (i : Int) < (xs.length : Int) := by omega
            have HX : Hid (numB xs = true) := by
              show _ = _
              have := HA.out
              rw [List.take_of_length_le (by omega)] at this
              exact HTR.out this
            go_wp2
            go_ret
            exact ⟨ret_bool HX.out.symm, rfl⟩
end Go.Proofs.YtcgnmihabkgecaaGreat

/- The specification: parse. -/
set_option linter.unusedVariables false
namespace Go.Proofs.YtcgnmihabkgecaaGreat
open Go.RowKit Go.Proofs

def ParRel (xs : List UInt8) (W : World) (av iv : Value) (wr : World) : Prop :=
  ∃ (ao : Option Addr) (n cap i : Nat), av = .slice ao n cap ∧ iv = .int .i64 (i : Int) ∧ i ≤ xs.length ∧ n ≤ cap ∧ cap ≤ 9223372036854775807 ∧ N16 wr ao n (dec (xs.take i)) ∧ Below W.heap.size W wr

def ParIn (la d : Nat) (xa : List Nat) (W : World) (cv ov kv : Value) (wr : World) : Prop :=
  ∃ (c k : Nat) (zs : List Nat), cv = .int .i64 (c : Int) ∧ kv = .int .i64 (k : Int) ∧ Own .i64 wr W.heap.size 3 ov k zs ∧ Dig B16 zs ∧ c ≤ 10 ∧ k ≤ la + 1 ∧
    val B16 zs + c * B16 ^ k = d + 10 * val B16 (xa.take k) ∧ (la < k → c = 0 ∧ B16 ^ (k - 1) ≤ val B16 zs) ∧ Below W.heap.size W wr

theorem par_in {la d k c x : Nat} {xa zs : List Nat} {W wr w2 : World} {v' : Value} (hlz : zs.length = k) (hd : Dig B16 zs) (hc : c ≤ 10) (hk : k ≤ la) (hla : xa.length = la) (hx : x = xa[k]?.getD 0) (hxb : x < B16) (hgo : k < la ∨ 0 < c)
    (hv : val B16 zs + c * B16 ^ k = d + 10 * val B16 (xa.take k)) (hb : Below W.heap.size W wr) (ho : Own .i64 w2 W.heap.size 3 v' (k + 1) (zs ++ [(c + 10 * x) % B16])) (hb2 : Below W.heap.size wr w2)
    (C K : Int) (hC : C = (((c + 10 * x) / B16 : Nat) : Int)) (hK : K = (k : Int) + 1) : ParIn la d xa W (.int .i64 C) v' (.int .i64 K) w2 := by
  rw [B16_eq] at hxb
  have e := Nat.mod_add_div (c + 10 * x) B16
  refine ⟨(c + 10 * x) / B16, k + 1, zs ++ [(c + 10 * x) % B16], by rw [hC], by rw [hK]; rfl, ho, hd.append (Dig.cons (Nat.mod_lt _ B16_pos) (Dig.nil _)), by rw [B16_eq]; omega, by omega, ?_, ?_, hb.trans hb2⟩
  · rw [val_snoc, hlz, val_take_succ, ← hx, Nat.pow_succ]
    generalize (c + 10 * x) % B16 = r at *
    generalize (c + 10 * x) / B16 = q at *
    generalize B16 ^ k = p at *
    grind
  · intro h1
    have hx0 : x = 0 := by rw [hx, List.getElem?_eq_none (by omega)]; rfl
    subst hx0
    have hc0 : 0 < c := by omega
    refine ⟨by rw [B16_eq]; omega, ?_⟩
    rw [val_snoc, hlz]
    have : (c + 10 * 0) % B16 = c := by rw [B16_eq]; omega
    rw [this, Nat.add_sub_cancel]
    have : B16 ^ k * 1 ≤ B16 ^ k * c := Nat.mul_le_mul_left _ hc0
    omega

theorem par_top {la d k m : Nat} {xa zs : List Nat} (hlz : zs.length = k) (hd : Dig B16 zs) (hta : Top xa) (hla : xa.length = la) (hm : val B16 xa = m) (hk : la ≤ k) (hv : val B16 zs = d + 10 * m) (ht : la < k → B16 ^ (k - 1) ≤ val B16 zs) : Top zs := by
  refine top_of_ge B16_pos hd (fun hne => ?_)
  rw [hlz]
  by_cases h : la < k
  · exact ht h
  · have hk2 : k = la := by omega
    have hne2 : xa ≠ [] := fun e => by
      rw [e] at hla
      simp at hla
      exact hne (List.eq_nil_of_length_eq_zero (by omega))
    have := val_ge (B := B16) hta hne2
    rw [hla, hm] at this
    rw [hv, hk2]
    omega

/-- what parse answers -/
def Parse16Post (xs : List UInt8) (W : World) (e : Ending) (w' : World) : Prop :=
  ∃ ao len cap er, e = .returned (.tuple #[.slice ao len cap, .int .i64 er]) ∧ len ≤ cap ∧ cap ≤ 9223372036854775807 ∧ Below W.heap.size W w' ∧
    ((numB xs = false ∧ er = 4) ∨ (numB xs = true ∧ (5000 < xs.length ∨ 16384 < blen (dec xs)) ∧ er = 3) ∨
      (numB xs = true ∧ xs.length ≤ 5000 ∧ blen (dec xs) ≤ 16384 ∧ er = 0 ∧ N16 w' ao len (dec xs)))

theorem numB_digits {xs : List UInt8} (h : numB xs = true) : xs.all isDig = true := by
  unfold numB hasDigs at h
  simp only [Bool.and_eq_true] at h
  exact h.1.1

set_option maxHeartbeats 2000000 in
theorem parse16_any (xs : List UInt8) (W : World) (hl : xs.length ≤ 1000000000) :
    Calls Tryz.prog 82 #[.string ⟨xs.toArray⟩] W (Parse16Post xs W) := by
  cases hn : numB xs with
  | false =>
    have HX := Lib.hid hn
    go_enter Tryz.func82, Tryz.ntmps82
    go_wp2_with fail
    refine (numeral16_any xs _ hl).mono ?_
    rw [hn]
    rintro e w1 ⟨rfl, rfl⟩
    clear hn
    go_wp2
    go_ret2
    exact ⟨none, 0, 0, 4, rfl, by omega, by omega, Below.refl _ _, .inl ⟨HX.out, rfl⟩⟩
  | true =>
    have HX := Lib.hid hn
    have HDG := Lib.hid (numB_digits hn)
    by_cases hlong : 5000 < xs.length
    · have t1 : (5000 : Int) < (xs.length : Int) := by omega
      have HLG := Lib.hid hlong
      clear hlong
      go_enter Tryz.func82, Tryz.ntmps82
      go_wp2_with fail
      refine (numeral16_any xs _ hl).mono ?_
      rw [hn]
      rintro e w1 ⟨rfl, rfl⟩
      clear hn
      go_wp2
      go_ret2
      exact ⟨none, 0, 0, 3, rfl, by omega, by omega, Below.refl _ _, .inr (.inl ⟨HX.out, .inl HLG.out, rfl⟩)⟩
    · have t1 : ¬ (5000 : Int) < (xs.length : Int) := by omega
      have hl5 : xs.length ≤ 5000 := by omega
      clear hlong
      go_enter Tryz.func82, Tryz.ntmps82
      go_wp2_with fail
      refine (numeral16_any xs _ hl).mono ?_
      rw [hn]
      rintro e w1 ⟨rfl, rfl⟩
      clear hn
      go_wp2
      go_loopw [4, 5] (fun av iv wr => ParRel xs W av iv wr) (fun _ iv _ => xs.length - (intOf iv).toNat)
      case atStart => exact ⟨none, 0, 0, 0, rfl, rfl, by omega, by omega, by omega, N16.nil _ _, Below.refl _ _⟩
      case round =>
        obtain ⟨ao, la, ca, i, rfl, rfl, hi, hlc, hcm, hna, hbel⟩ := hrel
        obtain ⟨W1, rfl⟩ : ∃ w, w = wr := ⟨wr, rfl⟩
        have hall : (xs.take i).all isDig = true := by
          have h := HDG.out
          rw [← List.take_append_drop i xs, List.all_append, Bool.and_eq_true] at h
          exact h.1
        have hla5 : la ≤ 5000 := by
          have h1 := dec_lt hall
          rw [List.length_take, Nat.min_eq_left hi] at h1
          exact Nat.le_trans (hna.len_le (Nat.lt_of_lt_of_le h1 (Nat.pow_le_pow_left (by decide) _))) (by omega)
        obtain ⟨xa, hxa, hda, hta, hva⟩ := hna
        have HA := Lib.hid hxa
        have HDA := Lib.hid hda
        have HTA := Lib.hid hta
        have HVA := Lib.hid hva
        have HB := Lib.hid hbel
        clear hxa hda hta hva hbel hall
        by_cases hil : i = xs.length
        · have t2 : ¬ (i : Int) < (xs.length : Int) := by omega
          have hE : N16 W1 ao la (dec xs) := ⟨xa, HA.out, HDA.out, HTA.out, by rw [HVA.out, hil, List.take_length]⟩
          have HN := Lib.hid hE
          clear hE hil
          go_wp2_with fail
          refine (bitLen16_raw _ _ _ _ _ HN.out (by omega)).mono ?_
          rintro e w2 ⟨rfl, rfl⟩
          obtain ⟨k, hk⟩ : ∃ k, k = blen (dec xs) := ⟨_, rfl⟩
          rw [← hk]
          have HK := Lib.hid hk
          clear hk
          by_cases hfit : k ≤ 16384
          · have t3 : ¬ (16384 : Int) < (k : Int) := by omega
            go_wp2
            go_ret2
            exact ⟨ao, la, ca, 0, rfl, hlc, hcm, HB.out, .inr (.inr ⟨HX.out, hl5, by rw [← HK.out]; exact hfit, rfl, HN.out⟩)⟩
          · have t3 : (16384 : Int) < (k : Int) := by omega
            go_wp2
            go_ret2
            exact ⟨none, 0, 0, 3, rfl, by omega, by omega, HB.out, .inr (.inl ⟨HX.out, .inr (by rw [← HK.out]; omega), rfl⟩)⟩
        · have hiy : i < xs.length := by omega
          have t2 : (i : Int) < (xs.length : Int) := by omega
          have hss : i < (⟨xs.toArray⟩ : ByteArray).size := by rw [str_size]; exact hiy
          have hdg : isDig xs[i] = true := List.all_eq_true.1 HDG.out _ (List.getElem_mem hiy)
          have hdg2 : 48 ≤ xs[i].toNat ∧ xs[i].toNat ≤ 57 := by simpa [isDig] using hdg
          obtain ⟨c0, hc⟩ : ∃ c : Nat, c = xs[i].toNat := ⟨_, rfl⟩
          have hc2 : ((⟨xs.toArray⟩ : ByteArray)[i]'hss).toNat = c0 := hc.symm
          rw [← hc] at hdg2
          obtain ⟨m, hm⟩ : ∃ m, m = dec (xs.take i) := ⟨_, rfl⟩
          have HN : Hid (dec (xs.take (i + 1)) = 10 * m + (c0 - 48)) := by show _ = _; rw [dec_take_succ hiy, ← hm, ← hc]
          have HM : Hid (val B16 xa = m) := by show _ = _; rw [HVA.out, hm]
          have t4 : (48 : Int) ≤ ((((⟨xs.toArray⟩ : ByteArray)[i]'hss).toNat : Nat) : Int) := by rw [hc2]; omega
          have t5 : ((((⟨xs.toArray⟩ : ByteArray)[i]'hss).toNat : Nat) : Int) ≤ 57 := by rw [hc2]; omega
          have HC2 := Lib.hid hc2
          clear hm hdg hc hc2 hil
          obtain ⟨d, hd⟩ : ∃ d, d = c0 - 48 := ⟨_, rfl⟩
          have hd9 : d ≤ 9 := by omega
          have hcd : c0 = d + 48 := by omega
          subst hcd
          clear hd hdg2
          rw [Nat.add_sub_cancel] at HN
          go_wp2_with fail
          go_loopw [6, 7, 8] (fun cv ov kv w2 => ParIn la d xa W1 cv ov kv w2) (fun _ _ kv _ => la + 2 - (intOf kv).toNat)
          case atStart => exact ⟨d, 0, [], by rw [HC2.out]; exact congrArg (Value.int _) (by omega), rfl, Own.nil _ _ _ _, Dig.nil _, by omega, by omega, by simp [val], fun h => by omega, Below.refl _ _⟩
          case round =>
            obtain ⟨c, k, zs, rfl, rfl, hown, hdz, hc10, hk, hv, htop, hbel⟩ := hrel
            have GO := Lib.hid hown
            have GD := Lib.hid hdz
            have GV := Lib.hid hv
            have GT := Lib.hid htop
            have GW := Lib.hid hbel
            clear hown hdz hv htop hbel
            by_cases hgo : k < la ∨ 0 < c
            · have hkl : k ≤ la := by
                rcases Nat.lt_or_ge la k with h | h
                · have := (GT.out h).1
                  omega
                · exact h
              have hx := HDA.out.get B16_pos k
              obtain ⟨x, hxe⟩ : ∃ x, x = xa[k]?.getD 0 := ⟨_, rfl⟩
              rw [← hxe] at hx
              have HXB := Lib.hid hx
              rw [B16_eq] at hx
              have HXE := Lib.hid hxe
              have HAr := Lib.hid (HA.out.keep GW.out)
              clear hxe
              have hrest : k < la ∨ (¬ k < la ∧ 0 < c) := by omega
              rcases hrest with h1 | ⟨h1, h3⟩
              · have t6 : (k : Int) < (la : Int) := by omega
                go_wp2_with fail
                refine (at_any _ _ _ xa _ k _ HAr.out rfl).mono ?_
                rw [← HXE.out]
                rintro e w1 ⟨rfl, rfl⟩
                go_wp2_with (at_builtin; refine wpList_app rfl _ _ 31 rfl W1.heap.size 3 .i64 8 Tryz.underlying31 (by kernel_rfl) _ k zs rfl GO.out _ ((c + 10 * x) % B16) rfl (by rw [B16_eq]; omega) (by omega) (by omega) GW.out.size ?_; intro v' w2 hown' hbel')
                go_roundw
                case rel => exact par_in GO.out.len GD.out hc10 hkl HA.out.len HXE.out HXB.out hgo GV.out GW.out hown' hbel' _ _ (by rw [B16_eq]; omega) rfl
                case measure => simp only [intOf]; omega
              · have t6 : ¬ (k : Int) < (la : Int) := by omega
                have t7 : (0 : Int) < (c : Int) := by omega
                go_wp2_with fail
                refine (at_any _ _ _ xa _ k _ HAr.out rfl).mono ?_
                rw [← HXE.out]
                rintro e w1 ⟨rfl, rfl⟩
                go_wp2_with (at_builtin; refine wpList_app rfl _ _ 31 rfl W1.heap.size 3 .i64 8 Tryz.underlying31 (by kernel_rfl) _ k zs rfl GO.out _ ((c + 10 * x) % B16) rfl (by rw [B16_eq]; omega) (by omega) (by omega) GW.out.size ?_; intro v' w2 hown' hbel')
                go_roundw
                case rel => exact par_in GO.out.len GD.out hc10 hkl HA.out.len HXE.out HXB.out hgo GV.out GW.out hown' hbel' _ _ (by rw [B16_eq]; omega) rfl
                case measure => simp only [intOf]; omega
            · have t6 : ¬ (k : Int) < (la : Int) := by omega
              obtain rfl : c = 0 := by omega
              obtain ⟨oo, cap, rfl, hlc2, hcm2, hsl⟩ := GO.out.sl
              have HS := Lib.hid hsl
              have hval : val B16 zs = d + 10 * m := by
                have h := GV.out
                rw [List.take_of_length_le (l := xa) (by rw [HA.out.len]; omega), HM.out] at h
                omega
              have HVZ := Lib.hid hval
              have hla2 : la ≤ k := by omega
              clear hsl hval hgo
              go_wp2
              go_roundw
              case rel => exact ⟨oo, k, cap, i + 1, rfl, by go_num, by omega, hlc2, hcm2, ⟨zs, HS.out, GD.out, par_top GO.out.len GD.out HTA.out HA.out.len HM.out hla2 HVZ.out (fun h => (GT.out h).2), by rw [HVZ.out, HN.out]; omega⟩, HB.out.trans (GW.out.mono HB.out.size)⟩
              case measure => simp only [intOf]; omega
end Go.Proofs.YtcgnmihabkgecaaGreat

/- The specification: Parse, Fits. -/
set_option linter.unusedVariables false
namespace Go.Proofs.YtcgnmihabkgecaaGreat
open Go.RowKit Go.Proofs

theorem numB_eq (ys : List UInt8) : numB ys = (decide (ys = [48]) || isPos ys) := by
  by_cases h : ys = [48]
  · subst h; rfl
  · rw [decide_eq_false h, Bool.false_or]
    unfold numB isPos
    cases hd : hasDigs ys with
    | false => rfl
    | true =>
      rw [Bool.true_and, Bool.true_and]
      cases ys with
      | nil => rfl
      | cons x t =>
        by_cases hx : x = 48
        · subst hx
          have : t ≠ [] := fun e => h (by rw [e])
          have h2 : t.length ≠ 0 := fun e => this (List.eq_nil_of_length_eq_zero e)
          simp [this]
        · simp [hx]

/-- what the specification's Parse answers -/
def ParseJ (xs : List UInt8) (W : World) (e : Ending) (w' : World) : Prop :=
  ∃ neg ao len cap er, e = .returned (.tuple #[.agg #[.bool neg, .slice ao len cap], .int .i64 er]) ∧ Below W.heap.size W w' ∧
    ((isNum xs = false ∧ er = 4) ∨ (isNum xs = true ∧ ¬ Fits (numZ xs) ∧ er = 3) ∨
      (isNum xs = true ∧ Fits (numZ xs) ∧ er = 0 ∧ len ≤ cap ∧ cap ≤ 9223372036854775807 ∧ Z16 w' neg ao len (numZ xs)))

theorem Z16.nil (w : World) : Z16 w false none 0 0 := ⟨0, N16.nil _ _, rfl, by simp⟩

/-- behind the sign: the digits ys are parsed -/
theorem parse_tail {xs ys : List UInt8} {s : Bool} (hz : numZ xs = sgn s (dec ys)) (hb : bare xs = ys) (hnum : isNum xs = numB ys) {er : Int} {w' : World} {ao : Option Addr} {len : Nat}
    (h : (numB ys = false ∧ er = 4) ∨ (numB ys = true ∧ (5000 < ys.length ∨ 16384 < blen (dec ys)) ∧ er = 3) ∨
      (numB ys = true ∧ ys.length ≤ 5000 ∧ blen (dec ys) ≤ 16384 ∧ er = 0 ∧ N16 w' ao len (dec ys))) :
    (isNum xs = false ∧ er = 4) ∨ (isNum xs = true ∧ ¬ Fits (numZ xs) ∧ er = 3) ∨ (isNum xs = true ∧ Fits (numZ xs) ∧ er = 0 ∧ N16 w' ao len (dec ys)) := by
  have hf : Fits (numZ xs) ↔ blen (dec ys) ≤ 16384 := by unfold Fits; rw [hz, sgn_natAbs]
  rcases h with ⟨h1, h2⟩ | ⟨h1, h2, h3⟩ | ⟨h1, h2, h3, h4, h5⟩
  · exact .inl ⟨by rw [hnum, h1], h2⟩
  · refine .inr (.inl ⟨by rw [hnum, h1], ?_, h3⟩)
    rcases h2 with h2 | h2
    · exact isNum_long (by rw [hnum, h1]) (by rw [hb]; omega)
    · rw [hf]; omega
  · exact .inr (.inr ⟨by rw [hnum, h1], hf.2 h3, h4, h5⟩)

set_option maxHeartbeats 2000000 in
theorem refParse_plain (xs : List UInt8) (W : World) (hl : xs.length ≤ 1000000000) (hp : Lib.hasPrefix xs [45] = false) :
    Calls Tryz.prog 35 #[.string ⟨xs.toArray⟩] W (ParseJ xs W) := by
  have hf : Fr W (W.alloc (.cells #[.bool false, .slice none 0 0] 33)) [(33, #[.bool false, .slice none 0 0])] := (Fr.nil W).alloc rfl _ _
  have HF := Lib.hid hf
  have hb : bare xs = xs := by unfold bare Lib.trimPrefix; rw [hp]; rfl
  have HB := Lib.hid hb
  have HZ : Hid (numZ xs = sgn false (dec xs)) := by show _ = _; unfold numZ; rw [hp, hb]
  have HNUM : Hid (isNum xs = numB xs) := by show _ = _; rw [numB_eq]; unfold isNum; unfold bare at hb; rw [hb]
  clear hf hb
  cases xs with
  | nil =>
    clear hp
    go_enter Tryz.func35, Tryz.ntmps35
    go_wp2_with fail
    refine (parse16_any [] _ (by simp at *; try omega)).mono ?_
    rintro e w1 ⟨ao, len, cap, er, rfl, hlc, hcm, hb1, hc⟩
    have HF1 := Lib.hid (HF.out.later hb1)
    have g0 : w1.cell? ⟨W.heap.size, 0, none⟩ = some (.bool false) := HF1.out.cell 0 0 rfl rfl
    have g1 : w1.cell? ⟨W.heap.size, 1, none⟩ = some (.slice none 0 0) := HF1.out.cell 0 1 rfl rfl
    have g2 : w1.frozen? ⟨W.heap.size, 0, none⟩ = false := HF1.out.frozen 0 0 rfl
    have g3 : w1.frozen? ⟨W.heap.size, 1, none⟩ = false := HF1.out.frozen 0 1 rfl
    rcases parse_tail HZ.out HB.out HNUM.out hc with ⟨h1, rfl⟩ | ⟨h1, h2, rfl⟩ | ⟨h1, h2, rfl, h3⟩
    · have HX := Lib.hid h1
      clear hb1 hc h1
      go_wp2
      obtain ⟨e0, e1, hz, hbel, _⟩ := HF1.out.finJ (cap := 0) 0 rfl (Z16.nil _)
      exact bodyPost_ret (v := .tuple #[.agg #[.bool false, .slice none 0 0], .int .i64 4]) (by simp only [Nat.add_zero] at e0 e1; simp [results, Tryz.results35, go_sem, e0, e1]) rfl ⟨false, none, 0, 0, 4, rfl, hbel, .inl ⟨HX.out, rfl⟩⟩
    · have HX := Lib.hid h1
      have HX2 := Lib.hid h2
      clear hb1 hc h1 h2
      go_wp2
      obtain ⟨e0, e1, hz, hbel, _⟩ := HF1.out.finJ (cap := 0) 0 rfl (Z16.nil _)
      exact bodyPost_ret (v := .tuple #[.agg #[.bool false, .slice none 0 0], .int .i64 3]) (by simp only [Nat.add_zero] at e0 e1; simp [results, Tryz.results35, go_sem, e0, e1]) rfl ⟨false, none, 0, 0, 3, rfl, hbel, .inr (.inl ⟨HX.out, HX2.out, rfl⟩)⟩
    · have HX := Lib.hid h1
      have HX2 := Lib.hid h2
      have HN := Lib.hid h3
      clear hb1 hc h1 h2 h3 g0 g1 g2 g3
      go_wp2_with fail
      refine (made_any false _ _ _ (dec []) _ HN.out hlc hcm).mono ?_
      rintro e w2 ⟨neg, uo, ul, uc, rfl, huc, hum, hz2, hb2⟩
      have HF2 := Lib.hid (HF1.out.later hb2)
      rw [← HZ.out] at hz2
      have HZ2 := Lib.hid hz2
      clear hz2 hb2
      have g0 : w2.cell? ⟨W.heap.size, 0, none⟩ = some (.bool false) := HF2.out.cell 0 0 rfl rfl
      have g1 : w2.cell? ⟨W.heap.size, 1, none⟩ = some (.slice none 0 0) := HF2.out.cell 0 1 rfl rfl
      have g2 : w2.frozen? ⟨W.heap.size, 0, none⟩ = false := HF2.out.frozen 0 0 rfl
      have g3 : w2.frozen? ⟨W.heap.size, 1, none⟩ = false := HF2.out.frozen 0 1 rfl
      go_wp2
      obtain ⟨e0, e1, hz, hbel, _⟩ := HF2.out.finJ (cap := uc) 0 rfl HZ2.out
      exact bodyPost_ret (v := .tuple #[.agg #[.bool neg, .slice uo ul uc], .int .i64 0]) (by simp only [Nat.add_zero] at e0 e1; simp [results, Tryz.results35, go_sem, e0, e1]) rfl ⟨neg, uo, ul, uc, 0, rfl, hbel, .inr (.inr ⟨HX.out, HX2.out, rfl, huc, hum, hz⟩)⟩
  | cons x t =>
    have hx : x ≠ 45 := fun e => by subst e; simp [Lib.hasPrefix] at hp
    obtain ⟨xs, hxs⟩ : ∃ xs, xs = x :: t := ⟨_, rfl⟩
    rw [← hxs] at hl HB HZ HNUM ⊢
    have h00 : 0 < xs.length := by rw [hxs]; simp
    have hx0 : xs[0]'h00 = x := by subst hxs; rfl
    have hs0 : 0 < (⟨xs.toArray⟩ : ByteArray).size := by rw [str_size]; exact h00
    have hc0 : ((⟨xs.toArray⟩ : ByteArray)[0]'hs0).toNat = x.toNat := congrArg UInt8.toNat hx0
    have hxn : x.toNat ≠ 45 := fun e => hx (UInt8.toNat_inj.1 e)
    have t0 : (0 : Int) < (xs.length : Int) := by omega
    have t2 : ¬ ((((⟨xs.toArray⟩ : ByteArray)[0]'hs0).toNat : Nat) : Int) = 45 := by rw [hc0]; omega
    have t3 : (((((⟨xs.toArray⟩ : ByteArray)[0]'hs0).toNat : Nat) : Int) == 45) = false := by rw [hc0]; simp; omega
    clear hp hx hxs hx0 hc0 hxn
    go_enter Tryz.func35, Tryz.ntmps35
    go_wp2_with fail
    refine (parse16_any xs _ (by simp at *; try omega)).mono ?_
    rintro e w1 ⟨ao, len, cap, er, rfl, hlc, hcm, hb1, hc⟩
    have HF1 := Lib.hid (HF.out.later hb1)
    have g0 : w1.cell? ⟨W.heap.size, 0, none⟩ = some (.bool false) := HF1.out.cell 0 0 rfl rfl
    have g1 : w1.cell? ⟨W.heap.size, 1, none⟩ = some (.slice none 0 0) := HF1.out.cell 0 1 rfl rfl
    have g2 : w1.frozen? ⟨W.heap.size, 0, none⟩ = false := HF1.out.frozen 0 0 rfl
    have g3 : w1.frozen? ⟨W.heap.size, 1, none⟩ = false := HF1.out.frozen 0 1 rfl
    rcases parse_tail HZ.out HB.out HNUM.out hc with ⟨h1, rfl⟩ | ⟨h1, h2, rfl⟩ | ⟨h1, h2, rfl, h3⟩
    · have HX := Lib.hid h1
      clear hb1 hc h1
      go_wp2
      obtain ⟨e0, e1, hz, hbel, _⟩ := HF1.out.finJ (cap := 0) 0 rfl (Z16.nil _)
      exact bodyPost_ret (v := .tuple #[.agg #[.bool false, .slice none 0 0], .int .i64 4]) (by simp only [Nat.add_zero] at e0 e1; simp [results, Tryz.results35, go_sem, e0, e1]) rfl ⟨false, none, 0, 0, 4, rfl, hbel, .inl ⟨HX.out, rfl⟩⟩
    · have HX := Lib.hid h1
      have HX2 := Lib.hid h2
      clear hb1 hc h1 h2
      go_wp2
      obtain ⟨e0, e1, hz, hbel, _⟩ := HF1.out.finJ (cap := 0) 0 rfl (Z16.nil _)
      exact bodyPost_ret (v := .tuple #[.agg #[.bool false, .slice none 0 0], .int .i64 3]) (by simp only [Nat.add_zero] at e0 e1; simp [results, Tryz.results35, go_sem, e0, e1]) rfl ⟨false, none, 0, 0, 3, rfl, hbel, .inr (.inl ⟨HX.out, HX2.out, rfl⟩)⟩
    · have HX := Lib.hid h1
      have HX2 := Lib.hid h2
      have HN := Lib.hid h3
      clear hb1 hc h1 h2 h3 g0 g1 g2 g3
      go_wp2_with fail
      refine (made_any false _ _ _ (dec xs) _ HN.out hlc hcm).mono ?_
      rintro e w2 ⟨neg, uo, ul, uc, rfl, huc, hum, hz2, hb2⟩
      have HF2 := Lib.hid (HF1.out.later hb2)
      rw [← HZ.out] at hz2
      have HZ2 := Lib.hid hz2
      clear hz2 hb2
      have g0 : w2.cell? ⟨W.heap.size, 0, none⟩ = some (.bool false) := HF2.out.cell 0 0 rfl rfl
      have g1 : w2.cell? ⟨W.heap.size, 1, none⟩ = some (.slice none 0 0) := HF2.out.cell 0 1 rfl rfl
      have g2 : w2.frozen? ⟨W.heap.size, 0, none⟩ = false := HF2.out.frozen 0 0 rfl
      have g3 : w2.frozen? ⟨W.heap.size, 1, none⟩ = false := HF2.out.frozen 0 1 rfl
      go_wp2
      obtain ⟨e0, e1, hz, hbel, _⟩ := HF2.out.finJ (cap := uc) 0 rfl HZ2.out
      exact bodyPost_ret (v := .tuple #[.agg #[.bool neg, .slice uo ul uc], .int .i64 0]) (by simp only [Nat.add_zero] at e0 e1; simp [results, Tryz.results35, go_sem, e0, e1]) rfl ⟨neg, uo, ul, uc, 0, rfl, hbel, .inr (.inr ⟨HX.out, HX2.out, rfl, huc, hum, hz⟩)⟩

set_option maxHeartbeats 2000000 in
theorem refParse_minus (t : List UInt8) (W : World) (hl : t.length ≤ 100000000) :
    Calls Tryz.prog 35 #[.string ⟨(45 :: t).toArray⟩] W (ParseJ (45 :: t) W) := by
  have hf : Fr W (W.alloc (.cells #[.bool false, .slice none 0 0] 33)) [(33, #[.bool false, .slice none 0 0])] := (Fr.nil W).alloc rfl _ _
  have HF := Lib.hid hf
  have hb : bare (45 :: t) = t := by unfold bare Lib.trimPrefix; simp [Lib.hasPrefix]
  have HB := Lib.hid hb
  have HZ : Hid (numZ (45 :: t) = sgn true (dec t)) := by show _ = _; unfold numZ; rw [hb]; simp [Lib.hasPrefix]
  have hn2 : isNum (45 :: t) = isPos t := by unfold isNum; unfold bare at hb; rw [hb]; simp
  obtain ⟨xs, hxs⟩ : ∃ xs, xs = 45 :: t := ⟨_, rfl⟩
  rw [← hxs] at HB HZ hn2 ⊢
  have h00 : 0 < xs.length := by rw [hxs]; simp
  have hx0 : xs[0]'h00 = 45 := by subst hxs; rfl
  have hs0 : 0 < (⟨xs.toArray⟩ : ByteArray).size := by rw [str_size]; exact h00
  have hc0 : ((⟨xs.toArray⟩ : ByteArray)[0]'hs0).toNat = 45 := congrArg UInt8.toNat hx0
  have t0 : (0 : Int) < (xs.length : Int) := by omega
  have t2 : ((((⟨xs.toArray⟩ : ByteArray)[0]'hs0).toNat : Nat) : Int) = 45 := by rw [hc0]; rfl
  have t3 : (((((⟨xs.toArray⟩ : ByteArray)[0]'hs0).toNat : Nat) : Int) == 45) = true := by rw [hc0]; rfl
  have t4 : (⟨xs.toArray⟩ : ByteArray).extract 1 xs.length = ⟨t.toArray⟩ := by rw [str_drop, hxs]; rfl
  have hxl : xs.length ≤ 1000000000 := by rw [hxs]; simp; omega
  have t5 : (1 : Int) ≤ (xs.length : Int) := by omega
  clear hf hb hxs hx0 hc0
  by_cases ht : t = [48]
  · have HX : Hid (isNum xs = false) := by show _ = _; rw [hn2, ht]; rfl
    clear hn2
    go_enter Tryz.func35, Tryz.ntmps35
    go_wp2
    exact bodyPost_ret (v := .tuple #[.agg #[.bool false, .slice none 0 0], .int .i64 4]) (by simp [results, Tryz.results35, go_sem]) rfl ⟨false, none, 0, 0, 4, rfl, HF.out.below, .inl ⟨HX.out, rfl⟩⟩
  · have HNUM : Hid (isNum xs = numB t) := by show _ = _; rw [hn2, numB_eq, decide_eq_false ht, Bool.false_or]
    have ht2 : (t == [48]) = false := by simpa using ht
    clear hn2
    go_enter Tryz.func35, Tryz.ntmps35
    go_wp2_with fail
    refine (parse16_any t _ (by simp at *; try omega)).mono ?_
    rintro e w1 ⟨ao, len, cap, er, rfl, hlc, hcm, hb1, hc⟩
    have HF1 := Lib.hid (HF.out.later hb1)
    have g0 : w1.cell? ⟨W.heap.size, 0, none⟩ = some (.bool false) := HF1.out.cell 0 0 rfl rfl
    have g1 : w1.cell? ⟨W.heap.size, 1, none⟩ = some (.slice none 0 0) := HF1.out.cell 0 1 rfl rfl
    have g2 : w1.frozen? ⟨W.heap.size, 0, none⟩ = false := HF1.out.frozen 0 0 rfl
    have g3 : w1.frozen? ⟨W.heap.size, 1, none⟩ = false := HF1.out.frozen 0 1 rfl
    rcases parse_tail HZ.out HB.out HNUM.out hc with ⟨h1, rfl⟩ | ⟨h1, h2, rfl⟩ | ⟨h1, h2, rfl, h3⟩
    · have HX := Lib.hid h1
      clear hb1 hc h1
      go_wp2
      obtain ⟨e0, e1, hz, hbel, _⟩ := HF1.out.finJ (cap := 0) 0 rfl (Z16.nil _)
      exact bodyPost_ret (v := .tuple #[.agg #[.bool false, .slice none 0 0], .int .i64 4]) (by simp only [Nat.add_zero] at e0 e1; simp [results, Tryz.results35, go_sem, e0, e1]) rfl ⟨false, none, 0, 0, 4, rfl, hbel, .inl ⟨HX.out, rfl⟩⟩
    · have HX := Lib.hid h1
      have HX2 := Lib.hid h2
      clear hb1 hc h1 h2
      go_wp2
      obtain ⟨e0, e1, hz, hbel, _⟩ := HF1.out.finJ (cap := 0) 0 rfl (Z16.nil _)
      exact bodyPost_ret (v := .tuple #[.agg #[.bool false, .slice none 0 0], .int .i64 3]) (by simp only [Nat.add_zero] at e0 e1; simp [results, Tryz.results35, go_sem, e0, e1]) rfl ⟨false, none, 0, 0, 3, rfl, hbel, .inr (.inl ⟨HX.out, HX2.out, rfl⟩)⟩
    · have HX := Lib.hid h1
      have HX2 := Lib.hid h2
      have HN := Lib.hid h3
      clear hb1 hc h1 h2 h3 g0 g1 g2 g3
      go_wp2_with fail
      refine (made_any true _ _ _ (dec t) _ HN.out hlc hcm).mono ?_
      rintro e w2 ⟨neg, uo, ul, uc, rfl, huc, hum, hz2, hb2⟩
      have HF2 := Lib.hid (HF1.out.later hb2)
      rw [← HZ.out] at hz2
      have HZ2 := Lib.hid hz2
      clear hz2 hb2
      have g0 : w2.cell? ⟨W.heap.size, 0, none⟩ = some (.bool false) := HF2.out.cell 0 0 rfl rfl
      have g1 : w2.cell? ⟨W.heap.size, 1, none⟩ = some (.slice none 0 0) := HF2.out.cell 0 1 rfl rfl
      have g2 : w2.frozen? ⟨W.heap.size, 0, none⟩ = false := HF2.out.frozen 0 0 rfl
      have g3 : w2.frozen? ⟨W.heap.size, 1, none⟩ = false := HF2.out.frozen 0 1 rfl
      go_wp2
      obtain ⟨e0, e1, hz, hbel, _⟩ := HF2.out.finJ (cap := uc) 0 rfl HZ2.out
      exact bodyPost_ret (v := .tuple #[.agg #[.bool neg, .slice uo ul uc], .int .i64 0]) (by simp only [Nat.add_zero] at e0 e1; simp [results, Tryz.results35, go_sem, e0, e1]) rfl ⟨neg, uo, ul, uc, 0, rfl, hbel, .inr (.inr ⟨HX.out, HX2.out, rfl, huc, hum, hz⟩)⟩

theorem refParse_any (xs : List UInt8) (W : World) (hl : xs.length ≤ 100000000) : Calls Tryz.prog 35 #[.string ⟨xs.toArray⟩] W (ParseJ xs W) := by
  cases hp : Lib.hasPrefix xs [45] with
  | false => exact refParse_plain xs W (by omega) hp
  | true =>
    cases xs with
    | nil => simp [Lib.hasPrefix] at hp
    | cons x t =>
      have hx : x = 45 := by
        simp [Lib.hasPrefix] at hp
        exact hp.symm
      subst hx
      exact refParse_minus t W (by simp at hl; omega)

set_option maxHeartbeats 400000 in
theorem fits16_any (neg : Bool) (ao : Option Addr) (len cap : Nat) (z : Int) (W : World) (h : Z16 W neg ao len z) (hl : len ≤ 1000000000) :
    Calls Tryz.prog 89 #[.agg #[.bool neg, .slice ao len cap]] W (fun e w' => ((Fits z ∧ e = .returned (.bool true)) ∨ (¬ Fits z ∧ e = .returned (.bool false))) ∧ Below W.heap.size W w') := by
  have hf : Fr W (W.alloc (.cells #[.bool neg, .slice ao len cap] 33)) [(33, #[.bool neg, .slice ao len cap])] := (Fr.nil W).alloc rfl _ _
  have HF := Lib.hid hf
  have HZ := Lib.hid (h.keep hf.below)
  clear h hf
  go_enter Tryz.func89, Tryz.ntmps89
  go_wp2_with fail
  refine (bitLen16_any _ _ _ _ z _ HZ.out hl).mono ?_
  rintro e w1 ⟨rfl, hb1⟩
  have HF1 := Lib.hid (HF.out.later hb1)
  obtain ⟨k, hk⟩ : ∃ k, k = blen z.natAbs := ⟨_, rfl⟩
  rw [← hk]
  by_cases hfit : k ≤ 16384
  · have t1 : (k : Int) ≤ 16384 := by omega
    have t2 : decide ((k : Int) ≤ 16384) = true := by simpa using t1
    have HX : Hid (Fits z) := by unfold Fits; rw [← hk]; exact hfit
    clear hk hb1
    go_wp2
    go_ret
    exact ⟨.inl ⟨HX.out, ret_bool (by first | rfl | (simp; done) | (simp; omega))⟩, HF1.out.below⟩
  · have t1 : ¬ (k : Int) ≤ 16384 := by omega
    have HX : Hid (¬ Fits z) := by unfold Fits; rw [← hk]; exact hfit
    clear hk hb1
    go_wp2
    go_ret
    exact ⟨.inr ⟨HX.out, ret_bool (by first | rfl | (simp; done) | (simp; omega))⟩, HF1.out.below⟩
end Go.Proofs.YtcgnmihabkgecaaGreat

/- The laws' helper told. -/
set_option linter.unusedVariables false
namespace Go.Proofs.YtcgnmihabkgecaaGreat
open Go.RowKit Go.Proofs

theorem numZ_0 : numeralZ 0 = [48] := by decide +kernel

/-- what Parse answers, with one shape of the ending -/
def ParseOne (xs : List UInt8) (W : World) (e : Ending) (w' : World) : Prop :=
  ∃ neg ao len cap er z', e = .returned (.tuple #[.agg #[.bool neg, .slice ao len cap], .int .i64 er]) ∧ Z32 w' neg ao len z' ∧ Below W.heap.size W w' ∧
    ((isNum xs = false ∧ er = 4 ∧ z' = 0) ∨ (isNum xs = true ∧ ¬ Fits (numZ xs) ∧ er = 3 ∧ z' = 0) ∨ (isNum xs = true ∧ Fits (numZ xs) ∧ er = 0 ∧ z' = numZ xs))

theorem ParsePost.one {xs : List UInt8} {W w' : World} {e : Ending} (h : ParsePost xs W e w') : ParseOne xs W e w' := by
  rcases h with ⟨h, ⟨hf, neg, ao, len, cap, rfl, hz, hb⟩ | ⟨hf, rfl, hb⟩⟩ | ⟨h, rfl, hb⟩
  · exact ⟨neg, ao, len, cap, 0, _, rfl, hz, hb, .inr (.inr ⟨h, hf, rfl, rfl⟩)⟩
  · exact ⟨false, none, 0, 0, 3, 0, rfl, Z32.nil _, hb, .inr (.inl ⟨h, hf, rfl, rfl⟩)⟩
  · exact ⟨false, none, 0, 0, 4, 0, rfl, Z32.nil _, hb, .inl ⟨h, rfl, rfl⟩⟩


theorem fits_lenk {w : World} {neg : Bool} {ao : Option Addr} {len : Nat} {z : Int} (k : Nat) (hk : 32 * k = 16384) (h : Z32 w neg ao len z) (hf : Fits z) : len ≤ k := by
  have h1 := blen_le.1 hf
  refine h.n32.len_le (k := k) ?_
  rw [B32_pow, hk]
  exact h1

theorem fits_len {w : World} {neg : Bool} {ao : Option Addr} {len : Nat} {z : Int} (h : Z32 w neg ao len z) (hf : Fits z) : len ≤ 512 := fits_lenk 512 rfl h hf

theorem fits_lenk16 {w : World} {neg : Bool} {ao : Option Addr} {len : Nat} {z : Int} (k : Nat) (hk : 16 * k = 16384) (h : Z16 w neg ao len z) (hf : Fits z) : len ≤ k := by
  have h1 := blen_le.1 hf
  refine h.n16.len_le (k := k) ?_
  rw [B16_pow, hk]
  exact h1

theorem fits_len16 {w : World} {neg : Bool} {ao : Option Addr} {len : Nat} {z : Int} (h : Z16 w neg ao len z) (hf : Fits z) : len ≤ 1024 := fits_lenk16 1024 rfl h hf
end Go.Proofs.YtcgnmihabkgecaaGreat

/- A numeral is read again as what it is the numeral of. -/
set_option linter.unusedVariables false
namespace Go.Proofs.YtcgnmihabkgecaaGreat
open Go.RowKit Go.Proofs

theorem char_toNat {d : Nat} (h : d < 10) : (UInt8.ofNat (48 + d)).toNat = 48 + d := by
  rw [UInt8.toNat_ofNat']
  omega

theorem chars_append (a b : List Nat) : chars (a ++ b) = chars a ++ chars b := by unfold chars; rw [List.map_append]

theorem dec_chars {ts : List Nat} (h : Dig 10 ts) : dec (chars ts.reverse) = val 10 ts := by
  induction ts with
  | nil => rfl
  | cons d ts ih =>
    rw [List.reverse_cons, chars_append]
    show dec (chars ts.reverse ++ [UInt8.ofNat (48 + d)]) = _
    rw [dec_snoc, ih h.tail, char_toNat h.head, val_cons]
    omega

theorem all_chars {ts : List Nat} (h : Dig 10 ts) : (chars ts).all isDig = true := by
  rw [List.all_eq_true]
  intro c hc
  obtain ⟨d, hd, rfl⟩ := List.mem_map.1 hc
  have h1 := h d hd
  unfold isDig
  rw [char_toNat h1]
  simp
  omega

theorem Dig.reverse {B : Nat} {ts : List Nat} (h : Dig B ts) : Dig B ts.reverse := fun x hx => h x (List.mem_reverse.1 hx)

theorem dec_numeral (n : Nat) : dec (numeral n) = n := by
  unfold numeral
  by_cases h : n = 0
  · rw [if_pos h, h]; rfl
  · rw [if_neg h]
    obtain ⟨a, b, c⟩ := lowF_spec n n (Nat.le_refl _)
    exact (dec_chars a).trans c

theorem numeral_pos {n : Nat} (h : n ≠ 0) : isPos (numeral n) = true := by
  unfold numeral
  rw [if_neg h]
  obtain ⟨a, b, c⟩ := lowF_spec n n (Nat.le_refl _)
  change Dig 10 (low n) at a
  change Top (low n) at b
  change val 10 (low n) = n at c
  have hne : low n ≠ [] := fun e => by rw [e] at c; exact h c.symm
  obtain ⟨ys, y, hy⟩ : ∃ ys y, low n = ys ++ [y] := ⟨(low n).dropLast, (low n).getLast hne, (List.dropLast_concat_getLast hne).symm⟩
  have hy0 : y ≠ 0 := by
    have := b hne
    rw [hy] at this
    simpa using this
  have hyd : y < 10 := a y (by rw [hy]; simp)
  have hd := all_chars a.reverse
  rw [hy] at hd ⊢
  rw [List.reverse_append] at hd ⊢
  change (UInt8.ofNat (48 + y) :: chars ys.reverse).all isDig = true at hd
  change isPos (UInt8.ofNat (48 + y) :: chars ys.reverse) = true
  have hc : UInt8.ofNat (48 + y) ≠ 48 := fun e => by
    have := congrArg UInt8.toNat e
    rw [char_toNat hyd] at this
    change 48 + y = 48 at this
    omega
  unfold isPos hasDigs
  rw [hd]
  have h2 : decide ((UInt8.ofNat (48 + y) :: chars ys.reverse).head? ≠ some 48) = true := decide_eq_true (fun e => hc (Option.some.inj e))
  rw [h2]
  rfl

theorem numeral_head {n : Nat} : ∃ x t, numeral n = x :: t ∧ isDig x = true := by
  by_cases h : n = 0
  · exact ⟨48, [], by unfold numeral; rw [if_pos h], rfl⟩
  · have h1 := numeral_pos h
    unfold isPos hasDigs at h1
    simp only [Bool.and_eq_true] at h1
    cases hn : numeral n with
    | nil => rw [hn] at h1; simp at h1
    | cons x t =>
      rw [hn] at h1
      have := h1.1.1
      rw [List.all_cons, Bool.and_eq_true] at this
      exact ⟨x, t, rfl, this.1⟩

theorem prefix_numeral (n : Nat) : Lib.hasPrefix (numeral n) [45] = false := by
  obtain ⟨x, t, h, hd⟩ := numeral_head (n := n)
  rw [h]
  have : x ≠ 45 := fun e => by subst e; exact absurd hd (by decide)
  have h2 : ¬ (45 : UInt8) = x := fun e => this e.symm
  show ([45].isPrefixOf (x :: t)) = false
  rw [List.isPrefixOf_cons_cons, beq_eq_false_iff_ne.2 h2, Bool.false_and]

theorem bare_minus (t : List UInt8) : bare (45 :: t) = t := by unfold bare Lib.trimPrefix; simp [Lib.hasPrefix]
theorem bare_plain {t : List UInt8} (h : Lib.hasPrefix t [45] = false) : bare t = t := by unfold bare Lib.trimPrefix; rw [h]; rfl

theorem isNum_numeralZ (z : Int) : isNum (numeralZ z) = true := by
  unfold numeralZ
  by_cases h : z < 0
  · rw [if_pos h]
    have hn := numeral_pos (n := z.natAbs) (by omega)
    unfold isNum
    change (decide _ || isPos (bare (45 :: numeral z.natAbs))) = true
    rw [bare_minus, hn, Bool.or_true]
  · rw [if_neg h]
    unfold isNum
    change (decide _ || isPos (bare (numeral z.natAbs))) = true
    rw [bare_plain (prefix_numeral _)]
    by_cases h0 : z.natAbs = 0
    · rw [h0]; rfl
    · rw [numeral_pos h0, Bool.or_true]

theorem numZ_numeralZ (z : Int) : numZ (numeralZ z) = z := by
  unfold numeralZ
  by_cases h : z < 0
  · rw [if_pos h]
    unfold numZ
    rw [bare_minus, dec_numeral]
    simp [Lib.hasPrefix, sgn]
    omega
  · rw [if_neg h]
    unfold numZ
    rw [bare_plain (prefix_numeral _), dec_numeral, prefix_numeral]
    simp [sgn]
    omega
end Go.Proofs.YtcgnmihabkgecaaGreat

/- The laws' helper made. -/
set_option linter.unusedVariables false
namespace Go.Proofs.YtcgnmihabkgecaaGreat
open Go.RowKit Go.Proofs

/-- the program's integer that made returns, and whether it fits -/
def MadePost (z : Int) (W : World) (e : Ending) (w' : World) : Prop :=
  ∃ neg ao len cap ok z', e = .returned (.tuple #[.agg #[.bool neg, .slice ao len cap], .bool ok]) ∧ len ≤ 512 ∧ Z32 w' neg ao len z' ∧ Below W.heap.size W w' ∧ ((Fits z ∧ ok = true ∧ z' = z) ∨ (¬ Fits z ∧ ok = false ∧ z' = 0))

theorem fits_zero : Fits 0 := by unfold Fits; decide

set_option maxHeartbeats 1000000 in
theorem made_law (neg : Bool) (ao : Option Addr) (len cap : Nat) (z : Int) (W : World) (h : Z16 W neg ao len z) (hl : len ≤ 1000000) :
    Calls Tryz.prog 99 #[.agg #[.bool neg, .slice ao len cap]] W (MadePost z W) := by
  have hf : Fr W ((W.alloc (.cells #[.bool neg, .slice ao len cap] 33)).alloc (.cells #[.bool false, .slice none 0 0] 25))
      [(33, #[.bool neg, .slice ao len cap]), (25, #[.bool false, .slice none 0 0])] := ((Fr.nil W).alloc rfl _ _).alloc (by simp) _ _
  have hlt : z.natAbs < B32 ^ len := Nat.lt_of_lt_of_le h.n16.lt (Nat.pow_le_pow_left (by decide) _)
  have hnl := numeralZ_len hlt
  have HZ := Lib.hid (h.keep hf.below)
  have HF := Lib.hid hf
  have hnb : (numeralZ z).length ≤ 100000000 := by omega
  have HNB := Lib.hid hnb
  clear h hf hlt hnl hnb
  go_enter Tryz.func99, Tryz.ntmps99
  go_wp2_with fail
  refine (text16_any _ _ _ _ z _ HZ.out (by omega)).mono ?_
  rintro e w1 ⟨rfl, hb1⟩
  have HF1 := Lib.hid (HF.out.later hb1)
  clear hb1
  go_wp2_with fail
  refine ((parse_any (numeralZ z) _ HNB.out).mono fun e w h => h.one).mono ?_
  rintro e w2 ⟨na, po, la, ca, er, z', rfl, hz2, hb2, hx⟩
  have HF2 := Lib.hid (HF1.out.later hb2)
  have hy : (Fits z ∧ er = 0 ∧ z' = z) ∨ (¬ Fits z ∧ er = 3 ∧ z' = 0) := by
    rw [numZ_numeralZ] at hx
    rcases hx with ⟨h1, _⟩ | ⟨_, h2⟩ | ⟨_, h2⟩
    · rw [isNum_numeralZ] at h1; cases h1
    · exact .inr h2
    · exact .inl h2
  have hla : la ≤ 512 := by
    rcases hy with ⟨h1, _, h3⟩ | ⟨_, _, h3⟩
    · rw [h3] at hz2; exact fits_len hz2 h1
    · rw [h3] at hz2; exact fits_len hz2 fits_zero
  have HZ2 := Lib.hid hz2
  clear hx hz2 hb2
  have hfb : Fr w2 (w2.alloc (.cells #[.bool na, .slice po la ca] 25)) [(25, #[.bool na, .slice po la ca])] := (Fr.nil w2).alloc rfl _ _
  have HF3 := Lib.hid (HF2.out.later hfb.below)
  have HZ3 := Lib.hid (HZ2.out.keep hfb.below)
  clear hfb
  have g0 : (w2.alloc (.cells #[.bool na, .slice po la ca] 25)).cell? ⟨W.heap.size + 1, 0, none⟩ = some (.bool false) := HF3.out.cell 1 0 rfl rfl
  have g1 : (w2.alloc (.cells #[.bool na, .slice po la ca] 25)).cell? ⟨W.heap.size + 1, 1, none⟩ = some (.slice none 0 0) := HF3.out.cell 1 1 rfl rfl
  have g2 : (w2.alloc (.cells #[.bool na, .slice po la ca] 25)).frozen? ⟨W.heap.size + 1, 0, none⟩ = false := HF3.out.frozen 1 0 rfl
  have g3 : (w2.alloc (.cells #[.bool na, .slice po la ca] 25)).frozen? ⟨W.heap.size + 1, 1, none⟩ = false := HF3.out.frozen 1 1 rfl
  rcases hy with ⟨h1, rfl, rfl⟩ | ⟨h1, rfl, rfl⟩
  · have HX := Lib.hid h1
    clear h1
    go_wp2
    obtain ⟨e0, e1, hz, hbel, _⟩ := HF3.out.finI (cap := ca) 1 rfl HZ3.out
    exact bodyPost_ret (v := .tuple #[.agg #[.bool na, .slice po la ca], .bool true]) (by simp [results, Tryz.results99, go_sem, e0, e1]) rfl ⟨na, po, la, ca, true, _, rfl, hla, hz, hbel, .inl ⟨HX.out, rfl, rfl⟩⟩
  · have HX := Lib.hid h1
    clear h1
    go_wp2
    obtain ⟨e0, e1, hz, hbel, _⟩ := HF3.out.finI (cap := ca) 1 rfl HZ3.out
    exact bodyPost_ret (v := .tuple #[.agg #[.bool na, .slice po la ca], .bool false]) (by simp [results, Tryz.results99, go_sem, e0, e1]) rfl ⟨na, po, la, ca, false, _, rfl, hla, hz, hbel, .inr ⟨HX.out, rfl, rfl⟩⟩
end Go.Proofs.YtcgnmihabkgecaaGreat

/- The laws' helper two. -/
set_option linter.unusedVariables false
namespace Go.Proofs.YtcgnmihabkgecaaGreat
open Go.RowKit Go.Proofs

/-- made's answer about z -/
def MadeIs (z : Int) (ok : Bool) (z' : Int) : Prop := (Fits z ∧ ok = true ∧ z' = z) ∨ (¬ Fits z ∧ ok = false ∧ z' = 0)

def TwoPost (x y : Int) (W : World) (e : Ending) (w' : World) : Prop :=
  ∃ na ao la ca nb bo lb cb ok1 ok2 x' y', e = .returned (.tuple #[.agg #[.bool na, .slice ao la ca], .agg #[.bool nb, .slice bo lb cb], .bool (ok1 && ok2)]) ∧ la ≤ 512 ∧ lb ≤ 512 ∧
    Z32 w' na ao la x' ∧ Z32 w' nb bo lb y' ∧ Below W.heap.size W w' ∧ MadeIs x ok1 x' ∧ MadeIs y ok2 y'

theorem drew_cell (w : World) (a : Addr) : w.drew.cell? a = w.cell? a := rfl

set_option maxHeartbeats 2000000 in
theorem two_any (na nb : Bool) (ao bo : Option Addr) (la lb ca cb : Nat) (x y : Int) (W : World) (ha : Z16 W na ao la x) (hb : Z16 W nb bo lb y) (hla : la ≤ 1000000) (hlb : lb ≤ 1000000) :
    Calls Tryz.prog 57 #[.agg #[.bool na, .slice ao la ca], .agg #[.bool nb, .slice bo lb cb]] W (TwoPost x y W) := by
  have hf : Fr W ((((W.alloc (.cells #[.bool na, .slice ao la ca] 33)).alloc (.cells #[.bool nb, .slice bo lb cb] 33)).alloc (.cells #[.bool false, .slice none 0 0] 25)).alloc (.cells #[.bool false, .slice none 0 0] 25))
      [(33, #[.bool na, .slice ao la ca]), (33, #[.bool nb, .slice bo lb cb]), (25, #[.bool false, .slice none 0 0]), (25, #[.bool false, .slice none 0 0])] :=
    ((((Fr.nil W).alloc rfl _ _).alloc (by simp) _ _).alloc (by simp) _ _).alloc (by simp) _ _
  have HA := Lib.hid (ha.keep hf.below)
  have HB := Lib.hid (hb.keep hf.below)
  have HF := Lib.hid hf
  clear ha hb hf
  go_enter Tryz.func57, Tryz.ntmps57
  go_wp2_with fail
  refine (made_law _ _ _ _ x _ HA.out hla).mono ?_
  rintro e w1 ⟨s1, o1, l1, c1, ok1, x', rfl, hl1, hz1, hb1, hx1⟩
  have HF1 := Lib.hid (HF.out.later hb1)
  have HB1 := Lib.hid (HB.out.keep hb1)
  have HZ1 := Lib.hid hz1
  have HX1 : Hid (MadeIs x ok1 x') := hx1
  clear hz1 hb1 hx1
  have hfb : Fr w1 (w1.alloc (.cells #[.bool s1, .slice o1 l1 c1] 25)) [(25, #[.bool s1, .slice o1 l1 c1])] := (Fr.nil w1).alloc rfl _ _
  have HFB := Lib.hid hfb
  have HF2 := Lib.hid (HF1.out.later hfb.below)
  have HB2 := Lib.hid (HB1.out.keep hfb.below)
  have HZ2 := Lib.hid (HZ1.out.keep hfb.below)
  clear hfb
  have b2 : (w1.alloc (.cells #[.bool s1, .slice o1 l1 c1] 25)).cell? ⟨W.heap.size + 1, 0, none⟩ = some (.bool nb) := HF2.out.cell 1 0 rfl rfl
  have b3 : (w1.alloc (.cells #[.bool s1, .slice o1 l1 c1] 25)).cell? ⟨W.heap.size + 1, 1, none⟩ = some (.slice bo lb cb) := HF2.out.cell 1 1 rfl rfl
  go_wp2_with fail
  refine (made_law _ _ _ _ y _ HB2.out hlb).mono ?_
  rintro e w2 ⟨s2, o2, l2, c2, ok2, y', rfl, hl2, hz2, hb2, hx2⟩
  have HF3 := Lib.hid (HF2.out.later hb2)
  have HFB3 := Lib.hid (HFB.out.later hb2)
  have HY3 := Lib.hid (HZ2.out.keep hb2)
  have HZ3 := Lib.hid hz2
  have HX2 : Hid (MadeIs y ok2 y') := hx2
  clear hz2 hb2 hx2
  have hfc : Fr w2 (w2.alloc (.cells #[.bool s2, .slice o2 l2 c2] 25)) [(25, #[.bool s2, .slice o2 l2 c2])] := (Fr.nil w2).alloc rfl _ _
  have HF4 := Lib.hid (HF3.out.later hfc.below)
  have HFB4 := Lib.hid (HFB3.out.later hfc.below)
  have HY4 := Lib.hid (HY3.out.keep hfc.below)
  have HZ4 := Lib.hid (HZ3.out.keep hfc.below)
  have HFC := Lib.hid hfc
  clear hfc b2 b3
  go_wp2_with fail
  obtain ⟨W3, hW3⟩ : ∃ W3, W3 = w2.alloc (.cells #[.bool s2, .slice o2 l2 c2] 25) := ⟨_, rfl⟩
  rw [← hW3] at HF4 HFB4 HY4 HZ4 HFC ⊢
  clear hW3
  have d0 : W3.cell? ⟨w1.heap.size, 0, none⟩ = some (.bool s1) := HFB4.out.cell 0 0 rfl rfl
  have d1 : W3.cell? ⟨w1.heap.size, 1, none⟩ = some (.slice o1 l1 c1) := HFB4.out.cell 0 1 rfl rfl
  have d2 : W3.cell? ⟨w2.heap.size, 0, none⟩ = some (.bool s2) := HFC.out.cell 0 0 rfl rfl
  have d3 : W3.cell? ⟨w2.heap.size, 1, none⟩ = some (.slice o2 l2 c2) := HFC.out.cell 0 1 rfl rfl
  have g0 : W3.cell? ⟨W.heap.size + 1 + 1, 0, none⟩ = some (.bool false) := HF4.out.cell 2 0 rfl rfl
  have g1 : W3.cell? ⟨W.heap.size + 1 + 1, 1, none⟩ = some (.slice none 0 0) := HF4.out.cell 2 1 rfl rfl
  have g2 : W3.frozen? ⟨W.heap.size + 1 + 1, 0, none⟩ = false := HF4.out.frozen 2 0 rfl
  have g3 : W3.frozen? ⟨W.heap.size + 1 + 1, 1, none⟩ = false := HF4.out.frozen 2 1 rfl
  have g4 : W3.cell? ⟨W.heap.size + 1 + 1 + 1, 0, none⟩ = some (.bool false) := HF4.out.cell 3 0 rfl rfl
  have g5 : W3.cell? ⟨W.heap.size + 1 + 1 + 1, 1, none⟩ = some (.slice none 0 0) := HF4.out.cell 3 1 rfl rfl
  have g6 : W3.frozen? ⟨W.heap.size + 1 + 1 + 1, 0, none⟩ = false := HF4.out.frozen 3 0 rfl
  have g7 : W3.frozen? ⟨W.heap.size + 1 + 1 + 1, 1, none⟩ = false := HF4.out.frozen 3 1 rfl
  have hs1 : W.heap.size + 4 ≤ w1.heap.size := by have := HF1.out.size; simpa using this
  have hs2 : w1.heap.size + 1 ≤ w2.heap.size := by have := HFB3.out.size; simpa using this
  cases ok1 with
  | false =>
    go_region
    go_wp2
    obtain ⟨k0, k1, hz, _, hfr⟩ := HF4.out.finI (cap := c1) 2 rfl HY4.out
    have hy2 := (HZ4.out.setFr HF4.out 2 0 rfl rfl (.bool s1)).setFr (HF4.out.set 2 0 rfl (.bool s1)) 2 1 rfl rfl (.slice o1 l1 c1)
    obtain ⟨k2, k3, hy3, hbel, hfr2⟩ := hfr.finI (cap := c2) 3 rfl hy2
    have hz3 := (hz.setFr hfr 3 0 rfl rfl (.bool s2)).setFr (hfr.set 3 0 rfl (.bool s2)) 3 1 rfl rfl (.slice o2 l2 c2)
    have k4 := hfr2.cell 2 0 (v := .bool s1) rfl rfl
    have k5 := hfr2.cell 2 1 (v := .slice o1 l1 c1) rfl rfl
    exact bodyPost_ret (v := .tuple #[.agg #[.bool s1, .slice o1 l1 c1], .agg #[.bool s2, .slice o2 l2 c2], .bool false]) (by simp [results, Tryz.results57, go_sem, k2, k3, k4, k5]) rfl ⟨s1, o1, l1, c1, s2, o2, l2, c2, false, ok2, x', y', rfl, hl1, hl2, hz3, hy3, hbel.drew, HX1.out, HX2.out⟩
  | true =>
    go_region
    go_wp2
    obtain ⟨k0, k1, hz, _, hfr⟩ := HF4.out.finI (cap := c1) 2 rfl HY4.out
    have hy2 := (HZ4.out.setFr HF4.out 2 0 rfl rfl (.bool s1)).setFr (HF4.out.set 2 0 rfl (.bool s1)) 2 1 rfl rfl (.slice o1 l1 c1)
    obtain ⟨k2, k3, hy3, hbel, hfr2⟩ := hfr.finI (cap := c2) 3 rfl hy2
    have hz3 := (hz.setFr hfr 3 0 rfl rfl (.bool s2)).setFr (hfr.set 3 0 rfl (.bool s2)) 3 1 rfl rfl (.slice o2 l2 c2)
    have k4 := hfr2.cell 2 0 (v := .bool s1) rfl rfl
    have k5 := hfr2.cell 2 1 (v := .slice o1 l1 c1) rfl rfl
    exact bodyPost_ret (v := .tuple #[.agg #[.bool s1, .slice o1 l1 c1], .agg #[.bool s2, .slice o2 l2 c2], .bool ok2]) (by simp [results, Tryz.results57, go_sem, k2, k3, k4, k5]) rfl ⟨s1, o1, l1, c1, s2, o2, l2, c2, true, ok2, x', y', rfl, hl1, hl2, hz3, hy3, hbel.drew, HX1.out, HX2.out⟩
end Go.Proofs.YtcgnmihabkgecaaGreat

/- The specification: toInt. -/
set_option linter.unusedVariables false
namespace Go.Proofs.YtcgnmihabkgecaaGreat
open Go.RowKit Go.Proofs

theorem val_drop_le {B : Nat} (hB : 0 < B) (xs : List Nat) (i : Nat) (hi : i ≤ xs.length) : val B (xs.drop i) ≤ val B xs := by
  rw [val_split B xs i hi]
  have : 1 * val B (xs.drop i) ≤ B ^ i * val B (xs.drop i) := Nat.mul_le_mul_right _ (Nat.pow_pos hB)
  omega

end Go.Proofs.YtcgnmihabkgecaaGreat

/- The specification's raw, Raw; the laws' helper of. -/
set_option linter.unusedVariables false
namespace Go.Proofs.YtcgnmihabkgecaaGreat
open Go.RowKit

def RawRel (la most : Nat) (xs : List Nat) (W : World) (ov iv : Value) (wr : World) : Prop :=
  ∃ i : Nat, iv = .int .i64 (i : Int) ∧ Own .i64 wr W.heap.size 3 ov i (xs.take i) ∧ i ≤ la ∧ i ≤ most ∧ Below W.heap.size W wr

theorem raw_end {la most i : Nat} {xs : List Nat} (hx : xs.length = la) (h : i = la ∨ i = most) (h1 : i ≤ la) (h2 : i ≤ most) : xs.take i = xs.take most := by
  rcases h with rfl | rfl
  · rw [List.take_of_length_le (by omega), List.take_of_length_le (by omega)]
  · rfl

set_option maxHeartbeats 1000000 in
theorem raw_any (ao : Option Addr) (la ca : Nat) (xs : List Nat) (K : Int) (most : Nat) (W : World) (hs : Sl .u16 W ao la xs) (hd : Dig B16 xs) (hK : K = (most : Int)) (hm : most ≤ 1000000) (hla : la ≤ 9223372036854775807) :
    Calls Tryz.prog 122 #[.slice ao la ca, .int .i64 K] W (Out16 W (val B16 (xs.take most))) := by
  subst hK
  have HS := Lib.hid hs
  have HD := Lib.hid hd
  have HLX := Lib.hid hs.len
  clear hs hd
  go_enter Tryz.func122, Tryz.ntmps122
  go_wp2
  go_loopw [5, 6] (fun ov iv wr => RawRel la most xs W ov iv wr) (fun ov iv _ => la - (intOf iv).toNat)
  case atStart => exact ⟨0, rfl, Own.nil _ _ _ _, by omega, by omega, Below.refl _ _⟩
  case round =>
    obtain ⟨i, rfl, hown, hil, him, hbel⟩ := hrel
    have GO := Lib.hid hown
    have GW := Lib.hid hbel
    clear hown hbel
    by_cases h1 : i < la
    · by_cases h2 : i < most
      · have t1 : (i : Int) < (la : Int) := by omega
        have t2 : (i : Int) < (most : Int) := by omega
        have t0 : (0 : Int) ≤ (i : Int) := by omega
        have hx := HD.out.get B16_pos i
        obtain ⟨x, hxe⟩ : ∃ x, x = xs[i]?.getD 0 := ⟨_, rfl⟩
        rw [← hxe] at hx
        rw [B16_eq] at hx
        obtain ⟨hxl, b, off, h0, hcc⟩ := HS.out.keep GW.out
        obtain rfl := h0 (by omega)
        have hci := hcc i (by omega)
        rw [← hxe] at hci
        have HX := Lib.hid hxe
        clear hxe hxl h0 hcc
        go_wp2_with (at_builtin; refine wpList_app rfl _ _ 31 rfl W.heap.size 3 .i64 8 Tryz.underlying31 (by kernel_rfl) _ i (xs.take i) rfl GO.out _ x rfl rfl (by omega) (by omega) GW.out.size ?_; intro v' w2 hown' hbel')
        go_roundw
        case rel =>
          refine ⟨i + 1, by go_num, ?_, by omega, by omega, GW.out.trans hbel'⟩
          rw [List.take_succ_eq_append_getElem (by rw [HLX.out]; omega)]
          have : xs[i]'(by rw [HLX.out]; omega) = x := by rw [HX.out, List.getElem?_eq_getElem (by rw [HLX.out]; omega)]; rfl
          rw [this]
          exact hown'
        case measure => simp only [intOf]; omega
      · have t1 : (i : Int) < (la : Int) := by omega
        have t2 : ¬ (i : Int) < (most : Int) := by omega
        obtain ⟨oo, cap, rfl, hlc, hcm, hsl⟩ := GO.out.sl
        have HSL := Lib.hid hsl
        have HE := Lib.hid (raw_end HLX.out (.inr (by omega)) hil him)
        clear hsl
        go_wp2_with fail
        refine (trim16_raw _ _ _ (xs.take i) _ HSL.out hlc hcm).mono ?_
        rintro e w1 ⟨⟨ao', k, rfl, hk, ha', ht, hz⟩, rfl⟩
        have HT := Lib.hid ht
        have HZ := Lib.hid hz
        have HAA := Lib.hid ha'
        clear ht hz ha'
        go_wp2
        go_ret
        exact ⟨ao', k, cap, rfl, by omega, hcm, ⟨(xs.take i).take k, trim_sl HSL.out hk HAA.out, (HD.out.take _).take _, HT.out, by rw [val_take_of_zeros HZ.out, HE.out]⟩, GW.out⟩
    · have t1 : ¬ (i : Int) < (la : Int) := by omega
      obtain ⟨oo, cap, rfl, hlc, hcm, hsl⟩ := GO.out.sl
      have HSL := Lib.hid hsl
      have HE := Lib.hid (raw_end HLX.out (.inl (by omega)) hil him)
      clear hsl
      go_wp2_with fail
      refine (trim16_raw _ _ _ (xs.take i) _ HSL.out hlc hcm).mono ?_
      rintro e w1 ⟨⟨ao', k, rfl, hk, ha', ht, hz⟩, rfl⟩
      have HT := Lib.hid ht
      have HZ := Lib.hid hz
      have HAA := Lib.hid ha'
      clear ht hz ha'
      go_wp2
      go_ret
      exact ⟨ao', k, cap, rfl, by omega, hcm, ⟨(xs.take i).take k, trim_sl HSL.out hk HAA.out, (HD.out.take _).take _, HT.out, by rw [val_take_of_zeros HZ.out, HE.out]⟩, GW.out⟩

/-- the integer with these digits, of which the first most count -/
def rawZ (s : Bool) (xs : List Nat) (most : Nat) : Int := sgn s (val B16 (xs.take most))

set_option maxHeartbeats 800000 in
theorem refRaw_any (s : Bool) (ao : Option Addr) (la ca : Nat) (xs : List Nat) (K : Int) (most : Nat) (W : World) (hs : Sl .u16 W ao la xs) (hd : Dig B16 xs) (hK : K = (most : Int)) (hm : most ≤ 1000000) (hla : la ≤ 9223372036854775807) :
    Calls Tryz.prog 98 #[.bool s, .slice ao la ca, .int .i64 K] W (OutJ W (rawZ s xs most)) := by
  subst hK
  have hf : Fr W (W.alloc (.cells #[.bool false, .slice none 0 0] 33)) [(33, #[.bool false, .slice none 0 0])] := (Fr.nil W).alloc rfl _ _
  have HF := Lib.hid hf
  have HS := Lib.hid (hs.keep hf.below)
  have HD := Lib.hid hd
  clear hf hs hd
  go_enter Tryz.func98, Tryz.ntmps98
  go_wp2_with fail
  refine (raw_any _ _ _ xs _ most _ HS.out HD.out rfl hm hla).mono ?_
  rintro e w1 ⟨po, pl, pc, rfl, hlc, hcm, hn, hb1⟩
  have HF1 := Lib.hid (HF.out.later hb1)
  have HN := Lib.hid hn
  clear hn hb1
  go_wp2_with fail
  refine (made_any s _ _ _ _ _ HN.out hlc hcm).mono ?_
  rintro e w2 ⟨neg, uo, ul, uc, rfl, huc, hum, hz2, hb2⟩
  have HF2 := Lib.hid (HF1.out.later hb2)
  have HZ2 := Lib.hid hz2
  clear hz2 hb2
  have g0 : w2.cell? ⟨W.heap.size, 0, none⟩ = some (.bool false) := HF2.out.cell 0 0 rfl rfl
  have g1 : w2.cell? ⟨W.heap.size, 1, none⟩ = some (.slice none 0 0) := HF2.out.cell 0 1 rfl rfl
  have g2 : w2.frozen? ⟨W.heap.size, 0, none⟩ = false := HF2.out.frozen 0 0 rfl
  have g3 : w2.frozen? ⟨W.heap.size, 1, none⟩ = false := HF2.out.frozen 0 1 rfl
  go_wp2
  obtain ⟨e0, e1, hz, hbel, _⟩ := HF2.out.finJ (cap := uc) 0 rfl HZ2.out
  exact bodyPost_ret (v := .agg #[.bool neg, .slice uo ul uc]) (by simp only [Nat.add_zero] at e0 e1; simp [results, Tryz.results98, go_sem, e0, e1]) rfl ⟨neg, uo, ul, uc, rfl, huc, hum, hz, hbel⟩

set_option maxHeartbeats 800000 in
theorem lawOf_any (s : Bool) (ao : Option Addr) (la ca : Nat) (xs : List Nat) (K : Int) (most : Nat) (W : World) (hs : Sl .u16 W ao la xs) (hd : Dig B16 xs) (hK : K = (most : Int)) (hm : most ≤ 1000000) (hla : la ≤ 9223372036854775807) :
    Calls Tryz.prog 55 #[.agg #[.bool s, .slice ao la ca], .int .i64 K] W (OutJ W (rawZ s xs most)) := by
  subst hK
  have hf : Fr W ((W.alloc (.cells #[.bool s, .slice ao la ca] 43)).alloc (.cells #[.bool false, .slice none 0 0] 33)) [(43, #[.bool s, .slice ao la ca]), (33, #[.bool false, .slice none 0 0])] := ((Fr.nil W).alloc rfl _ _).alloc (by simp) _ _
  have HF := Lib.hid hf
  have HS := Lib.hid (hs.keep hf.below)
  have HD := Lib.hid hd
  clear hf hs hd
  go_enter Tryz.func55, Tryz.ntmps55
  go_wp2_with fail
  refine (refRaw_any s _ _ _ xs _ most _ HS.out HD.out rfl hm hla).mono ?_
  rintro e w2 ⟨neg, uo, ul, uc, rfl, huc, hum, hz2, hb2⟩
  have HF2 := Lib.hid (HF.out.later hb2)
  have HZ2 := Lib.hid hz2
  clear hz2 hb2
  have g0 : w2.cell? ⟨W.heap.size + 1, 0, none⟩ = some (.bool false) := HF2.out.cell 1 0 rfl rfl
  have g1 : w2.cell? ⟨W.heap.size + 1, 1, none⟩ = some (.slice none 0 0) := HF2.out.cell 1 1 rfl rfl
  have g2 : w2.frozen? ⟨W.heap.size + 1, 0, none⟩ = false := HF2.out.frozen 1 0 rfl
  have g3 : w2.frozen? ⟨W.heap.size + 1, 1, none⟩ = false := HF2.out.frozen 1 1 rfl
  go_wp2
  obtain ⟨e0, e1, hz, hbel, _⟩ := HF2.out.finJ (cap := uc) 1 rfl HZ2.out
  exact bodyPost_ret (v := .agg #[.bool neg, .slice uo ul uc]) (by simp [results, Tryz.results55, go_sem, e0, e1]) rfl ⟨neg, uo, ul, uc, rfl, huc, hum, hz, hbel⟩
end Go.Proofs.YtcgnmihabkgecaaGreat

/- The specification's Int. -/
set_option linter.unusedVariables false
namespace Go.Proofs.YtcgnmihabkgecaaGreat
open Go.RowKit

theorem one_len {w : World} {ao : Option Addr} {len : Nat} (h : N16 w ao len 1) : len ≤ 1000000000 := Nat.le_trans (h.len_le (k := 1) (by decide)) (by decide)

end Go.Proofs.YtcgnmihabkgecaaGreat

/- A law's end: of what was there before the call, nothing is turned. -/
set_option linter.unusedVariables false
namespace Go.Proofs.YtcgnmihabkgecaaGreat
open Go.ChangeShapes Go.RowKit

variable {P : Program} {H : Type} {enc : TypeId × Value → H}

theorem post_below {f : Func} {s : ChangeSpec} {apart fresh handsOn : Bool} {W W' : World} {args : Array Value} {v : Value} {ds gs : List (DataW H)} {before pa pv : List MemPlace}
    (hW : DataW.Whole enc P f.params.toList s.vars apart W args.toList ds gs before)
    (hres : ∀ (b : Nat) (sp : Nat → Bool) (hd : Bool), DataW.TrodAll enc P W' b sp hd f.resultTypes.toList (v.resultList f.resultTypes.size) (s.fn H (ds ++ gs)).results [])
    (hargs : ∀ sp : Nat → Bool, (∀ p ∈ before, sp p.block = true) → DataW.TrodAll enc P W' 0 sp true f.params.toList args.toList (s.fn H (ds ++ gs)).args pa)
    (hvars : ∀ sp : Nat → Bool, (∀ p ∈ before, sp p.block = true) → DataW.TrodVars enc P W' sp s.vars (s.fn H (ds ++ gs)).vars pv)
    (hps : before = pa ++ pv) (hb : Below W.heap.size W W') :
    s.post enc P f apart fresh handsOn false W args v W' := by
  have hold : ∀ p ∈ before, (fun b => decide (b < W.heap.size)) p.block = true := fun p hp => by simpa using hW.lt p hp
  refine ⟨ds, gs, before, [], pa, pv, hW, hres _ _ _, hargs _ hold, hvars _ hold, World.keptBut_mono (fun p hp => ⟨hp, ?_⟩) (hb.frame _), fun h => by cases h⟩
  rw [hps, List.mem_append] at hp
  exact Or.inr hp

end Go.Proofs.YtcgnmihabkgecaaGreat

/- An argument that is an integer's raw digits: opened; and what was there before a law's call reads on as it did. -/
set_option linter.unusedVariables false
namespace Go.Proofs.YtcgnmihabkgecaaGreat
open Go.ChangeShapes Go.WideShapes Go.RowKit Go.Joins

set_option maxRecDepth 100000 in
theorem open_raw {H : Type} {enc : TypeId × Value → H} {W : World} {v : Value} {d : DataW H} {p : List MemPlace} {base : Nat}
    (hv : Value.okWide Tryz.prog W .any base 43 v) (h : DataW.Trod enc Tryz.prog W 0 (fun _ => true) true 43 v d p) :
    ∃ s ao la ca xs, v = .agg #[.bool s, .slice ao la ca] ∧ Sl .u16 W ao la xs ∧ Dig B16 xs ∧ la ≤ 9223372036854775807 := by
  obtain ⟨c0, c1, y0, y1, m, rfl, rfl, rfl, hy0, hy1⟩ := open_agg2 Tryz.underlying43 (by kernel_rfl) (by kernel_rfl) hv h
  obtain ⟨s, e0, _⟩ := DataW.trod_bool Tryz.underlying4 hy0
  simp at e0
  subst e0
  rcases open_ints Tryz.underlying41 Tryz.underlying150 (by kernel_rfl) hy1 with ⟨e1, _⟩ | ⟨a, len, cap, zs, e1, _, hlc, hcm, hzl, _, hcell, hwf⟩
  · simp at e1
    subst e1
    exact ⟨s, none, 0, 0, [], rfl, Sl.nil _ _ _, Dig.nil _, by omega⟩
  · simp at e1
    subst e1
    have hzl2 : zs.length = cap := by simpa using hzl
    have hr := range_u16 hwf
    refine ⟨s, some a, len, cap, (zs.take len).map Int.toNat, rfl, ⟨by simp; omega, ?_⟩, ?_, by unfold maxLen at hcm; omega⟩
    · by_cases h0 : 0 < zs.length
      · obtain ⟨b, off, rfl, hc⟩ := ints_at hcell h0
        refine ⟨b, off, fun _ => rfl, fun i hi => ?_⟩
        rw [hc i (by omega)]
        have h1 := hr i
        have e : (((zs.take len).map Int.toNat)[i]?.getD 0 : Nat) = (zs[i]?.getD 0).toNat := by
          have hiz : i < zs.length := by omega
          simp [hi, List.getElem?_eq_getElem hiz]
        rw [e, List.getD]
        congr 2
        omega
      · exact ⟨0, 0, fun h => by omega, fun i hi => by omega⟩
    · intro x hx
      obtain ⟨y, hy, rfl⟩ := List.mem_map.1 hx
      have := bounds_u16 (hwf y (List.mem_of_mem_take hy))
      rw [B16_eq]; omega

/-- the arguments read on as they did -/
theorem trodAll_below {H : Type} {enc : TypeId × Value → H} {P : Program} (hl : laidOutB P = true) {W W' : World} (hb : Below W.heap.size W W') :
    ∀ {ts : List TypeId} {vs : List Value} {ds : List (DataW H)} {ps : List MemPlace}, (∀ t ∈ ts, P.readableRec t = true ∧ t < P.types.size) →
      DataW.TrodAll enc P W 0 (fun _ => true) true ts vs ds ps → (∀ x ∈ ps, x.block < W.heap.size) → DataW.TrodAll enc P W' 0 (fun b => decide (b < W.heap.size)) true ts vs ds ps
  | [], [], [], _, _, h, _ => h
  | t :: ts, v :: vs, d :: ds, _, ht, ⟨p, q, h1, h2, e⟩, hlt => by
    have h3 := ht t List.mem_cons_self
    exact ⟨p, q, Below.trod hl h3.1 h3.2 h1 hb (fun x hx => hlt x (by rw [e]; exact List.mem_append_left _ hx)),
      trodAll_below hl hb (fun t' ht' => ht t' (List.mem_cons_of_mem _ ht')) h2 (fun x hx => hlt x (by rw [e]; exact List.mem_append_right _ hx)), e⟩
  | [], _ :: _, _, _, _, h, _ => by simp [DataW.TrodAll] at h
  | [], [], _ :: _, _, _, h, _ => by simp [DataW.TrodAll] at h
  | _ :: _, [], _, _, _, h, _ => by simp [DataW.TrodAll] at h
  | _ :: _, _ :: _, [], _, _, h, _ => by simp [DataW.TrodAll] at h

/-- a law's end -/
theorem post_law {P : Program} {H : Type} {enc : TypeId × Value → H} {f : Func} {s : ChangeSpec} {apart fresh handsOn : Bool} {W W' : World} {args : Array Value} {ds : List (DataW H)} {before : List MemPlace} {t : TypeId}
    (hl : laidOutB P = true) (hts : ∀ t ∈ f.params.toList, P.readableRec t = true ∧ t < P.types.size)
    (hW : DataW.Whole enc P f.params.toList s.vars apart W args.toList ds [] before) (hvs : s.vars = []) (hrt : f.resultTypes = #[t]) (hub : P.underlying t = some .bool)
    (hA : DataW.TrodAll enc P W 0 (fun _ => true) true f.params.toList args.toList ds before)
    (hr : (s.fn H ds).results = [.lit (.bool true)]) (ha : (s.fn H ds).args = ds) (hv : (s.fn H ds).vars = []) (hb : Below W.heap.size W W') :
    s.post enc P f apart fresh handsOn false W args (.bool true) W' := by
  have hlt := hW.lt
  refine ⟨ds, [], before, [], before, [], hW, ?_, ?_, ?_, World.keptBut_mono (fun p hp => ⟨hp, ?_⟩) (hb.frame _), fun h => by cases h⟩
  · rw [List.append_nil, hr, hrt]
    exact trodAll_cons_mk (shut_bool hub _) trodAll_mk0
  · rw [List.append_nil, ha]
    exact trodAll_below hl hb hts hA (fun x hx => by simpa using hlt x hx)
  · rw [List.append_nil, hv, hvs]
    rfl
  · exact Or.inr (by simpa using hp)
end Go.Proofs.YtcgnmihabkgecaaGreat
