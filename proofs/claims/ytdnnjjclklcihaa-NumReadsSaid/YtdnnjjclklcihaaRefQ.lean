/- The specification: parse. -/
import Derived.Test.YtdnnjjclklcihaaRefP
set_option linter.unusedVariables false
namespace Go.Proofs.Ytdnnjjclklcihaa
open Go.RowKit Go.Proofs

def ParRel (xs : List UInt8) (W : World) (av iv : Value) (wr : World) : Prop :=
  ∃ (ao : Option Addr) (n cap i : Nat), av = .slice ao n cap ∧ iv = .int .i64 (i : Int) ∧ i ≤ xs.length ∧ n ≤ cap ∧ cap ≤ 9223372036854775807 ∧ N16 wr ao n (dec (xs.take i)) ∧ Below W.heap.size W wr

def ParIn (la d : Nat) (xa : List Nat) (W : World) (cv ov kv : Value) (wr : World) : Prop :=
  ∃ (c k : Nat) (zs : List Nat), cv = .int .i64 (c : Int) ∧ kv = .int .i64 (k : Int) ∧ Own .i64 wr W.heap.size 3 ov k zs ∧ Dig B16 zs ∧ c ≤ 10 ∧ k ≤ la + 1 ∧
    val B16 zs + c * B16 ^ k = d + 10 * val B16 (xa.take k) ∧ (la < k → c = 0 ∧ B16 ^ (k - 1) ≤ val B16 zs) ∧ Below W.heap.size W wr

theorem par_in {la d k c x : Nat} {xa zs : List Nat} {W wr w2 : World} {v' : Value} (hlz : zs.length = k) (hd : Dig B16 zs) (hc : c ≤ 10) (hk : k ≤ la) (hla : xa.length = la) (hx : x = xa[k]?.getD 0) (hxb : x < B16) (hgo : k < la ∨ 0 < c)
    (hv : val B16 zs + c * B16 ^ k = d + 10 * val B16 (xa.take k)) (hb : Below W.heap.size W wr) (ho : Own .i64 w2 W.heap.size 3 v' (k + 1) (zs ++ [(c + 10 * x) % B16])) (hb2 : Below W.heap.size wr w2)
    (C K : Int) (hC : C = (((c + 10 * x) / B16 : Nat) : Int)) (hK : K = (k : Int) + 1) : ParIn la d xa W (.int .i64 C) v' (.int .i64 K) w2 := by
  rw [B16_eq] at hxb
  have e := Nat.mod_add_div (c + 10 * x) B16
  refine ⟨(c + 10 * x) / B16, k + 1, zs ++ [(c + 10 * x) % B16], by rw [hC], by rw [hK]; rfl, ho, hd.append (Dig.cons (Nat.mod_lt _ B16_pos) (Dig.nil _)), by rw [B16_eq]; omega, by omega, ?_, ?_, hb.trans hb2⟩
  · rw [val_snoc, hlz, val_take_succ, ← hx, Nat.pow_succ]
    generalize (c + 10 * x) % B16 = r at *
    generalize (c + 10 * x) / B16 = q at *
    generalize B16 ^ k = p at *
    grind
  · intro h1
    have hx0 : x = 0 := by rw [hx, List.getElem?_eq_none (by omega)]; rfl
    subst hx0
    have hc0 : 0 < c := by omega
    refine ⟨by rw [B16_eq]; omega, ?_⟩
    rw [val_snoc, hlz]
    have : (c + 10 * 0) % B16 = c := by rw [B16_eq]; omega
    rw [this, Nat.add_sub_cancel]
    have : B16 ^ k * 1 ≤ B16 ^ k * c := Nat.mul_le_mul_left _ hc0
    omega

theorem par_top {la d k m : Nat} {xa zs : List Nat} (hlz : zs.length = k) (hd : Dig B16 zs) (hta : Top xa) (hla : xa.length = la) (hm : val B16 xa = m) (hk : la ≤ k) (hv : val B16 zs = d + 10 * m) (ht : la < k → B16 ^ (k - 1) ≤ val B16 zs) : Top zs := by
  refine top_of_ge B16_pos hd (fun hne => ?_)
  rw [hlz]
  by_cases h : la < k
  · exact ht h
  · have hk2 : k = la := by omega
    have hne2 : xa ≠ [] := fun e => by
      rw [e] at hla
      simp at hla
      exact hne (List.eq_nil_of_length_eq_zero (by omega))
    have := val_ge (B := B16) hta hne2
    rw [hla, hm] at this
    rw [hv, hk2]
    omega

/-- what parse answers -/
def Parse16Post (xs : List UInt8) (W : World) (e : Ending) (w' : World) : Prop :=
  ∃ ao len cap er, e = .returned (.tuple #[.slice ao len cap, .int .i64 er]) ∧ len ≤ cap ∧ cap ≤ 9223372036854775807 ∧ Below W.heap.size W w' ∧
    ((numB xs = false ∧ er = 4) ∨ (numB xs = true ∧ (5000 < xs.length ∨ 16384 < blen (dec xs)) ∧ er = 3) ∨
      (numB xs = true ∧ xs.length ≤ 5000 ∧ blen (dec xs) ≤ 16384 ∧ er = 0 ∧ N16 w' ao len (dec xs)))

theorem numB_digits {xs : List UInt8} (h : numB xs = true) : xs.all isDig = true := by
  unfold numB hasDigs at h
  simp only [Bool.and_eq_true] at h
  exact h.1.1

set_option maxHeartbeats 2000000 in
theorem parse16_any (xs : List UInt8) (W : World) (hl : xs.length ≤ 1000000000) :
    Calls Try.prog 72 #[.string ⟨xs.toArray⟩] W (Parse16Post xs W) := by
  cases hn : numB xs with
  | false =>
    have HX := Lib.hid hn
    go_enter Try.func72, Try.ntmps72
    go_wp2_with fail
    refine (numeral16_any xs _ hl).mono ?_
    rw [hn]
    rintro e w1 ⟨rfl, rfl⟩
    clear hn
    go_wp2
    go_ret2
    exact ⟨none, 0, 0, 4, rfl, by omega, by omega, Below.refl _ _, .inl ⟨HX.out, rfl⟩⟩
  | true =>
    have HX := Lib.hid hn
    have HDG := Lib.hid (numB_digits hn)
    by_cases hlong : 5000 < xs.length
    · have t1 : (5000 : Int) < (xs.length : Int) := by omega
      have HLG := Lib.hid hlong
      clear hlong
      go_enter Try.func72, Try.ntmps72
      go_wp2_with fail
      refine (numeral16_any xs _ hl).mono ?_
      rw [hn]
      rintro e w1 ⟨rfl, rfl⟩
      clear hn
      go_wp2
      go_ret2
      exact ⟨none, 0, 0, 3, rfl, by omega, by omega, Below.refl _ _, .inr (.inl ⟨HX.out, .inl HLG.out, rfl⟩)⟩
    · have t1 : ¬ (5000 : Int) < (xs.length : Int) := by omega
      have hl5 : xs.length ≤ 5000 := by omega
      clear hlong
      go_enter Try.func72, Try.ntmps72
      go_wp2_with fail
      refine (numeral16_any xs _ hl).mono ?_
      rw [hn]
      rintro e w1 ⟨rfl, rfl⟩
      clear hn
      go_wp2
      go_loopw [4, 5] (fun av iv wr => ParRel xs W av iv wr) (fun _ iv _ => xs.length - (intOf iv).toNat)
      case atStart => exact ⟨none, 0, 0, 0, rfl, rfl, by omega, by omega, by omega, N16.nil _ _, Below.refl _ _⟩
      case round =>
        obtain ⟨ao, la, ca, i, rfl, rfl, hi, hlc, hcm, hna, hbel⟩ := hrel
        obtain ⟨W1, rfl⟩ : ∃ w, w = wr := ⟨wr, rfl⟩
        have hall : (xs.take i).all isDig = true := by
          have h := HDG.out
          rw [← List.take_append_drop i xs, List.all_append, Bool.and_eq_true] at h
          exact h.1
        have hla5 : la ≤ 5000 := by
          have h1 := dec_lt hall
          rw [List.length_take, Nat.min_eq_left hi] at h1
          exact Nat.le_trans (hna.len_le (Nat.lt_of_lt_of_le h1 (Nat.pow_le_pow_left (by decide) _))) (by omega)
        obtain ⟨xa, hxa, hda, hta, hva⟩ := hna
        have HA := Lib.hid hxa
        have HDA := Lib.hid hda
        have HTA := Lib.hid hta
        have HVA := Lib.hid hva
        have HB := Lib.hid hbel
        clear hxa hda hta hva hbel hall
        by_cases hil : i = xs.length
        · have t2 : ¬ (i : Int) < (xs.length : Int) := by omega
          have hE : N16 W1 ao la (dec xs) := ⟨xa, HA.out, HDA.out, HTA.out, by rw [HVA.out, hil, List.take_length]⟩
          have HN := Lib.hid hE
          clear hE hil
          go_wp2_with fail
          refine (bitLen16_raw _ _ _ _ _ HN.out (by omega)).mono ?_
          rintro e w2 ⟨rfl, rfl⟩
          obtain ⟨k, hk⟩ : ∃ k, k = blen (dec xs) := ⟨_, rfl⟩
          rw [← hk]
          have HK := Lib.hid hk
          clear hk
          by_cases hfit : k ≤ 16384
          · have t3 : ¬ (16384 : Int) < (k : Int) := by omega
            go_wp2
            go_ret2
            exact ⟨ao, la, ca, 0, rfl, hlc, hcm, HB.out, .inr (.inr ⟨HX.out, hl5, by rw [← HK.out]; exact hfit, rfl, HN.out⟩)⟩
          · have t3 : (16384 : Int) < (k : Int) := by omega
            go_wp2
            go_ret2
            exact ⟨none, 0, 0, 3, rfl, by omega, by omega, HB.out, .inr (.inl ⟨HX.out, .inr (by rw [← HK.out]; omega), rfl⟩)⟩
        · have hiy : i < xs.length := by omega
          have t2 : (i : Int) < (xs.length : Int) := by omega
          have hss : i < (⟨xs.toArray⟩ : ByteArray).size := by rw [str_size]; exact hiy
          have hdg : isDig xs[i] = true := List.all_eq_true.1 HDG.out _ (List.getElem_mem hiy)
          have hdg2 : 48 ≤ xs[i].toNat ∧ xs[i].toNat ≤ 57 := by simpa [isDig] using hdg
          obtain ⟨c0, hc⟩ : ∃ c : Nat, c = xs[i].toNat := ⟨_, rfl⟩
          have hc2 : ((⟨xs.toArray⟩ : ByteArray)[i]'hss).toNat = c0 := hc.symm
          rw [← hc] at hdg2
          obtain ⟨m, hm⟩ : ∃ m, m = dec (xs.take i) := ⟨_, rfl⟩
          have HN : Hid (dec (xs.take (i + 1)) = 10 * m + (c0 - 48)) := by show _ = _; rw [dec_take_succ hiy, ← hm, ← hc]
          have HM : Hid (val B16 xa = m) := by show _ = _; rw [HVA.out, hm]
          have t4 : (48 : Int) ≤ ((((⟨xs.toArray⟩ : ByteArray)[i]'hss).toNat : Nat) : Int) := by rw [hc2]; omega
          have t5 : ((((⟨xs.toArray⟩ : ByteArray)[i]'hss).toNat : Nat) : Int) ≤ 57 := by rw [hc2]; omega
          have HC2 := Lib.hid hc2
          clear hm hdg hc hc2 hil
          obtain ⟨d, hd⟩ : ∃ d, d = c0 - 48 := ⟨_, rfl⟩
          have hd9 : d ≤ 9 := by omega
          have hcd : c0 = d + 48 := by omega
          subst hcd
          clear hd hdg2
          rw [Nat.add_sub_cancel] at HN
          go_wp2_with fail
          go_loopw [6, 7, 8] (fun cv ov kv w2 => ParIn la d xa W1 cv ov kv w2) (fun _ _ kv _ => la + 2 - (intOf kv).toNat)
          case atStart => exact ⟨d, 0, [], by rw [HC2.out]; exact congrArg (Value.int _) (by omega), rfl, Own.nil _ _ _ _, Dig.nil _, by omega, by omega, by simp [val], fun h => by omega, Below.refl _ _⟩
          case round =>
            obtain ⟨c, k, zs, rfl, rfl, hown, hdz, hc10, hk, hv, htop, hbel⟩ := hrel
            have GO := Lib.hid hown
            have GD := Lib.hid hdz
            have GV := Lib.hid hv
            have GT := Lib.hid htop
            have GW := Lib.hid hbel
            clear hown hdz hv htop hbel
            by_cases hgo : k < la ∨ 0 < c
            · have hkl : k ≤ la := by
                rcases Nat.lt_or_ge la k with h | h
                · have := (GT.out h).1
                  omega
                · exact h
              have hx := HDA.out.get B16_pos k
              obtain ⟨x, hxe⟩ : ∃ x, x = xa[k]?.getD 0 := ⟨_, rfl⟩
              rw [← hxe] at hx
              have HXB := Lib.hid hx
              rw [B16_eq] at hx
              have HXE := Lib.hid hxe
              have HAr := Lib.hid (HA.out.keep GW.out)
              clear hxe
              have hrest : k < la ∨ (¬ k < la ∧ 0 < c) := by omega
              rcases hrest with h1 | ⟨h1, h3⟩
              · have t6 : (k : Int) < (la : Int) := by omega
                go_wp2_with fail
                refine (at_any _ _ _ xa _ k _ HAr.out rfl).mono ?_
                rw [← HXE.out]
                rintro e w1 ⟨rfl, rfl⟩
                go_wp2_with (at_builtin; refine wpList_app rfl _ _ 26 rfl W1.heap.size 3 .i64 8 Try.underlying26 (by kernel_rfl) _ k zs rfl GO.out _ ((c + 10 * x) % B16) rfl (by rw [B16_eq]; omega) (by omega) (by omega) GW.out.size ?_; intro v' w2 hown' hbel')
                go_roundw
                case rel => exact par_in GO.out.len GD.out hc10 hkl HA.out.len HXE.out HXB.out hgo GV.out GW.out hown' hbel' _ _ (by rw [B16_eq]; omega) rfl
                case measure => simp only [intOf]; omega
              · have t6 : ¬ (k : Int) < (la : Int) := by omega
                have t7 : (0 : Int) < (c : Int) := by omega
                go_wp2_with fail
                refine (at_any _ _ _ xa _ k _ HAr.out rfl).mono ?_
                rw [← HXE.out]
                rintro e w1 ⟨rfl, rfl⟩
                go_wp2_with (at_builtin; refine wpList_app rfl _ _ 26 rfl W1.heap.size 3 .i64 8 Try.underlying26 (by kernel_rfl) _ k zs rfl GO.out _ ((c + 10 * x) % B16) rfl (by rw [B16_eq]; omega) (by omega) (by omega) GW.out.size ?_; intro v' w2 hown' hbel')
                go_roundw
                case rel => exact par_in GO.out.len GD.out hc10 hkl HA.out.len HXE.out HXB.out hgo GV.out GW.out hown' hbel' _ _ (by rw [B16_eq]; omega) rfl
                case measure => simp only [intOf]; omega
            · have t6 : ¬ (k : Int) < (la : Int) := by omega
              obtain rfl : c = 0 := by omega
              obtain ⟨oo, cap, rfl, hlc2, hcm2, hsl⟩ := GO.out.sl
              have HS := Lib.hid hsl
              have hval : val B16 zs = d + 10 * m := by
                have h := GV.out
                rw [List.take_of_length_le (l := xa) (by rw [HA.out.len]; omega), HM.out] at h
                omega
              have HVZ := Lib.hid hval
              have hla2 : la ≤ k := by omega
              clear hsl hval hgo
              go_wp2
              go_roundw
              case rel => exact ⟨oo, k, cap, i + 1, rfl, by go_num, by omega, hlc2, hcm2, ⟨zs, HS.out, GD.out, par_top GO.out.len GD.out HTA.out HA.out.len HM.out hla2 HVZ.out (fun h => (GT.out h).2), by rw [HVZ.out, HN.out]; omega⟩, HB.out.trans (GW.out.mono HB.out.size)⟩
              case measure => simp only [intOf]; omega
end Go.Proofs.Ytdnnjjclklcihaa
