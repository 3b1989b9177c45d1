/- The specification's small, text, Text. -/
import Derived.Test.YtdnnjjclklcihaaRefB
set_option linter.unusedVariables false
namespace Go.Proofs.Ytdnnjjclklcihaa
open Go.RowKit

theorem small_step {B d r i x : Nat} {zs : List Nat} {top : Nat} (hi : i < zs.length) (hd : 0 < d) (h : d * (B ^ (i + 1) * val B (zs.drop (i + 1))) + r * B ^ (i + 1) = B ^ (i + 1) * top) :
    d * (B ^ i * val B ((zs.set i ((r * B + x) / d)).drop i)) + ((r * B + x) % d) * B ^ i = B ^ i * (x + B * top) := by
  have e : (zs.set i ((r * B + x) / d)).drop i = (r * B + x) / d :: zs.drop (i + 1) := by
    rw [drop_eq_cons _ i (by simpa using hi)]
    rw [List.drop_set_of_lt (by omega)]
    simp [List.getElem?_set_self hi]
  rw [e, val_cons]
  have h2 := Nat.div_add_mod (r * B + x) d
  generalize (r * B + x) / d = q at *
  generalize (r * B + x) % d = t at *
  generalize val B (zs.drop (i + 1)) = v at *
  rw [Nat.pow_succ] at h
  generalize B ^ i = p at *
  grind

def SmallRel (g la d : Nat) (xs : List Nat) (W : World) (rv iv : Value) (wr : World) : Prop :=
  ∃ (r i : Nat) (zs : List Nat), rv = .int .i64 (r : Int) ∧ iv = .int .i64 ((i : Int) - 1) ∧ Blk .i64 wr g 3 zs ∧ zs.length = la ∧ Dig B16 zs ∧ i ≤ la ∧ r < d ∧
    d * (B16 ^ i * val B16 (zs.drop i)) + r * B16 ^ i = B16 ^ i * val B16 (xs.drop i) ∧ Below W.heap.size W wr

def SmallPost (n d : Nat) (W : World) (e : Ending) (w' : World) : Prop :=
  ∃ ao len cap, e = .returned (.tuple #[.slice ao len cap, .int .i64 ((n % d : Nat) : Int)]) ∧ len ≤ cap ∧ cap ≤ 9223372036854775807 ∧ (0 < len → ao = some ⟨W.heap.size, 0, none⟩) ∧ N16 w' ao len (n / d) ∧ Below W.heap.size W w'

set_option maxHeartbeats 1000000 in
theorem small_any (ao : Option Addr) (la ca n : Nat) (D : Int) (d : Nat) (W : World) (h : N16 W ao la n) (hD : D = (d : Int)) (hd0 : 0 < d) (hdB : d ≤ 65536) (hla : la ≤ 1000000000) :
    Calls Try.prog 111 #[.slice ao la ca, .int .i64 D] W (SmallPost n d W) := by
  subst hD
  obtain ⟨xs, hs, hd, ht, hv⟩ := h
  have HS := Lib.hid hs
  have HD := Lib.hid hd
  have HV := Lib.hid hv
  obtain ⟨hx, b, off, hao, hc⟩ := hs
  have HX := Lib.hid hx
  have HA := Lib.hid hao
  have HC := Lib.hid hc
  have HG := Lib.hid (Nat.le_refl W.heap.size)
  clear hd ht hv hx hao hc
  go_enter Try.func111, Try.ntmps111
  go_wp2_with (at_make; refine wpList_mk rfl _ 26 rfl 3 .i64 8 Try.underlying26 (by kernel_rfl) _ la rfl rfl (by omega) (by omega) ?_; intro w1 hB1 hb1 hz1)
  go_loopw [7, 8] (fun rv iv wr => SmallRel W.heap.size la d xs W rv iv wr) (fun rv iv _ => (intOf iv + 1).toNat)
  case atStart =>
    exact ⟨0, la, _, rfl, rfl, hB1, by simp, Dig.replicate B16_pos _, Nat.le_refl _, hd0, by rw [List.drop_of_length_le (by simp), List.drop_of_length_le (by rw [HX.out]; exact Nat.le_refl _)]; simp [val], hb1⟩
  case round =>
    obtain ⟨r, i, zs, rfl, rfl, hB, hzl, hdz, hi, hr, hv, hbel⟩ := hrel
    have GZ := Lib.hid hB
    have GL := Lib.hid hzl
    have GD := Lib.hid hdz
    have GV := Lib.hid hv
    have GW := Lib.hid hbel
    clear hB hzl hdz hv hbel
    by_cases hi0 : i = 0
    · subst hi0
      have HSl := Lib.hid (GZ.out.whole GL.out)
      go_wp2_with (go_at_call 99; refine (trim16_raw _ _ _ _ _ HSl.out (by omega) (by omega)).mono ?_; rintro e w3 ⟨⟨ao', m, rfl, hm, ha', ht, hzz⟩, rfl⟩)
      go_ret2
      have hv := GV.out
      simp only [Nat.pow_zero, List.drop_zero, Nat.one_mul, Nat.mul_one, HV.out] at hv
      have hq : val B16 zs = n / d := by
        rw [← hv, Nat.mul_add_div hd0, Nat.div_eq_of_lt hr, Nat.add_zero]
      have hm2 : r = n % d := by
        rw [← hv, Nat.mul_add_mod, Nat.mod_eq_of_lt hr]
      exact ⟨ao', m, la, by rw [← hm2]; rfl, hm, by omega, ha', ⟨_, trim_sl HSl.out hm ha', GD.out.take _, ht, by rw [val_take_of_zeros hzz, hq]⟩, GW.out⟩
    · obtain ⟨j, rfl⟩ : ∃ j, i = j + 1 := ⟨i - 1, by omega⟩
      have e1 : (((j + 1 : Nat) : Int) - 1) = (j : Int) := by omega
      rw [e1]
      clear e1
      obtain rfl := HA.out (by omega)
      have c1 := GZ.out.cell j (by rw [GL.out]; omega)
      have f1 := GZ.out.frozen j
      have c2 := cell_later GW.out (HC.out j (by omega))
      have hx := HD.out.get B16_pos j
      obtain ⟨x, hxe⟩ : ∃ x, x = xs[j]?.getD 0 := ⟨_, rfl⟩
      rw [← hxe] at c2 hx
      have HXE := Lib.hid hxe
      rw [B16_eq] at hx
      clear hxe
      have b1 : (0 : Int) ≤ (j : Int) := by omega
      have b2 : (j : Int) < (la : Int) := by omega
      have b3 : (r : Int) < (d : Int) := by omega
      have b4 : (1 : Int) ≤ (d : Int) := by omega
      have hN : r * B16 + x < d * B16 := by
        have : (r + 1) * B16 ≤ d * B16 := Nat.mul_le_mul_right _ hr
        rw [B16_eq] at *
        omega
      have hq : (r * B16 + x) / d < B16 := Nat.div_lt_of_lt_mul hN
      have HQ := Lib.hid hq
      clear hN hq
      go_wp2
      refine ⟨?_, by simp [intOf]⟩
      have ec : ((r : Int) * 65536 + (x : Int)) = ((r * B16 + x : Nat) : Int) := by rw [B16_eq]; omega
      rw [ec]
      refine ⟨(r * B16 + x) % d, j, zs.set j ((r * B16 + x) / d), congrArg (Value.int _) (Int.natCast_emod _ _).symm, rfl, GZ.out.set _ _ _ (Int.natCast_ediv _ _).symm, by simpa using GL.out, GD.out.set _ HQ.out, by omega, Nat.mod_lt _ hd0, ?_, GW.out.setCell (Nat.le_refl _) _⟩
      have hs := small_step (B := B16) (d := d) (r := r) (i := j) (x := x) (zs := zs) (top := val B16 (xs.drop (j + 1))) (by rw [GL.out]; omega) hd0 GV.out
      rw [drop_eq_cons xs j (by rw [HX.out]; omega), val_cons, ← HXE.out]
      exact hs

/-- the number that a slice of the specification's digits reads as: for a loop's measure -/
def readN16 (w : World) : Value → Nat
  | .slice (some a) l _ => val B16 ((List.range l).map fun i => match w.cell? ⟨a.block, a.off + i, none⟩ with | some (.int _ x) => x.toNat | _ => 0)
  | _ => 0

theorem readN16_of {w : World} {ao : Option Addr} {len cap n : Nat} (hn : N16 w ao len n) : readN16 w (.slice ao len cap) = n := by
  obtain ⟨xs, h, _, _, hv⟩ := hn
  rw [← hv]
  obtain ⟨h1, b, off, h2, h3⟩ := h
  by_cases h0 : len = 0
  · obtain rfl : xs = [] := List.eq_nil_of_length_eq_zero (by omega)
    subst h0
    cases ao <;> rfl
  · rw [h2 (by omega)]
    simp only [readN16]
    congr 1
    apply List.ext_getElem
    · simp [h1]
    · intro i h4 h5
      simp only [List.getElem_map, List.getElem_range]
      rw [h3 i (by simpa using h4)]
      simp [List.getElem?_eq_getElem h5]

def TxtRel (n : Nat) (W : World) (av bv : Value) (wr : World) : Prop :=
  ∃ (ao : Option Addr) (len cap k v : Nat) (ts : List Nat), av = .slice ao len cap ∧ len ≤ 1000000000 ∧ N16 wr ao len v ∧ Own .u8 wr W.heap.size 5 bv k (ts.map (48 + ·)) ∧ Dig 10 ts ∧ val 10 ts + 10 ^ ts.length * v = n ∧ (v = 0 → ts ≠ [] ∧ Top ts) ∧ v ≤ n ∧ Below W.heap.size W wr

/-- what the call owns stays so while only blocks that did not exist are made -/
theorem Own.later {k : IntKind} {w w' : World} {base e n : Nat} {v : Value} {xs : List Nat} (h : Own k w base e v n xs) (hb : Below w.heap.size w w') : Own k w' base e v n xs := by
  have hlt := World.ownsRow.lt h
  refine ⟨h.1, ?_⟩
  rcases h.2 with h2 | ⟨g, cap, cur, rfl, hg, hh, r⟩
  · exact .inl h2
  · exact .inr ⟨g, cap, cur, rfl, hg, (hb.block g (Array.getElem?_eq_some_iff.1 hh).1).trans hh, r⟩

def RvRel (base g n cap : Nat) (xs : List Nat) (W : World) (iv jv : Value) (wr : World) : Prop :=
  ∃ (i : Nat) (zs : List Nat), iv = .int .i64 (i : Int) ∧ jv = .int .i64 ((n : Int) - 1 - (i : Int)) ∧ 2 * i ≤ n + 1 ∧ Own .u8 wr base 5 (.slice (some ⟨g, 0, none⟩) n cap) n zs ∧ Turned xs zs i ∧ Below base W wr

theorem text_len16 {n la k : Nat} (h : 10 ^ k ≤ n) (hn : n < B16 ^ la) : k ≤ 16 * la := by
  rw [B16_pow] at hn
  have h1 : 2 ^ k ≤ 10 ^ k := Nat.pow_le_pow_left (by decide) k
  have h2 : 2 ^ k < 2 ^ (16 * la) := by omega
  have := (Nat.pow_lt_pow_iff_right (show 1 < 2 by decide)).1 h2
  omega

theorem pow_len {ts : List Nat} {n v : Nat} (h : val 10 ts + 10 ^ ts.length * v = n) (hv : 0 < v) : 10 ^ ts.length ≤ n := by
  have := Nat.mul_le_mul_left (10 ^ ts.length) hv
  omega

set_option maxHeartbeats 2000000 in
theorem text_any (ao : Option Addr) (la ca n : Nat) (W : World) (ha : N16 W ao la n) (hla : la ≤ 1000000000) :
    Calls Try.prog 78 #[.slice ao la ca] W (StrPost (numeral n) W) := by
  have hlt := ha.lt
  have hz := ha.zero
  have HA := Lib.hid ha
  have HLT := Lib.hid hlt
  by_cases h0 : la = 0
  · have hn : n = 0 := hz.2 h0
    have HN : Hid (StrPost (numeral n) W = StrPost [48] W) := by
      rw [hn]; rfl
    rw [HN.out]
    subst h0
    clear ha hlt hz hn HN HLT
    go_enter Try.func78, Try.ntmps78
    go_wp2
    go_ret
    exact ⟨rfl, Below.refl _ _⟩
  · have hn0 : n ≠ 0 := fun h => h0 (hz.1 h)
    have HN := Lib.hid hn0
    have hb0 : ((la : Int) == 0) = false := by simp; omega
    clear ha hlt hz hn0
    go_enter Try.func78, Try.ntmps78
    go_wp2
    go_loopw [0, 3] (fun av bv wr => TxtRel n W av bv wr) (fun av bv wr => readN16 wr av)
    case atStart =>
      exact ⟨ao, la, ca, 0, n, [], rfl, hla, HA.out, Own.nil _ _ _ _, Dig.nil _, by simp [val], fun h => absurd h HN.out, Nat.le_refl _, Below.refl _ _⟩
    case round =>
      obtain ⟨ao', len, cap, k, v, ts, rfl, hlen, hn16, hown, hdt, hsum, htop, hvn, hbel⟩ := hrel
      obtain ⟨wo, rfl⟩ : ∃ wo : World, wo = wr := ⟨_, rfl⟩
      have hv0 := hn16.zero
      have hrn := readN16_of (cap := cap) hn16
      have GN := Lib.hid hn16
      have GO := Lib.hid hown
      have GDT := Lib.hid hdt
      have GS := Lib.hid hsum
      have GTOP := Lib.hid htop
      have GW := Lib.hid hbel
      have GR := Lib.hid hrn
      have GV0 := Lib.hid hv0
      have GVN := Lib.hid hvn
      have hkt := GO.out.len
      simp only [List.length_map] at hkt
      have HKT := Lib.hid hkt
      clear hn16 hown hdt hsum htop hbel hrn hv0 hvn hkt
      by_cases hlen0 : len = 0
      · subst hlen0
        have hv : v = 0 := by first | exact GV0.out.2 rfl | exact GV0.out.2 trivial
        have h9 := GTOP.out hv
        have h10 : val 10 ts = n := by
          have := GS.out
          rw [hv] at this
          simpa using this
        have h11 := low_of GDT.out h9.2 h10
        have hnum : numeral n = chars ts.reverse := by
          unfold numeral
          rw [if_neg HN.out, h11]
        have HNUM := Lib.hid hnum
        rcases GO.out.cases with ⟨_, _, h⟩ | ⟨g', cap', rfl, hb', _, _, _, _⟩
        · exact absurd (List.map_eq_nil_iff.1 h) h9.1
        · have hk2 : k ≤ 16 * la + 1 := by
            have h12 := val_ge (B := 10) h9.2 h9.1
            rw [h10] at h12
            have := text_len16 h12 HLT.out
            have : ts.length ≠ 0 := fun h => h9.1 (List.eq_nil_of_length_eq_zero h)
            have := HKT.out
            omega
          have hk3 : k ≤ 16000000001 := by omega
          clear hv h9 h10 h11 hnum hk2
          go_wp2
          go_loopw [5, 6] (fun iv jv wr => RvRel W.heap.size g' k cap' (ts.map (48 + ·)) wo iv jv wr) (fun iv jv _ => k - (intOf iv).toNat)
          case atStart =>
            refine ⟨0, _, rfl, by simp, by omega, GO.out, ⟨rfl, fun t ht => ?_⟩, Below.refl _ _⟩
            rw [if_neg (by omega)]
          case round =>
            obtain ⟨i, zs, rfl, rfl, hi, hB, htn, hbel⟩ := hrel
            have GZ := Lib.hid hB
            have GT := Lib.hid htn
            have GW2 := Lib.hid hbel
            have GX : Hid ((ts.map (48 + ·)).length = k) := by show _ = _; rw [List.length_map]; exact HKT.out
            clear hB htn hbel
            by_cases hlt : 2 * i + 1 < k
            · obtain ⟨j, hj⟩ : ∃ j, i + j + 1 = k := ⟨k - 1 - i, by omega⟩
              have ej : ((k : Int) - 1 - (i : Int)) = (j : Int) := by omega
              rw [ej]
              have HJ := Lib.hid hj
              have hij : i < j := by omega
              have hin : i < k := by omega
              have hjn : j < k := by omega
              have b0 : (i : Int) < (j : Int) := by omega
              have b1 : (0 : Int) ≤ (i : Int) := by omega
              have b2 : (i : Int) < (k : Int) := by omega
              have b3 : (0 : Int) ≤ (j : Int) := by omega
              have b4 : (j : Int) < (k : Int) := by omega
              have hcells : ∀ t, t < k → wr.cell? ⟨g', t, none⟩ = some (.int .u8 ((zs[t]?.getD 0 : Nat) : Int)) ∧ wr.frozen? ⟨g', t, none⟩ = false := by
                rcases GZ.out.cases with ⟨h, _⟩ | ⟨g'', cap'', h, _, _, _, _, h3⟩
                · cases h
                · cases h; exact h3
              obtain ⟨c1, f1⟩ := hcells i hin
              obtain ⟨c2, f2⟩ := hcells j hjn
              clear hcells ej hj
              obtain ⟨x, hxe⟩ : ∃ x, x = zs[i]?.getD 0 := ⟨_, rfl⟩
              obtain ⟨y, hye⟩ : ∃ x, x = zs[j]?.getD 0 := ⟨_, rfl⟩
              rw [← hxe] at c1
              rw [← hye] at c2
              have HXE := Lib.hid hxe
              have HYE := Lib.hid hye
              clear hxe hye
              have hne : i ≠ j := by omega
              go_wp2
              refine ⟨?_, by simp [intOf]; omega⟩
              refine ⟨i + 1, (zs.set i y).set j x, by go_num, congrArg (Value.int _) (by have := HJ.out; omega), by omega, ?_, ?_, ?_⟩
              · have h1 := GZ.out.stored i y hin _ rfl
                exact h1.stored j x hjn _ rfl
              · have h3 := turned_step GT.out hij (by rw [GX.out]; exact HJ.out)
                rw [← HXE.out, ← HYE.out] at h3
                exact h3
              · exact (GW2.out.setCell hb' _).setCell hb' _
            · have b0 : ¬ (i : Int) < (k : Int) - 1 - (i : Int) := by omega
              have htt := turned_end GT.out (by rw [GX.out]; omega)
              have hown5 := GZ.out
              rw [htt, ← List.map_reverse] at hown5
              have hcv := run_convert_bytes_back (P := Try.prog) wr 121 9 5 ⟨g', 0, none⟩ cap' (chars ts.reverse) Try.underlying121 Try.underlying5 Try.underlying9 (chars_cells hown5 (fun x hx => GDT.out x (List.mem_reverse.1 hx)))
              have hlc : (chars ts.reverse).length = k := by simp [chars]; exact HKT.out
              rw [hlc] at hcv
              clear hown5 hlc htt
              go_wp2
              go_ret
              exact ⟨by rw [HNUM.out]; rfl, GW.out.trans GW2.out⟩
      · have b1 : (0 : Int) < (len : Int) := by omega
        have hvpos : 0 < v := by have := GV0.out; omega
        have hkb : k ≤ 16 * la := by
          have := text_len16 (pow_len GS.out hvpos) HLT.out
          have := HKT.out
          omega
        go_wp2_with fail
        refine (small_any _ _ _ v _ 10 _ GN.out rfl (by decide) (by decide) hlen).mono ?_
        rintro e w4 ⟨ao4, l4, c4, rfl, hlc4, hcm4, hao4, hn4, hb4⟩
        have hl4 : l4 ≤ 1000000000 := Nat.le_trans (hn4.len_le (Nat.lt_of_le_of_lt (Nat.div_le_self _ _) GN.out.lt)) hlen
        have I1 := Lib.hid hn4
        have I5 := Lib.hid hao4
        have I2 := Lib.hid hb4
        have I3 := Lib.hid (GO.out.later hb4)
        have I4 := Lib.hid (Nat.le_trans GW.out.size hb4.size)
        clear hn4 hb4 hao4
        go_wp2_with (at_builtin; refine wpList_app2 rfl _ _ 121 rfl W.heap.size 5 .u8 1 Try.underlying121 (by kernel_rfl) _ k (ts.map (48 + ·)) rfl I3.out _ (48 + v % 10) rfl (by omega) (by omega) (by omega) I4.out ?_; intro v' w6 hown' hbel' hgrow')
        have hn6 : N16 w6 ao4 l4 (v / 10) := by
          obtain ⟨ys, y1, y2⟩ := I1.out
          refine ⟨ys, (y1.keep ((Below.refl _ _).alloc (Nat.le_refl _) _)).grown hgrow' (fun b hl hb => ?_), y2⟩
          rw [I5.out hl] at hb
          cases hb
          intro e
          have := World.ownsRow.lt GO.out wo.heap.size e.symm
          omega
        have hr6 := readN16_of (cap := c4) hn6
        have HR6 := Lib.hid hr6
        have HN6 := Lib.hid hn6
        clear hr6 hn6 hgrow'
        go_roundw
        case rel =>
          have hnew : val 10 (ts ++ [v % 10]) + 10 ^ (ts ++ [v % 10]).length * (v / 10) = n := by
            have h1 := write_step (ts := ts) (v := n) (r := 0) (g := v) (m := 0) (by simpa using GS.out)
            simpa using h1
          refine ⟨ao4, l4, c4, k + 1, v / 10, ts ++ [v % 10], rfl, hl4, HN6.out, by rw [List.map_append]; exact hown', GDT.out.append (Dig.cons (Nat.mod_lt _ (by decide)) (Dig.nil _)), hnew, ?_, by have := GVN.out; omega, GW.out.trans ((I2.out.mono GW.out.size).trans hbel')⟩
          intro hq
          refine ⟨by simp, fun _ => ?_⟩
          simp
          omega
        case measure =>
          rw [HR6.out, GR.out]
          exact Nat.div_lt_self hvpos (by decide)
end Go.Proofs.Ytdnnjjclklcihaa
