/- writeDigits. -/
import Derived.Test.YtdnnjjclklcihaaText
import Derived.Laws.IdiomStrings
set_option linter.unusedVariables false
namespace Go.Proofs.Ytdnnjjclklcihaa
open Go.RowKit

/-- the number that a slice of digits reads as: for a loop's measure -/
def readNat (w : World) : Value → Nat
  | .slice (some a) l _ => val B32 ((List.range l).map fun i => match w.cell? ⟨a.block, a.off + i, none⟩ with | some (.int _ x) => x.toNat | _ => 0)
  | _ => 0

theorem readNat_of {w : World} {ao : Option Addr} {len cap : Nat} {xs : List Nat} (h : Sl .u32 w ao len xs) : readNat w (.slice ao len cap) = val B32 xs := by
  obtain ⟨h1, b, off, h2, h3⟩ := h
  by_cases h0 : len = 0
  · obtain rfl : xs = [] := List.eq_nil_of_length_eq_zero (by omega)
    subst h0
    cases ao <;> rfl
  · rw [h2 (by omega)]
    simp only [readNat]
    congr 1
    apply List.ext_getElem
    · simp [h1]
    · intro i h4 h5
      simp only [List.getElem_map, List.getElem_range]
      rw [h3 i (by simpa using h4)]
      simp [List.getElem?_eq_getElem h5]

def StrPost (l : List UInt8) (W : World) (e : Ending) (w' : World) : Prop := e = .returned (.string ⟨l.toArray⟩) ∧ Below W.heap.size W w'

theorem wr_pos {zs : List Nat} {l m q : Nat} (hl : zs.length = l) (ht : Top (zs.take m)) (hv : val B32 (zs.take m) = q) (hm : m ≤ l) : 0 < q ↔ 0 < m := by
  have := val_zero_iff B32_pos ht
  rw [hv] at this
  rw [← List.length_eq_zero_iff, List.length_take] at this
  omega

theorem wr_blk {k : IntKind} {w : World} {g e m : Nat} {zs post : List Nat} (h : Blk k w g e (zs ++ post)) : Blk k w g e (zs.take m ++ (zs.drop m ++ post)) := by
  rwa [← List.append_assoc, List.take_append_drop]

theorem wr_read {w4 wr : World} {g l m q : Nat} {ao : Option Addr} {zs post : List Nat} (hb : Below (g + 1) w4 wr) (hB : Blk .u32 w4 g 104 (zs ++ post)) (hl : zs.length = l)
    (ha : 0 < m → ao = some ⟨g, 0, none⟩) (hv : val B32 (zs.take m) = q) (hm : m ≤ l) : readNat wr (.slice ao m m) = q := by
  rw [← hv]
  by_cases h : m = 0
  · subst h; rw [readNat_of (Sl.nil _ _ _)]; rfl
  · rw [ha (by omega)]
    have := (wr_blk (m := m) (hB.below hb (Nat.lt_succ_self _))).sl0 m (by simp; omega)
    rw [List.take_append_of_le_length (by simp; omega), List.take_of_length_le (by simp; omega)] at this
    exact readNat_of this

theorem wr_next {n l m v d i k2 : Nat} {ao : Option Addr} {zs post ts2 : List Nat} {W wo w4 wr : World} {tv : Value} (hown : Own .u8 wr (W.heap.size + 1) 5 tv k2 (ts2.map (48 + ·))) (hin : WIn d i (v / 1000000000) n ts2)
    (hb : Below (W.heap.size + 1) w4 wr) (hx : ¬ (i < 9 ∧ (0 < d ∨ 0 < v / 1000000000))) (hB : Blk .u32 w4 W.heap.size 104 (zs ++ post)) (hl : zs.length = l) (hd : Dig B32 zs)
    (ha : 0 < m → ao = some ⟨W.heap.size, 0, none⟩) (ht : Top (zs.take m)) (hv : val B32 (zs.take m) = v / 1000000000) (hm : m ≤ l ∧ l ≤ 1000000000) (hW : Below W.heap.size W wo) (hg4 : wo.grownBy w4 (some W.heap.size)) (hgl : W.heap.size < wo.heap.size) :
    WrRel n W.heap.size W (.slice ao m m) tv wr := by
  obtain ⟨h1, h2⟩ := hin.done hx
  refine ⟨ao, m, k2, v / 1000000000, zs.take m, zs.drop m ++ post, ts2, rfl, ha, wr_blk (hB.below hb (Nat.lt_succ_self _)), by simp; omega, by omega, hd.take _, ht, hv, hown, hin.dig, h1, h2, ?_, Nat.le_refl _, ?_⟩
  · exact (hW.grown hg4 (Nat.le_of_lt hgl) (fun k hk => by cases hk; exact Nat.le_refl _)).trans (hb.mono (Nat.le_succ _))
  · have a1 := hg4.size
    have a2 := hb.size
    omega

set_option maxHeartbeats 2000000 in
theorem writeDigits_any (ao : Option Addr) (la ca n : Nat) (W : World) (ha : N32 W ao la n) (hla : la ≤ 1000000000) :
    Calls Try.prog 73 #[.slice ao la ca] W (StrPost (numeral n) W) := by
  have hlt := ha.lt
  have hz := ha.zero
  obtain ⟨xs, hs, hd, ht, hv⟩ := ha
  have HS := Lib.hid hs
  have HD := Lib.hid hd
  have HT := Lib.hid ht
  have HV := Lib.hid hv
  have HLT := Lib.hid hlt
  by_cases h0 : la = 0
  · have hn : n = 0 := hz.2 h0
    have HN : Hid (StrPost (numeral n) W = StrPost [48] W) := by
      rw [hn]; rfl
    rw [HN.out]
    subst h0
    clear hs hd ht hv hlt hz HV HLT hn HN
    go_enter Try.func73, Try.ntmps73
    go_wp2
    go_ret
    exact ⟨rfl, Below.refl _ _⟩
  · have hn0 : n ≠ 0 := fun h => h0 (hz.1 h)
    have HN := Lib.hid hn0
    have hb0 : ((la : Int) == 0) = false := by simp; omega
    clear hs hd ht hv hlt hz hn0
    go_enter Try.func73, Try.ntmps73
    go_wp2_with fail
    refine (duplicate_any _ _ _ _ _ HS.out (by omega)).mono ?_
    rintro e w1 (⟨h, _⟩ | ⟨_, rfl, hB, hb1, hz1⟩)
    · omega
    · have H1 := Lib.hid hB
      have H2 := Lib.hid hb1
      have H3 := Lib.hid hz1
      clear hB hb1 hz1
      go_wp2_with fail
      go_loopw [3, 5] (fun rv tv wr => WrRel n W.heap.size W rv tv wr) (fun rv tv wr => readNat wr rv)
      case atStart =>
        exact ⟨_, la, 0, n, xs, [], [], rfl, fun _ => rfl, by simpa using H1.out, HS.out.len, hla, HD.out, HT.out, HV.out, Own.nil _ _ _ _, Dig.nil _, by simp [val], fun h => absurd h HN.out, H2.out, Nat.le_refl _, H3.out⟩
      case round =>
        obtain ⟨ao', len, k, v, zs, post, ts, rfl, hao, hB, hzl, hlen, hdz, htz, hvz, hown, hdt, hsum, htop, hbel, hge, hgl⟩ := hrel
        obtain ⟨wo, rfl⟩ : ∃ wo : World, wo = wr := ⟨_, rfl⟩
        have hv0 : v = 0 ↔ len = 0 := by
          rw [← hvz, val_zero_iff B32_pos htz, ← List.length_eq_zero_iff, hzl]
        have hrn : readNat wo (.slice ao' len len) = v := by
          rw [← hvz]
          by_cases h : len = 0
          · subst h
            rw [readNat_of (Sl.nil _ _ _), (val_zero_iff B32_pos htz).2 (List.eq_nil_of_length_eq_zero hzl)]; rfl
          · rw [hao (by omega)]
            have := hB.sl0 len (by simp; omega)
            rw [List.take_append_of_le_length (by omega), List.take_of_length_le (by omega)] at this
            exact readNat_of this
        have GA := Lib.hid hao
        have GB := Lib.hid hB
        have GL := Lib.hid hzl
        have GD := Lib.hid hdz
        have GT := Lib.hid htz
        have GV := Lib.hid hvz
        have GO := Lib.hid hown
        have GDT := Lib.hid hdt
        have GS := Lib.hid hsum
        have GTOP := Lib.hid htop
        have GW := Lib.hid hbel
        have GN := Lib.hid hrn
        have GV0 := Lib.hid hv0
        have GG := Lib.hid hge
        have GGL := Lib.hid hgl
        clear hao hB hzl hdz htz hvz hown hdt hsum htop hbel hrn hv0 hge hgl
        by_cases hlen0 : len = 0
        · subst hlen0
          have hv : v = 0 := GV0.out.2 rfl
          have h9 := GTOP.out hv
          have h10 : val 10 ts = n := by
            have := GS.out
            rw [hv] at this
            simpa using this
          have h11 := low_of GDT.out h9.2 h10
          have hnum : numeral n = chars ts.reverse := by
            unfold numeral
            rw [if_neg HN.out, h11]
          have HNUM := Lib.hid hnum
          rcases GO.out.cases with ⟨_, _, h⟩ | ⟨g', cap', rfl, hb', _, _, _, _⟩
          · exact absurd (List.map_eq_nil_iff.1 h) h9.1
          · have hk : k = ts.length := by have := GO.out.len; simpa using this.symm
            have hk2 : k ≤ 32 * la + 1 := by
              have h12 := val_ge (B := 10) h9.2 h9.1
              rw [h10] at h12
              have := text_len h12 HLT.out
              have : ts.length ≠ 0 := fun h => h9.1 (List.eq_nil_of_length_eq_zero h)
              omega
            subst hk
            have HK := Lib.hid hk2
            clear hv h9 h10 h11 hnum hk2
            go_wp2_with fail
            refine (reverse_own (W.heap.size + 1) g' ts.length cap' _ _ GO.out (by have := HK.out; omega)).mono ?_
            rintro e w5 ⟨rfl, hown5, hbel5⟩
            have hcv := run_convert_bytes_back (P := Try.prog) w5 121 9 5 ⟨g', 0, none⟩ cap' (chars ts.reverse) Try.underlying121 Try.underlying5 Try.underlying9 (chars_cells (by rw [← List.map_reverse] at hown5; exact hown5) (fun x hx => GDT.out x (List.mem_reverse.1 hx)))
            have hlc : (chars ts.reverse).length = ts.length := by simp [chars]
            rw [hlc] at hcv
            have L5 := Lib.hid hbel5
            clear hown5 hbel5 hlc
            go_wp2
            go_ret
            exact ⟨by rw [HNUM.out]; rfl, GW.out.trans (L5.out.mono (Nat.le_succ _))⟩
        · obtain ⟨l1, rfl⟩ : ∃ l1, len = l1 + 1 := ⟨len - 1, by omega⟩
          have hvpos : 0 < v := by have := GV0.out; omega
          obtain rfl := GA.out (by omega)
          go_wp2_with fail
          refine (shrink_any W.heap.size 104 (l1 + 1) (l1 + 1) zs post _ 1000000000 _ GB.out GL.out GD.out rfl (by decide) (by decide) (by omega) (Nat.le_refl _) (by omega)).mono ?_
          rintro e w4 ⟨ao4, m4, zs4, rfl, hB4, hl4, hd4, hv4, hm4, ha4, hz4, ht4, hvt4, hg4, hs4⟩
          rw [GV.out] at hvt4
          have I1 := Lib.hid hB4
          have I2 := Lib.hid hl4
          have I3 := Lib.hid hd4
          have I4 := Lib.hid hv4
          have I5 := Lib.hid ha4
          have I6 := Lib.hid ht4
          have I7 := Lib.hid hvt4
          have I8 := Lib.hid hg4
          have I9 := Lib.hid hs4
          clear hB4 hl4 hd4 hv4 ha4 hz4 ht4 hvt4 hg4 hs4
          rw [GV.out]
          have HGO : Hid (Own .u8 w4 (W.heap.size + 1) 5 u5 k (ts.map (48 + ·))) := by
            refine GO.out.kept I8.out ?_
            cases hob : u5.ownBlock with
            | none => exact .inl rfl
            | some b => right; intro e; have := GO.out.ge b hob; simp only [Option.some.injEq] at e; omega
          have hstart := WIn.start GDT.out GS.out hvpos
          have HST := Lib.hid hstart
          have hm4 : 0 < v / 1000000000 ↔ 0 < m4 := wr_pos I2.out I6.out I7.out (by omega)
          have HM4 := Lib.hid hm4
          have HSZ : Hid (W.heap.size + 1 ≤ w4.heap.size) := by have := I9.out; have := GGL.out; show _ ≤ _; omega
          clear hstart hm4
          go_wp2_with fail
          go_loopw [4, 5, 6] (fun gv tv iv wr => WrIn n W.heap.size (v / 1000000000) w4 gv tv iv wr) (fun gv tv iv _ => 9 - (intOf iv).toNat)
          case atStart =>
            exact ⟨v % 1000000000, 0, k, ts, by first | rfl | exact congrArg (Value.int _) (by omega), rfl, HGO.out, HST.out, Below.refl _ _⟩
          case round =>
            obtain ⟨d, i, k2, ts2, rfl, rfl, hown2, hin, hbel2⟩ := hrel
            have hi9 := hin.le
            have hsmall := hin.small
            have hd9 : d < 1000000000 := Nat.lt_of_lt_of_le hsmall (Nat.pow_le_pow_right (by decide) (by omega) : 10 ^ (9 - i) ≤ 10 ^ 9)
            have hk2 : k2 = ts2.length := by have := hown2.len; simpa using this.symm
            have hkb : (0 < d ∨ 0 < v / 1000000000) → k2 ≤ 32 * la := fun h => by rw [hk2]; exact hin.len h HLT.out
            have J1 := Lib.hid hown2
            have J2 := Lib.hid hin
            have J3 := Lib.hid hbel2
            have J4 : Hid (W.heap.size + 1 ≤ wr.heap.size) := Nat.le_trans HSZ.out hbel2.size
            clear hown2 hin hbel2 hsmall hk2
            by_cases hc : i < 9 ∧ (0 < d ∨ 0 < v / 1000000000)
            · have hkk := hkb hc.2
              have hc1 := hc.1
              have hc2 := hc.2
              have hm := HM4.out
              clear hc hkb
              have b1 : (i : Int) < 9 := by omega
              by_cases hd0 : 0 < d
              · have b2 : (0 : Int) < (d : Int) := by omega
                clear hc2 hm
                go_wp2_with (at_builtin; refine wpList_app rfl _ _ 121 rfl (W.heap.size + 1) 5 .u8 1 Try.underlying121 (by kernel_rfl) _ k2 (ts2.map (48 + ·)) rfl J1.out _ (48 + d % 10) rfl (by omega) (by omega) (by omega) J4.out ?_; intro v' w6 hown' hbel')
                go_roundw
                case rel => exact ⟨d / 10, i + 1, k2 + 1, ts2 ++ [d % 10], by first | rfl | exact congrArg (Value.int _) (by omega), by go_num, by rw [List.map_append]; exact hown', J2.out.step (by omega) (by have := HM4.out; omega), J3.out.trans hbel'⟩
                case measure => simp [intOf]; omega
              · obtain rfl : d = 0 := by omega
                have hm4p : 0 < m4 := by omega
                have b2 : (0 : Int) < (m4 : Int) := by omega
                clear hc2 hm
                go_wp2_with (at_builtin; refine wpList_app rfl _ _ 121 rfl (W.heap.size + 1) 5 .u8 1 Try.underlying121 (by kernel_rfl) _ k2 (ts2.map (48 + ·)) rfl J1.out _ (48 + 0 % 10) rfl ?_ ?_ ?_ J4.out ?_; (first | rfl | decide | omega); omega; omega; intro v' w6 hown' hbel')
                go_roundw
                case rel => exact ⟨0 / 10, i + 1, k2 + 1, ts2 ++ [0 % 10], by first | rfl | exact congrArg (Value.int _) (by omega), by go_num, by rw [List.map_append]; exact hown', J2.out.step (by omega) (by have := HM4.out; omega), J3.out.trans hbel'⟩
                case measure => simp [intOf]; omega
            · have hm := HM4.out
              clear hkb
              by_cases hc1 : i < 9
              · obtain rfl : d = 0 := by omega
                obtain rfl : m4 = 0 := by omega
                have b1 : (i : Int) < 9 := by omega
                clear hc hm
                go_wp2
                go_roundw
                case rel => exact wr_next J1.out J2.out J3.out (by have := HM4.out; omega) I1.out I2.out I3.out I5.out I6.out I7.out (by omega) GW.out I8.out GGL.out
                case measure =>
                  rw [GN.out, wr_read J3.out I1.out I2.out I5.out I7.out (by omega)]
                  exact Nat.div_lt_self hvpos (by decide)
              · have b1 : ¬ (i : Int) < 9 := by omega
                clear hm
                go_wp2
                go_roundw
                case rel => exact wr_next J1.out J2.out J3.out (by have := HM4.out; omega) I1.out I2.out I3.out I5.out I6.out I7.out (by omega) GW.out I8.out GGL.out
                case measure =>
                  rw [GN.out, wr_read J3.out I1.out I2.out I5.out I7.out (by omega)]
                  exact Nat.div_lt_self hvpos (by decide)
end Go.Proofs.Ytdnnjjclklcihaa
