/- Part 3 of the contracts: Ten, Rev, Text, Write, DivE, Int1, Int2, Int3, GcdE. -/
import Derived.RegionTactic
import Derived.BigRegion
import Derived.Laws.IdiomStrings
import Derived.Deep.RegionWith
import Derived.Deep.RegionHeld3
import Derived.Test.YtcgnmihabkgecaaPart2

/- scale at nil; powerOfTen. -/
set_option linter.unusedVariables false
namespace Go.Proofs.Ytcgnmihabkgecaa
open Go.RowKit

set_option maxHeartbeats 1000000 in
theorem scale_nil (base : Nat) (F E : Int) (ex : Nat) (W : World) (hE : E = (ex : Int)) (hex : ex < 4294967296) (hbase : base ≤ W.heap.size) :
    Calls Try.prog 61 #[.slice none 0 0, .int .u32 F, .int .u32 E] W (ScalePost base 61 0 ex W) := by
  subst hE
  go_enter Try.func61, Try.ntmps61
  go_wp2
  go_loop [7, 14] (fun cv iv => cv = .int .u64 (ex : Int) ∧ iv = .int .i64 0) (fun cv iv => 0)
  case atStart => exact ⟨rfl, rfl⟩
  case round =>
    obtain ⟨rfl, rfl⟩ := hrel
    have HBa := Lib.hid hbase
    clear hbase
    by_cases hc0 : ex = 0
    · subst hc0
      go_wp2
      go_ret
      exact ⟨_, 0, [], rfl, Own.nil _ _ _ _, Dig.nil _, by omega, rfl, Top.nil, Below.refl _ _⟩
    · have hc1 : (0 : Int) < (ex : Int) := by omega
      go_wp2_with (at_builtin; refine wpList_app rfl _ _ 25 rfl base 61 .u32 4 Try.underlying25 (by kernel_rfl) _ 0 [] rfl (Own.nil _ _ _ _) _ ex rfl rfl (by omega) (by omega) HBa.out ?_; intro v' w2 hown' hbel')
      go_ret
      refine ⟨v', 1, [ex], rfl, hown', Dig.cons (by rw [B32_eq]; exact hex) (Dig.nil _), by omega, ?_, ?_, hbel'⟩
      · simp [val]
      · intro _; simpa using hc0

/-- scale of whatever the call owns -/
theorem scale_any (base n : Nat) (v : Value) (xs : List Nat) (F E : Int) (f ex : Nat) (W : World) (hown : Own .u32 W base 61 v n xs) (hd : Dig B32 xs) (ht : Top xs) (hF : F = (f : Int)) (hE : E = (ex : Int))
    (hf0 : 0 < f) (hf : f < 4294967296) (hex : ex < 4294967296) (hn : n ≤ 1000000000) (hbase : base ≤ W.heap.size) :
    Calls Try.prog 61 #[v, .int .u32 F, .int .u32 E] W (ScalePost base 61 n (f * val B32 xs + ex) W) := by
  rcases hown.cases with ⟨rfl, rfl, rfl⟩ | ⟨g, cap, rfl, _⟩
  · have := scale_nil base F E ex W hE hex hbase
    simpa [val] using this
  · exact scale_own base g n cap xs F E f ex W hown hd ht hF hE hf0 hf hex hn hbase

theorem Own.new1 (w : World) (k : IntKind) (e : Nat) (V : Int) (x : Nat) (hV : V = (x : Int)) : Own k (w.alloc (.cells #[.int k V] e)) w.heap.size e (.slice (some ⟨w.heap.size, 0, none⟩) 1 1) 1 [x] := by
  subst hV
  have := World.ownsRow_lit (base := w.heap.size) (e := e) (size := 1) w #[.int k (x : Int)] 1 (Nat.le_refl _) (by decide) rfl
  exact this

def TenRel (W : World) (pv iv : Value) (wr : World) : Prop :=
  ∃ (n i : Nat) (xs : List Nat), iv = .int .i64 (i : Int) ∧ Own .u32 wr W.heap.size 61 pv n xs ∧ Dig B32 xs ∧ Top xs ∧ n ≤ i + 1 ∧ val B32 xs = 10 ^ i ∧ Below W.heap.size W wr

set_option maxHeartbeats 1000000 in
theorem powerOfTen_any (N : Int) (n : Nat) (W : World) (hN : N = (n : Int)) (hn : n ≤ 100000000) :
    Calls Try.prog 36 #[.int .i64 N] W (fun e w' => ∃ ao len cap, e = .returned (.slice ao len cap) ∧ N32 w' ao len (10 ^ n) ∧ len ≤ n + 1 ∧ Below W.heap.size W w') := by
  subst hN
  have hA := Lib.hid (Own.new1 W .u32 61 1 1 rfl)
  have hB := Lib.hid ((Below.refl W.heap.size W).alloc (Nat.le_refl _) (.cells #[.int .u32 1] 61))
  go_enter Try.func36, Try.ntmps36
  go_wp2
  go_loopw [3, 6] (fun pv iv wr => TenRel W pv iv wr ∧ intOf iv ≤ (n : Int)) (fun pv iv _ => n - (intOf iv).toNat)
  case atStart =>
    refine ⟨⟨1, 0, [1], rfl, hA.out, Dig.cons (by decide) (Dig.nil _), fun _ => by simp, by omega, rfl, hB.out⟩, by simp [intOf]⟩
  case round =>
    obtain ⟨⟨k, i, xs, rfl, hown, hd, ht, hk, hv, hbel⟩, hin⟩ := hrel
    have hin2 : i ≤ n := by simp only [intOf] at hin; omega
    clear hin
    obtain ⟨ao, cap, rfl, hlc, hcm, hsl⟩ := hown.sl
    have HO := Lib.hid hown
    have HD := Lib.hid hd
    have HT := Lib.hid ht
    have HV := Lib.hid hv
    have HB := Lib.hid hbel
    have HS := Lib.hid hsl
    clear hown hd ht hv hbel hsl
    by_cases hil : i < n
    · have b1 : (i : Int) < (n : Int) := by omega
      go_wp2_with (go_at_call 61; refine (scale_any _ k _ xs _ _ 10 0 _ HO.out HD.out HT.out rfl rfl (by omega) (by omega) (by omega) (by omega) HB.out.size).mono ?_; rintro e w2 ⟨v', n', xs', rfl, hown', hd', hn', hv', ht', hb'⟩)
      go_roundw
      case rel => exact ⟨⟨n', i + 1, xs', by go_num, hown', hd', ht', by omega, by rw [hv', HV.out, Nat.pow_succ]; omega, HB.out.trans hb'⟩, by simp [intOf]; omega⟩
      case measure => simp [intOf]; omega
    · obtain rfl : i = n := by omega
      go_wp2
      go_ret
      exact ⟨ao, k, cap, rfl, ⟨xs, HS.out, HD.out, HT.out, HV.out⟩, hk, HB.out⟩
end Go.Proofs.Ytcgnmihabkgecaa

/- slices.Reverse of bytes. -/
set_option linter.unusedVariables false
namespace Go.Proofs.Ytcgnmihabkgecaa
open Go.RowKit

/-- the first i places and the last i places have changed places -/
def Turned (xs zs : List Nat) (i : Nat) : Prop := zs.length = xs.length ∧ ∀ t, t < xs.length → zs[t]?.getD 0 = if t < i ∨ xs.length < t + 1 + i then xs[xs.length - 1 - t]?.getD 0 else xs[t]?.getD 0

theorem turned_end {xs zs : List Nat} {i : Nat} (h : Turned xs zs i) (hi : xs.length ≤ 2 * i + 1) : zs = xs.reverse := by
  apply List.ext_getElem?
  intro t
  by_cases ht : t < xs.length
  · have h1 := h.2 t ht
    rw [List.getElem?_reverse ht]
    have e1 : zs[t]?.getD 0 = zs[t]'(by have := h.1; omega) := by rw [List.getElem?_eq_getElem]; rfl
    have e2 : xs[xs.length - 1 - t]?.getD 0 = xs[xs.length - 1 - t] := by rw [List.getElem?_eq_getElem]; rfl
    rw [List.getElem?_eq_getElem (by have := h.1; omega), List.getElem?_eq_getElem (by omega), ← e1, ← e2, h1]
    split
    · rfl
    · have : t = xs.length - 1 - t := by omega
      rw [← this]
  · rw [List.getElem?_eq_none (by have := h.1; omega), List.getElem?_eq_none (by simp; omega)]

theorem getD_set (zs : List Nat) (i x t : Nat) : (zs.set i x)[t]?.getD 0 = if i = t ∧ t < zs.length then x else zs[t]?.getD 0 := by
  rw [List.getElem?_set]
  by_cases h : i = t
  · subst h
    by_cases h2 : i < zs.length
    · simp [h2]
    · simp [h2]
  · simp [h]

theorem turned_step {xs zs : List Nat} {i j : Nat} (h : Turned xs zs i) (hij : i < j) (hj : i + j + 1 = xs.length) :
    Turned xs ((zs.set i (zs[j]?.getD 0)).set j (zs[i]?.getD 0)) (i + 1) := by
  refine ⟨by simpa using h.1, fun t ht => ?_⟩
  have hl := h.1
  rw [getD_set, getD_set, h.2 t ht, h.2 i (by omega), h.2 j (by omega)]
  simp only [List.length_set]
  by_cases h1 : j = t
  · subst h1
    rw [if_pos ⟨rfl, by omega⟩, if_neg (by omega), if_pos (by omega)]
    congr 2; omega
  · rw [if_neg (by omega)]
    by_cases h2 : i = t
    · subst h2
      rw [if_pos ⟨rfl, by omega⟩, if_neg (by omega), if_pos (by omega)]
      congr 2; omega
    · rw [if_neg (by omega)]
      by_cases h3 : t < i ∨ xs.length < t + 1 + i
      · rw [if_pos h3, if_pos (by omega)]
      · rw [if_neg h3, if_neg (by omega)]

def RevRel (base e g n cap : Nat) (xs : List Nat) (W : World) (iv jv : Value) (wr : World) : Prop :=
  ∃ (i : Nat) (zs : List Nat), iv = .int .i64 (i : Int) ∧ jv = .int .i64 ((n : Int) - 1 - (i : Int)) ∧ 2 * i ≤ n + 1 ∧ Own .u8 wr base e (.slice (some ⟨g, 0, none⟩) n cap) n zs ∧ Turned xs zs i ∧ Below base W wr

set_option maxHeartbeats 1000000 in
theorem reverse_own (base g n cap : Nat) (xs : List Nat) (W : World) (hown : Own .u8 W base 5 (.slice (some ⟨g, 0, none⟩) n cap) n xs) (hn : n ≤ 1000000000000) :
    Calls Try.prog 47 #[.slice (some ⟨g, 0, none⟩) n cap] W (fun en w' => en = .returned (.tuple #[]) ∧ Own .u8 w' base 5 (.slice (some ⟨g, 0, none⟩) n cap) n xs.reverse ∧ Below base W w') := by
  have hgb : base ≤ g := hown.ge g rfl
  have HX := Lib.hid hown.len
  have HB := Lib.hid hown
  clear hown
  go_enter Try.func47, Try.ntmps47
  go_wp2
  go_loopw [2, 3] (fun iv jv wr => RevRel base 5 g n cap xs W iv jv wr) (fun iv jv _ => n - (intOf iv).toNat)
  case atStart =>
    refine ⟨0, xs, rfl, by simp, by omega, HB.out, ⟨rfl, fun t ht => ?_⟩, Below.refl _ _⟩
    rw [if_neg (by omega)]
  case round =>
    obtain ⟨i, zs, rfl, rfl, hi, hB, ht, hbel⟩ := hrel
    have GZ := Lib.hid hB
    have GT := Lib.hid ht
    have GW := Lib.hid hbel
    clear hB ht hbel
    by_cases hlt : 2 * i + 1 < n
    · obtain ⟨j, hj⟩ : ∃ j, i + j + 1 = n := ⟨n - 1 - i, by omega⟩
      have ej : ((n : Int) - 1 - (i : Int)) = (j : Int) := by omega
      rw [ej]
      have HJ := Lib.hid hj
      have hij : i < j := by omega
      have hin : i < n := by omega
      have hjn : j < n := by omega
      have b0 : (i : Int) < (j : Int) := by omega
      have b1 : (0 : Int) ≤ (i : Int) := by omega
      have b2 : (i : Int) < (n : Int) := by omega
      have b3 : (0 : Int) ≤ (j : Int) := by omega
      have b4 : (j : Int) < (n : Int) := by omega
      have hcells : ∀ t, t < n → wr.cell? ⟨g, t, none⟩ = some (.int .u8 ((zs[t]?.getD 0 : Nat) : Int)) ∧ wr.frozen? ⟨g, t, none⟩ = false := by
        rcases GZ.out.cases with ⟨h, _⟩ | ⟨g', cap', h, _, _, _, _, h3⟩
        · cases h
        · cases h; exact h3
      obtain ⟨c1, f1⟩ := hcells i hin
      obtain ⟨c2, f2⟩ := hcells j hjn
      clear hcells ej hj
      obtain ⟨x, hxe⟩ : ∃ x, x = zs[i]?.getD 0 := ⟨_, rfl⟩
      obtain ⟨y, hye⟩ : ∃ x, x = zs[j]?.getD 0 := ⟨_, rfl⟩
      rw [← hxe] at c1
      rw [← hye] at c2
      have HXE := Lib.hid hxe
      have HYE := Lib.hid hye
      clear hxe hye
      have hne : i ≠ j := by omega
      go_wp2
      go_region
      go_wp2
      refine ⟨?_, by simp [intOf]; omega⟩
      refine ⟨i + 1, (zs.set i y).set j x, by go_num, congrArg (Value.int _) (by have := HJ.out; omega), by omega, ?_, ?_, ?_⟩
      · have h1 := GZ.out.stored i y hin _ rfl
        have h2 := h1.stored j x hjn _ rfl
        exact h2
      · have h3 := turned_step GT.out hij (by rw [HX.out]; exact HJ.out)
        rw [← HXE.out, ← HYE.out] at h3
        exact h3
      · exact ((GW.out.setCell hgb _).setCell hgb _).drew
    · have b0 : ¬ (i : Int) < (n : Int) - 1 - (i : Int) := by omega
      go_wp2
      go_end0
      have := turned_end GT.out (by rw [HX.out]; omega)
      refine ⟨rfl, ?_, GW.out⟩
      rw [← this]
      exact GZ.out
end Go.Proofs.Ytcgnmihabkgecaa

/- numerals: writeDigits. -/
set_option linter.unusedVariables false
namespace Go.Proofs.Ytcgnmihabkgecaa
open Go.RowKit

/-- the digits of n to the base 10, the lowest first; f: fuel -/
def lowF : Nat → Nat → List Nat
  | 0, _ => []
  | f + 1, n => if n = 0 then [] else n % 10 :: lowF f (n / 10)

theorem lowF_spec : ∀ (f n : Nat), n ≤ f → Dig 10 (lowF f n) ∧ Top (lowF f n) ∧ val 10 (lowF f n) = n
  | 0, n, h => by
    obtain rfl : n = 0 := by omega
    exact ⟨Dig.nil _, Top.nil, rfl⟩
  | f + 1, n, h => by
    simp only [lowF]
    split
    · rename_i h0; subst h0; exact ⟨Dig.nil _, Top.nil, rfl⟩
    · rename_i h0
      obtain ⟨h1, h2, h3⟩ := lowF_spec f (n / 10) (by omega)
      refine ⟨Dig.cons (Nat.mod_lt _ (by decide)) h1, ?_, ?_⟩
      · by_cases he : lowF f (n / 10) = []
        · intro _
          rw [he] at h3
          simp only [val] at h3
          rw [he]
          simp
          omega
        · intro _
          have := h2 he
          rw [List.getLastD_eq_getLast?] at this ⊢
          rw [List.getLast?_cons]
          cases h : (lowF f (n / 10)).getLast? with
          | none => exact absurd (List.getLast?_eq_none_iff.1 h) he
          | some d => rw [h] at this; simpa using this
      · rw [val_cons, h3]; omega

def low (n : Nat) : List Nat := lowF n n

theorem low_of {n : Nat} {ts : List Nat} (h1 : Dig 10 ts) (h2 : Top ts) (h3 : val 10 ts = n) : ts = low n := by
  obtain ⟨a, b, c⟩ := lowF_spec n n (Nat.le_refl _)
  exact val_inj (by decide) h1 a h2 b (by rw [h3]; exact c.symm)

def chars (ts : List Nat) : List UInt8 := ts.map fun d => UInt8.ofNat (48 + d)

/-- the numeral of a natural number -/
def numeral (n : Nat) : List UInt8 := if n = 0 then [48] else chars (low n).reverse

/-- one decimal digit more -/
theorem write_step {ts : List Nat} {v r g m : Nat} (h : val 10 ts + 10 ^ ts.length * (g + 10 * m * r) = v) :
    val 10 (ts ++ [g % 10]) + 10 ^ (ts ++ [g % 10]).length * (g / 10 + m * r) = v := by
  rw [val_snoc]
  simp only [List.length_append, List.length_cons, List.length_nil, Nat.zero_add, Nat.pow_succ]
  have h2 := Nat.mod_add_div g 10
  generalize g % 10 = d at *
  generalize g / 10 = q at *
  generalize 10 ^ ts.length = p at *
  grind


def pow10 (i : Nat) : Nat := 10 ^ i

/-- what the text holds so far, and what is still to come: the group g, of at most 9 - i digits, and r above it -/
structure WIn (g i r n : Nat) (ts : List Nat) : Prop where
  dig : Dig 10 ts
  sum : val 10 ts + 10 ^ ts.length * (g + 10 ^ (9 - i) * r) = n
  small : g < 10 ^ (9 - i)
  le : i ≤ 9
  top : r = 0 → 0 < g ∨ (ts ≠ [] ∧ Top ts)

theorem WIn.step {g i r n : Nat} {ts : List Nat} (h : WIn g i r n ts) (hi : i < 9) (hgo : 0 < g ∨ 0 < r) : WIn (g / 10) (i + 1) r n (ts ++ [g % 10]) := by
  obtain ⟨m, hm⟩ : ∃ m, 10 ^ (9 - (i + 1)) = m := ⟨_, rfl⟩
  have e : 10 ^ (9 - i) = 10 * m := by rw [← hm, show 9 - i = (9 - (i + 1)) + 1 by omega, Nat.pow_succ, Nat.mul_comm]
  have h1 := h.sum
  have h2 := h.small
  rw [e] at h1 h2
  refine ⟨h.dig.append (Dig.cons (Nat.mod_lt _ (by decide)) (Dig.nil _)), ?_, ?_, by omega, ?_⟩
  · rw [hm]; exact write_step h1
  · rw [hm]; omega
  · intro hr
    by_cases hq : 0 < g / 10
    · exact .inl hq
    · refine .inr ⟨by simp, fun _ => ?_⟩
      have : 0 < g := by omega
      simp
      omega

theorem WIn.done {g i r n : Nat} {ts : List Nat} (h : WIn g i r n ts) (hd : ¬ (i < 9 ∧ (0 < g ∨ 0 < r))) : val 10 ts + 10 ^ ts.length * r = n ∧ (r = 0 → ts ≠ [] ∧ Top ts) := by
  have h1 := h.sum
  have h2 := h.small
  have h3 := h.le
  by_cases hi : i = 9
  · subst hi
    simp only [Nat.sub_self, Nat.pow_zero, Nat.lt_one_iff] at h2
    subst h2
    simp at h1
    refine ⟨h1, fun hr => ?_⟩
    rcases h.top hr with h4 | h4
    · omega
    · exact h4
  · have hg : g = 0 := by omega
    have hr : r = 0 := by omega
    subst hg hr
    simp at h1 ⊢
    refine ⟨h1, ?_⟩
    rcases h.top rfl with h4 | h4
    · omega
    · exact h4

theorem WIn.start {n v : Nat} {ts : List Nat} (hd : Dig 10 ts) (h : val 10 ts + 10 ^ ts.length * v = n) (hv : 0 < v) : WIn (v % 1000000000) 0 (v / 1000000000) n ts := by
  refine ⟨hd, ?_, ?_, by omega, ?_⟩
  · have e : v % 1000000000 + 10 ^ (9 - 0) * (v / 1000000000) = v := by
      have := Nat.mod_add_div v 1000000000
      exact this
    rw [e]; exact h
  · have := Nat.mod_lt v (show 0 < 1000000000 by decide)
    exact this
  · intro hr; left; omega

/-- the rest in block g, the text in blocks behind it -/
def WrRel (n g : Nat) (W : World) (rv tv : Value) (wr : World) : Prop :=
  ∃ (ao : Option Addr) (len k v : Nat) (zs post ts : List Nat), rv = .slice ao len len ∧ (0 < len → ao = some ⟨g, 0, none⟩) ∧ Blk .u32 wr g 61 (zs ++ post) ∧ zs.length = len ∧ len ≤ 1000000000 ∧ Dig B32 zs ∧ Top zs ∧ val B32 zs = v ∧
    Own .u8 wr (g + 1) 5 tv k (ts.map (48 + ·)) ∧ Dig 10 ts ∧ val 10 ts + 10 ^ ts.length * v = n ∧ (v = 0 → ts ≠ [] ∧ Top ts) ∧ Below W.heap.size W wr ∧ W.heap.size ≤ g ∧ g < wr.heap.size

def WrIn (n g r : Nat) (W0 : World) (gv tv iv : Value) (wr : World) : Prop :=
  ∃ (d i k : Nat) (ts : List Nat), gv = .int .u32 (d : Int) ∧ iv = .int .i64 (i : Int) ∧ Own .u8 wr (g + 1) 5 tv k (ts.map (48 + ·)) ∧ WIn d i r n ts ∧ Below (g + 1) W0 wr

theorem text_len {n la k : Nat} (h : 10 ^ k ≤ n) (hn : n < B32 ^ la) : k ≤ 32 * la := by
  rw [B32_pow] at hn
  have h1 : 2 ^ k ≤ 10 ^ k := Nat.pow_le_pow_left (by decide) k
  have h2 : 2 ^ k < 2 ^ (32 * la) := by omega
  have := (Nat.pow_lt_pow_iff_right (show 1 < 2 by decide)).1 h2
  omega

theorem WIn.len {g i r n la : Nat} {ts : List Nat} (h : WIn g i r n ts) (hgo : 0 < g ∨ 0 < r) (hn : n < B32 ^ la) : ts.length ≤ 32 * la := by
  refine text_len ?_ hn
  have h1 := h.sum
  have h2 : 0 < g + 10 ^ (9 - i) * r := by
    rcases hgo with h3 | h3
    · omega
    · have := Nat.mul_pos (Nat.pow_pos (n := 9 - i) (show 0 < 10 by decide)) h3
      omega
  have h3 := Nat.mul_le_mul_left (10 ^ ts.length) h2
  omega

/-- the bytes of a row of digits -/
theorem chars_cells {w : World} {g n cap e base : Nat} {ts : List Nat} (h : Own .u8 w base e (.slice (some ⟨g, 0, none⟩) n cap) n (ts.map (48 + ·))) (hd : Dig 10 ts) :
    ∀ j (hj : j < (chars ts).length), w.cell? ((⟨g, 0, none⟩ : Addr).add j) = some (.int .u8 ((chars ts)[j].toNat : Int)) := by
  intro j hj
  have hl := h.len
  simp only [List.length_map] at hl
  have hj2 : j < ts.length := by simpa [chars] using hj
  have e1 : ((⟨g, 0, none⟩ : Addr).add j) = ⟨g, j, none⟩ := by unfold Addr.add; split <;> simp_all
  rw [e1]
  rcases h.cases with ⟨h0, _⟩ | ⟨g', cap', h0, _, _, _, _, h3⟩
  · cases h0
  · cases h0
    rw [(h3 j (by omega)).1]
    have hdj := hd ts[j] (List.getElem_mem hj2)
    have e2 : (chars ts)[j].toNat = 48 + ts[j] := by
      simp only [chars, List.getElem_map, UInt8.toNat_ofNat']
      omega
    rw [e2]
    simp [List.getElem?_eq_getElem hj2]

end Go.Proofs.Ytcgnmihabkgecaa

/- writeDigits. -/
set_option linter.unusedVariables false
namespace Go.Proofs.Ytcgnmihabkgecaa
open Go.RowKit

/-- the number that a slice of digits reads as: for a loop's measure -/
def readNat (w : World) : Value → Nat
  | .slice (some a) l _ => val B32 ((List.range l).map fun i => match w.cell? ⟨a.block, a.off + i, none⟩ with | some (.int _ x) => x.toNat | _ => 0)
  | _ => 0

theorem readNat_of {w : World} {ao : Option Addr} {len cap : Nat} {xs : List Nat} (h : Sl .u32 w ao len xs) : readNat w (.slice ao len cap) = val B32 xs := by
  obtain ⟨h1, b, off, h2, h3⟩ := h
  by_cases h0 : len = 0
  · obtain rfl : xs = [] := List.eq_nil_of_length_eq_zero (by omega)
    subst h0
    cases ao <;> rfl
  · rw [h2 (by omega)]
    simp only [readNat]
    congr 1
    apply List.ext_getElem
    · simp [h1]
    · intro i h4 h5
      simp only [List.getElem_map, List.getElem_range]
      rw [h3 i (by simpa using h4)]
      simp [List.getElem?_eq_getElem h5]

def StrPost (l : List UInt8) (W : World) (e : Ending) (w' : World) : Prop := e = .returned (.string ⟨l.toArray⟩) ∧ Below W.heap.size W w'

theorem wr_pos {zs : List Nat} {l m q : Nat} (hl : zs.length = l) (ht : Top (zs.take m)) (hv : val B32 (zs.take m) = q) (hm : m ≤ l) : 0 < q ↔ 0 < m := by
  have := val_zero_iff B32_pos ht
  rw [hv] at this
  rw [← List.length_eq_zero_iff, List.length_take] at this
  omega

theorem wr_blk {k : IntKind} {w : World} {g e m : Nat} {zs post : List Nat} (h : Blk k w g e (zs ++ post)) : Blk k w g e (zs.take m ++ (zs.drop m ++ post)) := by
  rwa [← List.append_assoc, List.take_append_drop]

theorem wr_read {w4 wr : World} {g l m q : Nat} {ao : Option Addr} {zs post : List Nat} (hb : Below (g + 1) w4 wr) (hB : Blk .u32 w4 g 61 (zs ++ post)) (hl : zs.length = l)
    (ha : 0 < m → ao = some ⟨g, 0, none⟩) (hv : val B32 (zs.take m) = q) (hm : m ≤ l) : readNat wr (.slice ao m m) = q := by
  rw [← hv]
  by_cases h : m = 0
  · subst h; rw [readNat_of (Sl.nil _ _ _)]; rfl
  · rw [ha (by omega)]
    have := (wr_blk (m := m) (hB.below hb (Nat.lt_succ_self _))).sl0 m (by simp; omega)
    rw [List.take_append_of_le_length (by simp; omega), List.take_of_length_le (by simp; omega)] at this
    exact readNat_of this

theorem wr_next {n l m v d i k2 : Nat} {ao : Option Addr} {zs post ts2 : List Nat} {W wo w4 wr : World} {tv : Value} (hown : Own .u8 wr (W.heap.size + 1) 5 tv k2 (ts2.map (48 + ·))) (hin : WIn d i (v / 1000000000) n ts2)
    (hb : Below (W.heap.size + 1) w4 wr) (hx : ¬ (i < 9 ∧ (0 < d ∨ 0 < v / 1000000000))) (hB : Blk .u32 w4 W.heap.size 61 (zs ++ post)) (hl : zs.length = l) (hd : Dig B32 zs)
    (ha : 0 < m → ao = some ⟨W.heap.size, 0, none⟩) (ht : Top (zs.take m)) (hv : val B32 (zs.take m) = v / 1000000000) (hm : m ≤ l ∧ l ≤ 1000000000) (hW : Below W.heap.size W wo) (hg4 : wo.grownBy w4 (some W.heap.size)) (hgl : W.heap.size < wo.heap.size) :
    WrRel n W.heap.size W (.slice ao m m) tv wr := by
  obtain ⟨h1, h2⟩ := hin.done hx
  refine ⟨ao, m, k2, v / 1000000000, zs.take m, zs.drop m ++ post, ts2, rfl, ha, wr_blk (hB.below hb (Nat.lt_succ_self _)), by simp; omega, by omega, hd.take _, ht, hv, hown, hin.dig, h1, h2, ?_, Nat.le_refl _, ?_⟩
  · exact (hW.grown hg4 (Nat.le_of_lt hgl) (fun k hk => by cases hk; exact Nat.le_refl _)).trans (hb.mono (Nat.le_succ _))
  · have a1 := hg4.size
    have a2 := hb.size
    omega

set_option maxHeartbeats 2000000 in
theorem writeDigits_any (ao : Option Addr) (la ca n : Nat) (W : World) (ha : N32 W ao la n) (hla : la ≤ 1000000000) :
    Calls Try.prog 21 #[.slice ao la ca] W (StrPost (numeral n) W) := by
  have hlt := ha.lt
  have hz := ha.zero
  obtain ⟨xs, hs, hd, ht, hv⟩ := ha
  have HS := Lib.hid hs
  have HD := Lib.hid hd
  have HT := Lib.hid ht
  have HV := Lib.hid hv
  have HLT := Lib.hid hlt
  by_cases h0 : la = 0
  · have hn : n = 0 := hz.2 h0
    have HN : Hid (StrPost (numeral n) W = StrPost [48] W) := by
      rw [hn]; rfl
    rw [HN.out]
    subst h0
    clear hs hd ht hv hlt hz HV HLT hn HN
    go_enter Try.func21, Try.ntmps21
    go_wp2
    go_ret
    exact ⟨rfl, Below.refl _ _⟩
  · have hn0 : n ≠ 0 := fun h => h0 (hz.1 h)
    have HN := Lib.hid hn0
    have hb0 : ((la : Int) == 0) = false := by simp; omega
    clear hs hd ht hv hlt hz hn0
    go_enter Try.func21, Try.ntmps21
    go_wp2_with fail
    refine (duplicate_any _ _ _ _ _ HS.out (by omega)).mono ?_
    rintro e w1 (⟨h, _⟩ | ⟨_, rfl, hB, hb1, hz1⟩)
    · omega
    · have H1 := Lib.hid hB
      have H2 := Lib.hid hb1
      have H3 := Lib.hid hz1
      clear hB hb1 hz1
      go_wp2_with fail
      go_loopw [3, 5] (fun rv tv wr => WrRel n W.heap.size W rv tv wr) (fun rv tv wr => readNat wr rv)
      case atStart =>
        exact ⟨_, la, 0, n, xs, [], [], rfl, fun _ => rfl, by simpa using H1.out, HS.out.len, hla, HD.out, HT.out, HV.out, Own.nil _ _ _ _, Dig.nil _, by simp [val], fun h => absurd h HN.out, H2.out, Nat.le_refl _, H3.out⟩
      case round =>
        obtain ⟨ao', len, k, v, zs, post, ts, rfl, hao, hB, hzl, hlen, hdz, htz, hvz, hown, hdt, hsum, htop, hbel, hge, hgl⟩ := hrel
        obtain ⟨wo, rfl⟩ : ∃ wo : World, wo = wr := ⟨_, rfl⟩
        have hv0 : v = 0 ↔ len = 0 := by
          rw [← hvz, val_zero_iff B32_pos htz, ← List.length_eq_zero_iff, hzl]
        have hrn : readNat wo (.slice ao' len len) = v := by
          rw [← hvz]
          by_cases h : len = 0
          · subst h
            rw [readNat_of (Sl.nil _ _ _), (val_zero_iff B32_pos htz).2 (List.eq_nil_of_length_eq_zero hzl)]; rfl
          · rw [hao (by omega)]
            have := hB.sl0 len (by simp; omega)
            rw [List.take_append_of_le_length (by omega), List.take_of_length_le (by omega)] at this
            exact readNat_of this
        have GA := Lib.hid hao
        have GB := Lib.hid hB
        have GL := Lib.hid hzl
        have GD := Lib.hid hdz
        have GT := Lib.hid htz
        have GV := Lib.hid hvz
        have GO := Lib.hid hown
        have GDT := Lib.hid hdt
        have GS := Lib.hid hsum
        have GTOP := Lib.hid htop
        have GW := Lib.hid hbel
        have GN := Lib.hid hrn
        have GV0 := Lib.hid hv0
        have GG := Lib.hid hge
        have GGL := Lib.hid hgl
        clear hao hB hzl hdz htz hvz hown hdt hsum htop hbel hrn hv0 hge hgl
        by_cases hlen0 : len = 0
        · subst hlen0
          have hv : v = 0 := GV0.out.2 rfl
          have h9 := GTOP.out hv
          have h10 : val 10 ts = n := by
            have := GS.out
            rw [hv] at this
            simpa using this
          have h11 := low_of GDT.out h9.2 h10
          have hnum : numeral n = chars ts.reverse := by
            unfold numeral
            rw [if_neg HN.out, h11]
          have HNUM := Lib.hid hnum
          rcases GO.out.cases with ⟨_, _, h⟩ | ⟨g', cap', rfl, hb', _, _, _, _⟩
          · exact absurd (List.map_eq_nil_iff.1 h) h9.1
          · have hk : k = ts.length := by have := GO.out.len; simpa using this.symm
            have hk2 : k ≤ 32 * la + 1 := by
              have h12 := val_ge (B := 10) h9.2 h9.1
              rw [h10] at h12
              have := text_len h12 HLT.out
              have : ts.length ≠ 0 := fun h => h9.1 (List.eq_nil_of_length_eq_zero h)
              omega
            subst hk
            have HK := Lib.hid hk2
            clear hv h9 h10 h11 hnum hk2
            go_wp2_with fail
            refine (reverse_own (W.heap.size + 1) g' ts.length cap' _ _ GO.out (by have := HK.out; omega)).mono ?_
            rintro e w5 ⟨rfl, hown5, hbel5⟩
            have hcv := run_convert_bytes_back (P := Try.prog) w5 74 9 5 ⟨g', 0, none⟩ cap' (chars ts.reverse) Try.underlying74 Try.underlying5 Try.underlying9 (chars_cells (by rw [← List.map_reverse] at hown5; exact hown5) (fun x hx => GDT.out x (List.mem_reverse.1 hx)))
            have hlc : (chars ts.reverse).length = ts.length := by simp [chars]
            rw [hlc] at hcv
            have L5 := Lib.hid hbel5
            clear hown5 hbel5 hlc
            go_wp2
            go_ret
            exact ⟨by rw [HNUM.out]; rfl, GW.out.trans (L5.out.mono (Nat.le_succ _))⟩
        · obtain ⟨l1, rfl⟩ : ∃ l1, len = l1 + 1 := ⟨len - 1, by omega⟩
          have hvpos : 0 < v := by have := GV0.out; omega
          obtain rfl := GA.out (by omega)
          go_wp2_with fail
          refine (shrink_any W.heap.size 61 (l1 + 1) (l1 + 1) zs post _ 1000000000 _ GB.out GL.out GD.out rfl (by decide) (by decide) (by omega) (Nat.le_refl _) (by omega)).mono ?_
          rintro e w4 ⟨ao4, m4, zs4, rfl, hB4, hl4, hd4, hv4, hm4, ha4, hz4, ht4, hvt4, hg4, hs4⟩
          rw [GV.out] at hvt4
          have I1 := Lib.hid hB4
          have I2 := Lib.hid hl4
          have I3 := Lib.hid hd4
          have I4 := Lib.hid hv4
          have I5 := Lib.hid ha4
          have I6 := Lib.hid ht4
          have I7 := Lib.hid hvt4
          have I8 := Lib.hid hg4
          have I9 := Lib.hid hs4
          clear hB4 hl4 hd4 hv4 ha4 hz4 ht4 hvt4 hg4 hs4
          rw [GV.out]
          have HGO : Hid (Own .u8 w4 (W.heap.size + 1) 5 u5 k (ts.map (48 + ·))) := by
            refine GO.out.kept I8.out ?_
            cases hob : u5.ownBlock with
            | none => exact .inl rfl
            | some b => right; intro e; have := GO.out.ge b hob; simp only [Option.some.injEq] at e; omega
          have hstart := WIn.start GDT.out GS.out hvpos
          have HST := Lib.hid hstart
          have hm4 : 0 < v / 1000000000 ↔ 0 < m4 := wr_pos I2.out I6.out I7.out (by omega)
          have HM4 := Lib.hid hm4
          have HSZ : Hid (W.heap.size + 1 ≤ w4.heap.size) := by have := I9.out; have := GGL.out; show _ ≤ _; omega
          clear hstart hm4
          go_wp2_with fail
          go_loopw [4, 5, 6] (fun gv tv iv wr => WrIn n W.heap.size (v / 1000000000) w4 gv tv iv wr) (fun gv tv iv _ => 9 - (intOf iv).toNat)
          case atStart =>
            exact ⟨v % 1000000000, 0, k, ts, by first | rfl | exact congrArg (Value.int _) (by omega), rfl, HGO.out, HST.out, Below.refl _ _⟩
          case round =>
            obtain ⟨d, i, k2, ts2, rfl, rfl, hown2, hin, hbel2⟩ := hrel
            have hi9 := hin.le
            have hsmall := hin.small
            have hd9 : d < 1000000000 := Nat.lt_of_lt_of_le hsmall (Nat.pow_le_pow_right (by decide) (by omega) : 10 ^ (9 - i) ≤ 10 ^ 9)
            have hk2 : k2 = ts2.length := by have := hown2.len; simpa using this.symm
            have hkb : (0 < d ∨ 0 < v / 1000000000) → k2 ≤ 32 * la := fun h => by rw [hk2]; exact hin.len h HLT.out
            have J1 := Lib.hid hown2
            have J2 := Lib.hid hin
            have J3 := Lib.hid hbel2
            have J4 : Hid (W.heap.size + 1 ≤ wr.heap.size) := Nat.le_trans HSZ.out hbel2.size
            clear hown2 hin hbel2 hsmall hk2
            by_cases hc : i < 9 ∧ (0 < d ∨ 0 < v / 1000000000)
            · have hkk := hkb hc.2
              have hc1 := hc.1
              have hc2 := hc.2
              have hm := HM4.out
              clear hc hkb
              have b1 : (i : Int) < 9 := by omega
              by_cases hd0 : 0 < d
              · have b2 : (0 : Int) < (d : Int) := by omega
                clear hc2 hm
                go_wp2_with (at_builtin; refine wpList_app rfl _ _ 74 rfl (W.heap.size + 1) 5 .u8 1 Try.underlying74 (by kernel_rfl) _ k2 (ts2.map (48 + ·)) rfl J1.out _ (48 + d % 10) rfl (by omega) (by omega) (by omega) J4.out ?_; intro v' w6 hown' hbel')
                go_roundw
                case rel => exact ⟨d / 10, i + 1, k2 + 1, ts2 ++ [d % 10], by first | rfl | exact congrArg (Value.int _) (by omega), by go_num, by rw [List.map_append]; exact hown', J2.out.step (by omega) (by have := HM4.out; omega), J3.out.trans hbel'⟩
                case measure => simp [intOf]; omega
              · obtain rfl : d = 0 := by omega
                have hm4p : 0 < m4 := by omega
                have b2 : (0 : Int) < (m4 : Int) := by omega
                clear hc2 hm
                go_wp2_with (at_builtin; refine wpList_app rfl _ _ 74 rfl (W.heap.size + 1) 5 .u8 1 Try.underlying74 (by kernel_rfl) _ k2 (ts2.map (48 + ·)) rfl J1.out _ (48 + 0 % 10) rfl ?_ ?_ ?_ J4.out ?_; (first | rfl | decide | omega); omega; omega; intro v' w6 hown' hbel')
                go_roundw
                case rel => exact ⟨0 / 10, i + 1, k2 + 1, ts2 ++ [0 % 10], by first | rfl | exact congrArg (Value.int _) (by omega), by go_num, by rw [List.map_append]; exact hown', J2.out.step (by omega) (by have := HM4.out; omega), J3.out.trans hbel'⟩
                case measure => simp [intOf]; omega
            · have hm := HM4.out
              clear hkb
              by_cases hc1 : i < 9
              · obtain rfl : d = 0 := by omega
                obtain rfl : m4 = 0 := by omega
                have b1 : (i : Int) < 9 := by omega
                clear hc hm
                go_wp2
                go_roundw
                case rel => exact wr_next J1.out J2.out J3.out (by have := HM4.out; omega) I1.out I2.out I3.out I5.out I6.out I7.out (by omega) GW.out I8.out GGL.out
                case measure =>
                  rw [GN.out, wr_read J3.out I1.out I2.out I5.out I7.out (by omega)]
                  exact Nat.div_lt_self hvpos (by decide)
              · have b1 : ¬ (i : Int) < 9 := by omega
                clear hm
                go_wp2
                go_roundw
                case rel => exact wr_next J1.out J2.out J3.out (by have := HM4.out; omega) I1.out I2.out I3.out I5.out I6.out I7.out (by omega) GW.out I8.out GGL.out
                case measure =>
                  rw [GN.out, wr_read J3.out I1.out I2.out I5.out I7.out (by omega)]
                  exact Nat.div_lt_self hvpos (by decide)
end Go.Proofs.Ytcgnmihabkgecaa

/- divide by one digit. -/
set_option linter.unusedVariables false
namespace Go.Proofs.Ytcgnmihabkgecaa
open Go.RowKit

set_option maxHeartbeats 400000 in
theorem shrink_nil (D : Int) (W : World) :
    Calls Try.prog 46 #[.slice none 0 0, .int .u32 D] W (fun e w' => e = .returned (.tuple #[.slice none 0 0, .int .u32 0]) ∧ W = w') := by
  go_enter Try.func46, Try.ntmps46
  go_wp2
  go_loop [6, 7] (fun rv iv => rv = .int .u64 0 ∧ iv = .int .i64 (-1)) (fun rv iv => 0)
  case atStart => exact ⟨rfl, rfl⟩
  case round =>
    obtain ⟨rfl, rfl⟩ := hrel
    go_wp2_with (go_at_call 52; refine (trim_raw _ _ _ _ _ (Sl.nil _ _ _) (by omega) (by omega)).mono ?_; rintro e w3 ⟨⟨ao', m, rfl, hm, ha', hz', ht, hzz⟩, rfl⟩)
    go_ret2
    obtain rfl : m = 0 := by omega
    obtain rfl := hz' rfl
    exact ⟨rfl, rfl⟩

def DupDrew (len : Nat) (xs : List Nat) (W : World) (e : Ending) (w' : World) : Prop :=
  (len = 0 ∧ e = .returned (.slice none 0 0) ∧ W.drew = w') ∨
  (0 < len ∧ e = .returned (.slice (some ⟨W.heap.size, 0, none⟩) len len) ∧ Hid (Blk .u32 w' W.heap.size 61 xs) ∧ Hid (Below W.heap.size W w') ∧ W.heap.size < w'.heap.size)

/-- duplicate behind a draw -/
theorem duplicate_drew (ao : Option Addr) (len cap : Nat) (xs : List Nat) (W : World) (hs : Sl .u32 W ao len xs) (hl : len ≤ 1000000000) :
    Calls Try.prog 29 #[.slice ao len cap] W.drew (DupDrew len xs W) :=
  (duplicate_any ao len cap xs W.drew hs.drew hl).mono fun e w' h => by
    rcases h with ⟨h1, h2, h3⟩ | ⟨h1, h2, h3, h4, h5⟩
    · exact .inl ⟨h1, h2, h3⟩
    · exact .inr ⟨h1, h2, h3, (Below.refl _ _).drew.trans h4, h5⟩

def DivPost (m n : Nat) (W : World) (e : Ending) (w' : World) : Prop :=
  ∃ qo ql qc ro rl rc, e = .returned (.tuple #[.slice qo ql qc, .slice ro rl rc]) ∧ N32 w' qo ql (m / n) ∧ N32 w' ro rl (m % n) ∧ Below W.heap.size W w'

/-- divide is right for m and n -/
def DivOk (m n : Nat) : Prop := ∀ (ao bo : Option Addr) (la lb ca cb : Nat) (W : World), N32 W ao la m → N32 W bo lb n → la ≤ 1000000000 → lb ≤ 1000000000 →
  Calls Try.prog 25 #[.slice ao la ca, .slice bo lb cb] W (DivPost m n W)

set_option maxHeartbeats 2000000 in
theorem divide_easy (m n : Nat) (hn0 : 0 < n) (hn : n < B32) : DivOk m n := by
  intro ao bo la lb ca cb W ha hb hla hlb
  obtain ⟨xb, ⟨hxb, bb, ob, hbo, hcb⟩, hdb, htb, hvb⟩ := hb
  have hlb1 : lb = 1 := by
    have h1 : xb = [n] := val_inj B32_pos hdb (Dig.cons hn (Dig.nil _)) htb (fun _ => by simp; omega) (by rw [hvb]; simp [val])
    rw [h1] at hxb
    exact hxb.symm
  subst hlb1
  have hx0 : xb[0]?.getD 0 = n := by
    have h1 : xb = [n] := val_inj B32_pos hdb (Dig.cons hn (Dig.nil _)) htb (fun _ => by simp; omega) (by rw [hvb]; simp [val])
    rw [h1]; rfl
  obtain rfl := hbo (by omega)
  have hcell := hcb 0 (by omega)
  rw [Nat.add_zero, hx0] at hcell
  obtain ⟨xa, hsa, hda, hta, hva⟩ := ha
  have HSA := Lib.hid hsa
  have HDA := Lib.hid hda
  have HTA := Lib.hid hta
  have HVA := Lib.hid hva
  rw [B32_eq] at hn
  clear hxb hbo hcb hdb htb hvb hx0 hsa hda hta hva
  by_cases h0 : la = 0
  · subst h0
    go_enter Try.func25, Try.ntmps25
    go_wp2_with fail
    go_region_with (first | (go_at_call 29; refine (duplicate_drew _ _ _ xa W HSA.out (by omega)).mono ?_; rintro e w1 (⟨_, rfl, rfl⟩ | ⟨h, _⟩); rotate_left; omega) | (go_at_call 46; refine (shrink_nil _ _).mono ?_; rintro e w1 ⟨rfl, rfl⟩))
    all_goals
      go_wp2_with (go_at_call 49; refine (fromWord_any _ 0 _ rfl (by omega)).mono ?_; rintro e w5 ⟨ro, rl, rc, rfl, hr5, hb5⟩)
      go_ret2
      have hm0 : m = 0 := by
        rw [← HVA.out, List.eq_nil_of_length_eq_zero HSA.out.len]; rfl
      exact ⟨none, 0, 0, ro, rl, rc, rfl, by rw [hm0, Nat.zero_div]; exact N32.nil _ _, by rw [hm0, Nat.zero_mod]; exact hr5, (Below.refl _ _).drew.trans hb5⟩
  · have hcl : ∀ w1, Below W.heap.size W w1 → w1.cell? ⟨bb, ob, none⟩ = some (.int .u32 (n : Int)) := fun w1 h => cell_later h hcell
    have HCL := Lib.hid hcl
    clear hcl
    go_enter Try.func25, Try.ntmps25
    go_wp2_with fail
    go_region_with (first | (go_at_call 29; refine (duplicate_drew _ _ _ xa W HSA.out (by omega)).mono ?_; rintro e w1 (⟨h, _⟩ | ⟨_, rfl, hB, hb1, hz1⟩); omega; have hcl1 := HCL.out w1 hb1.out) | (go_at_call 46; refine (shrink_any W.heap.size 61 la la xa [] _ n _ (by simpa using hB.out) HSA.out.len HDA.out rfl hn0 hn (by omega) (Nat.le_refl _) (by omega)).mono ?_; rintro e w4 ⟨ao4, m4, zs4, rfl, hB4, hl4, hd4, hv4, hm4, ha4, hz4, ht4, hvt4, hg4, hs4⟩))
    all_goals
      have hmod : val B32 xa % n < 4294967296 := Nat.lt_of_lt_of_le (Nat.mod_lt _ hn0) (by omega)
      have HB4 := Lib.hid hB4
      have HT4 := Lib.hid ht4
      have HV4 := Lib.hid hvt4
      have HG4 := Lib.hid hg4
      have HL4 := Lib.hid hl4
      have HD4 := Lib.hid hd4
      have HA4 := Lib.hid ha4
      clear hB4 ht4 hvt4 hg4 hl4 hd4 ha4 hz4 hv4 hs4
      go_wp2_with (go_at_call 49; refine (fromWord_any _ (val B32 xa % n) _ rfl (by omega)).mono ?_; rintro e w5 ⟨ro, rl, rc, rfl, hr5, hb5⟩)
      go_ret2
      have hbel4 : Below W.heap.size W w4 := hb1.out.grown HG4.out (Nat.le_of_lt hz1) (fun k hk => by cases hk; exact Nat.le_refl _)
      have hq : N32 w4 ao4 m4 (m / n) := by
        refine ⟨zs4.take m4, ?_, HD4.out.take _, HT4.out, by rw [HV4.out, HVA.out]⟩
        have := HB4.out.sl0 m4 (by have := HL4.out; simp; omega)
        rw [List.append_nil] at this
        by_cases h : m4 = 0
        · subst h; exact Sl.nil _ _ _
        · rw [HA4.out (by omega)]; exact this
      exact ⟨ao4, m4, m4, ro, rl, rc, rfl, hq.keep hb5, by rw [← HVA.out]; exact hr5, below_then hbel4 hb5⟩
end Go.Proofs.Ytcgnmihabkgecaa

/- The integers of num: signed, New, Sign, BitLen, String, Int. -/
set_option linter.unusedVariables false
namespace Go.Proofs.Ytcgnmihabkgecaa
open Go.RowKit

/-- Block g is this, and may be written. -/
def Box (w : World) (g T : Nat) (c : Array Value) : Prop := w.heap[g]? = some (.cells c T (0, 0))

theorem Box.new (W : World) (T : Nat) (c : Array Value) : Box (W.alloc (.cells c T)) W.heap.size T c := heap_alloc_new W _

theorem Box.later {W w1 : World} {T : Nat} {c : Array Value} (hb : Below (W.alloc (.cells c T)).heap.size (W.alloc (.cells c T)) w1) : Box w1 W.heap.size T c :=
  (hb.block _ (by simp)).trans (Box.new W T c)

theorem Box.below {w w' : World} {g T B : Nat} {c : Array Value} (h : Box w g T c) (hb : Below B w w') (hg : g < B) : Box w' g T c := (hb.block g hg).trans h

theorem Box.cell {w : World} {g T : Nat} {c : Array Value} (h : Box w g T c) (i : Nat) : w.cell? ⟨g, i, none⟩ = c[i]? := by
  simp only [World.cell?]
  rw [show w.heap[g]? = _ from h]
  rfl

theorem Box.frozen {w : World} {g T : Nat} {c : Array Value} (h : Box w g T c) (i : Nat) : w.frozen? ⟨g, i, none⟩ = false := by
  simp only [World.frozen?]
  rw [show w.heap[g]? = _ from h]
  simp

theorem Box.set {w : World} {g T : Nat} {c : Array Value} (h : Box w g T c) (i : Nat) (u : Value) : Box (w.setCell ⟨g, i, none⟩ u) g T (c.setIfInBounds i u) := by
  unfold Box
  simp only [World.setCell, Array.getElem?_modify]
  rw [show w.heap[g]? = _ from h]
  simp

def isInt : Value → Bool | .int _ _ => true | _ => false

/-- A slice of numbers does not lie in a block without numbers. -/
theorem Sl.setBox {k : IntKind} {w : World} {ao : Option Addr} {len : Nat} {xs : List Nat} {g T : Nat} {c : Array Value} (h : Sl k w ao len xs) (hb : Box w g T c) (hc : ∀ (i : Nat) (v : Value), c[i]? = some v → isInt v = false) (i : Nat) (u : Value) :
    Sl k (w.setCell ⟨g, i, none⟩ u) ao len xs := by
  obtain ⟨h1, b, off, h2, h3⟩ := h
  refine ⟨h1, b, off, h2, fun j hj => ?_⟩
  have h4 := h3 j hj
  have hne : b ≠ g := by
    intro e
    subst e
    rw [hb.cell] at h4
    have := hc _ _ h4
    simp [isInt] at this
  have e1 : (w.setCell ⟨g, i, none⟩ u).heap[b]? = w.heap[b]? := Below.heap_setCell _ _ _ _ hne
  rw [← h4]
  simp only [World.cell?, e1]

theorem N32.setBox {w : World} {ao : Option Addr} {len n : Nat} {g T : Nat} {c : Array Value} (h : N32 w ao len n) (hb : Box w g T c) (hc : ∀ (i : Nat) (v : Value), c[i]? = some v → isInt v = false) (i : Nat) (u : Value) :
    N32 (w.setCell ⟨g, i, none⟩ u) ao len n := by
  obtain ⟨xs, h1, h2⟩ := h
  exact ⟨xs, h1.setBox hb hc i u, h2⟩

theorem noInt2 {a b : Value} (ha : isInt a = false) (hb : isInt b = false) : ∀ (i : Nat) (v : Value), (#[a, b] : Array Value)[i]? = some v → isInt v = false := by
  intro i v h
  match i, h with
  | 0, h => simp at h; subst h; exact ha
  | 1, h => simp at h; subst h; exact hb
  | i + 2, h => simp at h

theorem N32.set2 {w : World} {ao : Option Addr} {len n : Nat} {g T : Nat} {a b : Value} (h : N32 w ao len n) (hb : Box w g T #[a, b]) (ha : isInt a = false) (hbb : isInt b = false) (u v : Value) (hu : isInt u = false) :
    N32 ((w.setCell ⟨g, 0, none⟩ u).setCell ⟨g, 1, none⟩ v) ao len n :=
  (h.setBox hb (noInt2 ha hbb) 0 u).setBox (c := #[u, b]) (hb.set 0 u) (noInt2 hu hbb) 1 v

def sgn (neg : Bool) (n : Nat) : Int := if neg then -(n : Int) else (n : Int)

/-- a struct with this sign and this slice is the integer z -/
def Z32 (w : World) (neg : Bool) (ao : Option Addr) (len : Nat) (z : Int) : Prop := ∃ n, N32 w ao len n ∧ z = sgn neg n ∧ (neg = true → n ≠ 0)

theorem Z32.keep {w w' : World} {neg : Bool} {ao : Option Addr} {len : Nat} {z : Int} (h : Z32 w neg ao len z) (hb : Below w.heap.size w w') : Z32 w' neg ao len z := by
  obtain ⟨n, h1, h2⟩ := h
  exact ⟨n, h1.keep hb, h2⟩

/-- returned: a struct that is the integer z -/
def OutI (W : World) (z : Int) (e : Ending) (w' : World) : Prop := ∃ neg ao len cap, e = .returned (.agg #[.bool neg, .slice ao len cap]) ∧ Z32 w' neg ao len z ∧ Below W.heap.size W w'

set_option maxHeartbeats 400000 in
theorem signed_any (s : Bool) (ao : Option Addr) (len cap n : Nat) (W : World) (h : N32 W ao len n) :
    Calls Try.prog 28 #[.bool s, .slice ao len cap] W (OutI W (sgn s n)) := by
  have hz := h.zero
  have H := Lib.hid h
  have HZ := Lib.hid hz
  clear h hz
  cases s with
  | false =>
    go_enter Try.func28, Try.ntmps28
    go_wp2
    refine bodyPost_ret (v := .agg #[.bool false, .slice ao len cap]) (by simp [results, Try.results28, go_sem]) rfl ⟨false, ao, len, cap, rfl, ?_, (Below.refl _ _).alloc (Nat.le_refl _) _⟩
    exact ⟨n, H.out.keep ((Below.refl _ _).alloc (Nat.le_refl _) _), rfl, by simp⟩
  | true =>
    by_cases h0 : len = 0
    · subst h0
      go_enter Try.func28, Try.ntmps28
      go_wp2
      refine bodyPost_ret (v := .agg #[.bool false, .slice ao 0 cap]) (by simp [results, Try.results28, go_sem]) rfl ⟨false, ao, 0, cap, rfl, ?_, (Below.refl _ _).alloc (Nat.le_refl _) _⟩
      have hn : n = 0 := by first | exact HZ.out.2 rfl | exact HZ.out.2 trivial
      exact ⟨n, H.out.keep ((Below.refl _ _).alloc (Nat.le_refl _) _), by rw [hn]; rfl, by simp⟩
    · have b1 : (0 : Int) < (len : Int) := by omega
      have hd : decide (0 < len) = true := by simp; omega
      go_enter Try.func28, Try.ntmps28
      go_wp2
      refine bodyPost_ret (v := .agg #[.bool true, .slice ao len cap]) (by simp [results, Try.results28, go_sem]) rfl ⟨true, ao, len, cap, rfl, ?_, (Below.refl _ _).alloc (Nat.le_refl _) _⟩
      exact ⟨n, H.out.keep ((Below.refl _ _).alloc (Nat.le_refl _) _), rfl, fun _ => by have := HZ.out; omega⟩

theorem wrap_neg (n : Nat) (h : n ≤ 9223372036854775808) : IntKind.u64.wrap (-IntKind.u64.wrap (-(n : Int))) = (n : Int) := by
  simp [IntKind.wrap, IntKind.bits, IntKind.signed]
  omega

set_option maxHeartbeats 400000 in
theorem new_any (z : Int) (W : World) (h1 : -9223372036854775808 ≤ z) (h2 : z ≤ 9223372036854775807) :
    Calls Try.prog 40 #[.int .i64 z] W (OutI W z) := by
  by_cases h0 : z < 0
  · obtain ⟨n, rfl⟩ : ∃ n : Nat, z = -(n : Int) := ⟨z.natAbs, by omega⟩
    have hw := Lib.hid (wrap_neg n (by omega))
    go_enter Try.func40, Try.ntmps40
    go_wp2_with fail
    refine (fromWord_any _ n _ hw.out (by omega)).mono ?_
    rintro e w1 ⟨ao, len, cap, rfl, hn1, hb1⟩
    have HN := Lib.hid hn1
    have HB := Lib.hid hb1
    have HX := Lib.hid (Box.later hb1)
    clear hn1 hb1
    go_wp2_with fail
    refine (signed_any true ao len cap n w1 HN.out).mono ?_
    rintro e w2 ⟨neg, ao2, len2, cap2, rfl, ⟨n2, hn2, hz2, hp2⟩, hb2⟩
    have HX2 := Lib.hid (HX.out.below hb2 (by have := HX.out; exact (Array.getElem?_eq_some_iff.1 this).1))
    have hc0 := HX2.out.cell 0
    have hc1 := HX2.out.cell 1
    have hf0 := HX2.out.frozen 0
    have hf1 := HX2.out.frozen 1
    have HN2 := Lib.hid hn2
    have HB2 := Lib.hid hb2
    have HZ2 := Lib.hid hz2
    have HP2 := Lib.hid hp2
    clear hn2 hb2 hz2 hp2
    go_wp2
    have e0 := ((HX2.out.set 0 (.bool neg)).set 1 (.slice ao2 len2 cap2)).cell 0
    have e1 := ((HX2.out.set 0 (.bool neg)).set 1 (.slice ao2 len2 cap2)).cell 1
    have hlt := HX.out
    refine bodyPost_ret (v := .agg #[.bool neg, .slice ao2 len2 cap2]) (by simp [results, Try.results40, go_sem, e0, e1]) rfl ⟨neg, ao2, len2, cap2, rfl, ⟨n2, HN2.out.set2 HX2.out rfl rfl _ _ rfl, HZ2.out, HP2.out⟩, ?_⟩
    have hb := below_then ((Below.refl W.heap.size W).alloc (Nat.le_refl _) _) (HB.out.trans (HB2.out.mono HB.out.size))
    exact (hb.setCell (Nat.le_refl _) _).setCell (Nat.le_refl _) _
  · obtain ⟨n, rfl⟩ : ∃ n : Nat, z = (n : Int) := ⟨z.toNat, by omega⟩
    have b1 : (n : Int) ≤ 9223372036854775807 := h2
    go_enter Try.func40, Try.ntmps40
    go_wp2_with fail
    refine (fromWord_any _ n _ rfl (by omega)).mono ?_
    rintro e w1 ⟨ao, len, cap, rfl, hn1, hb1⟩
    have HN := Lib.hid hn1
    have HB := Lib.hid hb1
    have HX := Lib.hid (Box.later hb1)
    clear hn1 hb1
    go_wp2_with fail
    refine (signed_any false ao len cap n w1 HN.out).mono ?_
    rintro e w2 ⟨neg, ao2, len2, cap2, rfl, ⟨n2, hn2, hz2, hp2⟩, hb2⟩
    have HX2 := Lib.hid (HX.out.below hb2 (by have := HX.out; exact (Array.getElem?_eq_some_iff.1 this).1))
    have hc0 := HX2.out.cell 0
    have hc1 := HX2.out.cell 1
    have hf0 := HX2.out.frozen 0
    have hf1 := HX2.out.frozen 1
    have HN2 := Lib.hid hn2
    have HB2 := Lib.hid hb2
    have HZ2 := Lib.hid hz2
    have HP2 := Lib.hid hp2
    clear hn2 hb2 hz2 hp2
    go_wp2
    have e0 := ((HX2.out.set 0 (.bool neg)).set 1 (.slice ao2 len2 cap2)).cell 0
    have e1 := ((HX2.out.set 0 (.bool neg)).set 1 (.slice ao2 len2 cap2)).cell 1
    refine bodyPost_ret (v := .agg #[.bool neg, .slice ao2 len2 cap2]) (by simp [results, Try.results40, go_sem, e0, e1]) rfl ⟨neg, ao2, len2, cap2, rfl, ⟨n2, HN2.out.set2 HX2.out rfl rfl _ _ rfl, HZ2.out, HP2.out⟩, ?_⟩
    have hb := below_then ((Below.refl W.heap.size W).alloc (Nat.le_refl _) _) (HB.out.trans (HB2.out.mono HB.out.size))
    exact (hb.setCell (Nat.le_refl _) _).setCell (Nat.le_refl _) _

set_option maxHeartbeats 400000 in
theorem sign_any (neg : Bool) (ao : Option Addr) (len cap : Nat) (z : Int) (W : World) (h : Z32 W neg ao len z) :
    Calls Try.prog 31 #[.agg #[.bool neg, .slice ao len cap]] W (fun e w' => e = .returned (.int .i64 z.sign) ∧ Below W.heap.size W w') := by
  obtain ⟨n, hn, hz, hp⟩ := h
  have h0 := hn.zero
  cases neg with
  | true =>
    have hs : z.sign = -1 := by
      have := hp rfl
      rw [hz]
      apply Int.sign_eq_neg_one_of_neg
      simp only [sgn, if_true]
      omega
    rw [hs]
    clear hn hz hp h0 hs
    go_enter Try.func31, Try.ntmps31
    go_wp2
    go_ret
    exact ⟨rfl, (Below.refl _ _).alloc (Nat.le_refl _) _⟩
  | false =>
    by_cases hl : 0 < len
    · have hs : z.sign = 1 := by
        rw [hz]
        apply Int.sign_eq_one_of_pos
        show (0 : Int) < (n : Int)
        omega
      rw [hs]
      have b1 : (0 : Int) < (len : Int) := by omega
      clear hn hz hp h0 hs
      go_enter Try.func31, Try.ntmps31
      go_wp2
      go_ret
      exact ⟨rfl, (Below.refl _ _).alloc (Nat.le_refl _) _⟩
    · have hs : z.sign = 0 := by
        rw [hz, show n = 0 by omega]; rfl
      rw [hs]
      have b1 : ¬ (0 : Int) < (len : Int) := by omega
      clear hn hz hp h0 hs
      go_enter Try.func31, Try.ntmps31
      go_wp2
      go_ret
      exact ⟨rfl, (Below.refl _ _).alloc (Nat.le_refl _) _⟩
end Go.Proofs.Ytcgnmihabkgecaa

/- plus, times. -/
set_option linter.unusedVariables false
namespace Go.Proofs.Ytcgnmihabkgecaa
open Go.RowKit

/-- Two boxed structs and a new cell pair, behind them. -/
structure Boxes (W W3 : World) (T : Nat) (a b : Value) (c d : Value) (e f : Value) : Prop where
  b2 : Box W3 W.heap.size T #[a, b]
  b3 : Box W3 (W.heap.size + 1) T #[c, d]
  b4 : Box W3 (W.heap.size + 2) T #[e, f]
  below : Below W.heap.size W W3
  size : W3.heap.size = W.heap.size + 3

theorem boxes (W : World) (T : Nat) (a b c d e f : Value) : Boxes W (((W.alloc (.cells #[a, b] T)).alloc (.cells #[c, d] T)).alloc (.cells #[e, f] T)) T a b c d e f := by
  have h1 := Box.new W T #[a, b]
  have h2 := Box.new (W.alloc (.cells #[a, b] T)) T #[c, d]
  have h3 := Box.new ((W.alloc (.cells #[a, b] T)).alloc (.cells #[c, d] T)) T #[e, f]
  have k1 : ∀ (w : World) (g : Nat) (x : Array Value) (o : Obj), Box w g T x → Box (w.alloc o) g T x := fun w g x o h => (Below.heap_alloc w o g (Array.getElem?_eq_some_iff.1 h).1).trans h
  simp only [World.size_alloc] at h2 h3
  exact ⟨k1 _ _ _ _ (k1 _ _ _ _ h1), k1 _ _ _ _ h2, h3, (((Below.refl _ _).alloc (Nat.le_refl _) _).alloc (by simp) _).alloc (by simp; omega) _, by simp⟩

theorem Boxes.later {W W3 w' : World} {T : Nat} {a b c d e f : Value} (h : Boxes W W3 T a b c d e f) (hb : Below W3.heap.size W3 w') : 
    Box w' W.heap.size T #[a, b] ∧ Box w' (W.heap.size + 1) T #[c, d] ∧ Box w' (W.heap.size + 2) T #[e, f] :=
  ⟨h.b2.below hb (by have := h.size; omega), h.b3.below hb (by have := h.size; omega), h.b4.below hb (by have := h.size; omega)⟩

theorem Boxes.facts {W W3 w' : World} {T : Nat} {a b c d e f : Value} (h : Boxes W W3 T a b c d e f) (hb : Below W3.heap.size W3 w') :
    w'.cell? ⟨W.heap.size, 0, none⟩ = some a ∧ w'.cell? ⟨W.heap.size, 1, none⟩ = some b ∧ w'.cell? ⟨W.heap.size + 1, 0, none⟩ = some c ∧ w'.cell? ⟨W.heap.size + 1, 1, none⟩ = some d := by
  obtain ⟨h1, h2, h3⟩ := h.later hb
  exact ⟨h1.cell 0, h1.cell 1, h2.cell 0, h2.cell 1⟩

theorem Boxes.own {W W3 w' : World} {T : Nat} {a b c d e f : Value} (h : Boxes W W3 T a b c d e f) (hb : Below W3.heap.size W3 w') :
    w'.cell? ⟨W.heap.size + 2, 0, none⟩ = some e ∧ w'.cell? ⟨W.heap.size + 2, 1, none⟩ = some f ∧ w'.frozen? ⟨W.heap.size + 2, 0, none⟩ = false ∧ w'.frozen? ⟨W.heap.size + 2, 1, none⟩ = false := by
  obtain ⟨h1, h2, h3⟩ := h.later hb
  exact ⟨h3.cell 0, h3.cell 1, h3.frozen 0, h3.frozen 1⟩

theorem below_of_drew {w w1 : World} (h : Below w.drew.heap.size w.drew w1) : Below w.heap.size w w1 := (Below.refl _ _).drew.trans h

/-- the end: the result is stored in its cell pair -/
theorem Boxes.fin {W W3 w2 : World} {T : Nat} {a b c d : Value} {eb neg : Bool} {fo ao : Option Addr} {fl fc len cap : Nat} {z : Int} (h : Boxes W W3 T a b c d (.bool eb) (.slice fo fl fc)) (hb : Below W3.heap.size W3 w2) (hz : Z32 w2 neg ao len z) :
    let w' := (w2.setCell ⟨W.heap.size + 2, 0, none⟩ (.bool neg)).setCell ⟨W.heap.size + 2, 1, none⟩ (.slice ao len cap)
    w'.cell? ⟨W.heap.size + 2, 0, none⟩ = some (.bool neg) ∧ w'.cell? ⟨W.heap.size + 2, 1, none⟩ = some (.slice ao len cap) ∧ Z32 w' neg ao len z ∧ Below W.heap.size W w' := by
  obtain ⟨h1, h2, h3⟩ := h.later hb
  obtain ⟨n, hn, hz⟩ := hz
  have k := (h3.set 0 (.bool neg)).set 1 (.slice ao len cap)
  refine ⟨k.cell 0, k.cell 1, ⟨n, hn.set2 h3 rfl rfl _ _ rfl, hz⟩, ?_⟩
  have hbb := h.below.trans (hb.mono (by have := h.size; omega))
  exact (hbb.setCell (by simp) _).setCell (by simp) _

theorem cell_set2 (w : World) (g b o : Nat) (u v : Value) (h : b ≠ g) : ((w.setCell ⟨g, 0, none⟩ u).setCell ⟨g, 1, none⟩ v).cell? ⟨b, o, none⟩ = w.cell? ⟨b, o, none⟩ := by
  have e : ((w.setCell ⟨g, 0, none⟩ u).setCell ⟨g, 1, none⟩ v).heap[b]? = w.heap[b]? := by
    rw [Below.heap_setCell _ _ _ _ h, Below.heap_setCell _ _ _ _ h]
  simp only [World.cell?, e]

theorem sgn_mul (a b : Bool) (m n : Nat) : sgn a m * sgn b n = sgn (a != b) (m * n) := by
  cases a <;> cases b <;> simp [sgn, Int.neg_mul, Int.mul_neg]

set_option maxHeartbeats 2000000 in
theorem times_any (na nb : Bool) (ao bo : Option Addr) (la lb ca cb : Nat) (x y : Int) (W : World) (ha : Z32 W na ao la x) (hb : Z32 W nb bo lb y) (hla : la ≤ 1000000000) (hlb : lb ≤ 1000000000) :
    Calls Try.prog 24 #[.agg #[.bool na, .slice ao la ca], .agg #[.bool nb, .slice bo lb cb]] W (OutI W (x * y)) := by
  obtain ⟨m, hm, rfl, hpm⟩ := ha
  obtain ⟨n, hn, rfl, hpn⟩ := hb
  have HM := Lib.hid hm
  have HN := Lib.hid hn
  have HE := Lib.hid (sgn_mul na nb m n)
  rw [HE.out]
  clear hm hn hpm hpn
  go_enter Try.func24, Try.ntmps24
  go_wp2_with fail
  have hbx := boxes W 27 (.bool na) (.slice ao la ca) (.bool nb) (.slice bo lb cb) (.bool false) (.slice none 0 0)
  obtain ⟨W3, hW3⟩ : ∃ W3, W3 = ((W.alloc (.cells #[.bool na, .slice ao la ca] 27)).alloc (.cells #[.bool nb, .slice bo lb cb] 27)).alloc (.cells #[.bool false, .slice none 0 0] 27) := ⟨_, rfl⟩
  rw [← hW3] at hbx ⊢
  clear hW3
  have HX := Lib.hid hbx
  have c0 := hbx.b2.cell 0
  have c1 := hbx.b2.cell 1
  have c2 := hbx.b3.cell 0
  have c3 := hbx.b3.cell 1
  simp only [List.getElem?_toArray, List.getElem?_cons_zero, List.getElem?_cons_succ] at c0 c1 c2 c3
  have HM3 := Lib.hid (HM.out.keep hbx.below)
  have HN3 := Lib.hid (HN.out.keep hbx.below)
  clear hbx
  go_region_held3 (fun w' => w'.cell? ⟨W.heap.size, 0, none⟩ = some (.bool na) ∧ w'.cell? ⟨W.heap.size, 1, none⟩ = some (.slice ao la ca) ∧ w'.cell? ⟨W.heap.size + 1, 0, none⟩ = some (.bool nb) ∧ w'.cell? ⟨W.heap.size + 1, 1, none⟩ = some (.slice bo lb cb)) (first | (go_keep; done) | ((try dsimp only); (repeat' apply And.intro) <;> (first | (go_keep; done) | (rw [cell_set2 _ _ _ _ _ _ (by omega)]; assumption))))
    (first | (go_at_call 35; refine (product_any _ _ _ _ _ _ m n _ (HM3.out.drewN 1) (HN3.out.drewN 1) hla hlb).mono ?_; rintro e w1 ⟨po, pl, pc, rfl, hp, hb1⟩; have HB1 := Lib.hid (below_of_drew hb1); have HP := Lib.hid hp; clear hb1 hp; obtain ⟨k0, k1, k2, k3⟩ := HX.out.facts HB1.out) | (go_at_call 28; refine (signed_any _ _ _ _ (m * n) _ HP.out).mono ?_; rintro e w2 ⟨neg, so, sl, sc, rfl, hz, hb2⟩; have HB2 := Lib.hid (HB1.out.trans (hb2.mono HB1.out.size)); have HZ := Lib.hid hz; clear hb2 hz; obtain ⟨j0, j1, j2, j3⟩ := HX.out.facts HB2.out; obtain ⟨i0, i1, i2, i3⟩ := HX.out.own HB2.out))
  go_wp2
  obtain ⟨e0, e1, hz, hbel⟩ := HX.out.fin (neg := neg) (ao := so) (len := sl) (cap := sc) HB2.out HZ.out
  exact bodyPost_ret (v := .agg #[.bool neg, .slice so sl sc]) (by simp [results, Try.results24, go_sem, e0, e1]) rfl ⟨neg, so, sl, sc, rfl, hz, hbel⟩
end Go.Proofs.Ytcgnmihabkgecaa

/- BitLen, String, Int of num's integers; commonWord; commonDivisor of small numbers. -/
set_option linter.unusedVariables false
namespace Go.Proofs.Ytcgnmihabkgecaa
open Go.RowKit

def numeralZ (z : Int) : List UInt8 := if z < 0 then 45 :: numeral z.natAbs else numeral z.natAbs

theorem sgn_natAbs (s : Bool) (n : Nat) : (sgn s n).natAbs = n := by cases s <;> simp [sgn]

theorem numeralZ_neg {n : Nat} (h : n ≠ 0) : numeralZ (sgn true n) = 45 :: numeral n := by
  unfold numeralZ
  rw [sgn_natAbs, if_pos]
  simp only [sgn, if_true]; omega

theorem numeralZ_pos (n : Nat) : numeralZ (sgn false n) = numeral n := by
  unfold numeralZ
  rw [sgn_natAbs, if_neg]
  have : sgn false n = (n : Int) := rfl
  omega

theorem bytes_append (a b : List UInt8) : (⟨a.toArray⟩ ++ ⟨b.toArray⟩ : ByteArray) = ⟨(a ++ b).toArray⟩ := by
  apply ByteArray.ext
  rw [ByteArray.data_append]
  simp

theorem low_len {n k : Nat} (hn : n < B32 ^ k) : (low n).length ≤ 32 * k + 1 := by
  obtain ⟨h1, h2, h3⟩ := lowF_spec n n (Nat.le_refl _)
  by_cases h0 : low n = []
  · simp [h0]
  · have h4 := val_ge (B := 10) h2 h0
    rw [show val 10 (lowF n n) = n from h3] at h4
    have := text_len h4 hn
    unfold low at *
    omega

theorem numeral_len {n k : Nat} (hn : n < B32 ^ k) : (numeral n).length ≤ 32 * k + 1 := by
  unfold numeral
  split
  · simp
  · have := low_len hn
    simpa [chars] using this

theorem box_below (W : World) (T : Nat) (c : Array Value) : Below W.heap.size W (W.alloc (.cells c T)) := (Below.refl _ _).alloc (Nat.le_refl _) _

set_option maxHeartbeats 400000 in
theorem bitLen_any (neg : Bool) (ao : Option Addr) (len cap : Nat) (z : Int) (W : World) (h : Z32 W neg ao len z) (hl : len ≤ 1000000000) :
    Calls Try.prog 48 #[.agg #[.bool neg, .slice ao len cap]] W (fun e w' => e = .returned (.int .i64 (blen z.natAbs : Nat)) ∧ Below W.heap.size W w') := by
  obtain ⟨n, hn, rfl, hp⟩ := h
  rw [sgn_natAbs]
  have HN := Lib.hid (hn.keep (box_below W 27 #[.bool neg, .slice ao len cap]))
  clear hn hp
  go_enter Try.func48, Try.ntmps48
  go_wp2_with (go_at_call 54; refine (bitLength_any _ _ _ n _ HN.out hl).mono ?_; rintro e w1 ⟨rfl, rfl⟩)
  go_ret
  exact ⟨rfl, box_below _ _ _⟩

set_option maxHeartbeats 800000 in
theorem string_any (neg : Bool) (ao : Option Addr) (len cap : Nat) (z : Int) (W : World) (h : Z32 W neg ao len z) (hl : len ≤ 1000000000) :
    Calls Try.prog 6 #[.agg #[.bool neg, .slice ao len cap]] W (StrPost (numeralZ z) W) := by
  obtain ⟨n, hn, rfl, hp⟩ := h
  have HN := Lib.hid (hn.keep (box_below W 27 #[.bool neg, .slice ao len cap]))
  have HP := Lib.hid hp
  have hnl := numeral_len hn.lt
  have hnl2 : ¬ 9223372036854775807 < 1 + (numeral n).length := by omega
  clear hn hp hnl
  cases neg with
  | true =>
    have HE := Lib.hid (numeralZ_neg (HP.out rfl))
    rw [HE.out]
    go_enter Try.func6, Try.ntmps6
    go_wp2_with fail
    refine (writeDigits_any _ _ _ n _ HN.out hl).mono ?_
    rintro e w1 ⟨rfl, hb⟩
    have HB := Lib.hid hb
    have hx := Box.later hb
    have c0 : w1.cell? ⟨W.heap.size, 0, none⟩ = some (.bool true) := hx.cell 0
    clear hb hx
    go_wp2
    go_ret
    refine ⟨?_, below_then (box_below _ _ _) HB.out⟩
    have := bytes_append [45] (numeral n)
    exact congrArg (fun x => Ending.returned (Value.string x)) this
  | false =>
    have HE := Lib.hid (numeralZ_pos n)
    rw [HE.out]
    go_enter Try.func6, Try.ntmps6
    go_wp2_with fail
    refine (writeDigits_any _ _ _ n _ HN.out hl).mono ?_
    rintro e w1 ⟨rfl, hb⟩
    have HB := Lib.hid hb
    have hx := Box.later hb
    have c0 : w1.cell? ⟨W.heap.size, 0, none⟩ = some (.bool false) := hx.cell 0
    clear hb hx
    go_wp2
    go_ret
    exact ⟨rfl, below_then (box_below _ _ _) HB.out⟩

def IntPost (z : Int) (W : World) (e : Ending) (w' : World) : Prop :=
  e = .returned (if -9223372036854775808 ≤ z ∧ z ≤ 9223372036854775807 then .tuple #[.int .i64 z, .bool true] else .tuple #[.int .i64 0, .bool false]) ∧ Below W.heap.size W w'

end Go.Proofs.Ytcgnmihabkgecaa

/- commonWord; commonDivisor of numbers of at most two digits. -/
set_option linter.unusedVariables false
namespace Go.Proofs.Ytcgnmihabkgecaa
open Go.RowKit

set_option maxHeartbeats 800000 in
theorem commonWord_any (A B : Int) (a b : Nat) (W : World) (hA : A = (a : Int)) (hB : B = (b : Int)) (ha : a < 18446744073709551616) (hb : b < 18446744073709551616) :
    Calls Try.prog 58 #[.int .u64 A, .int .u64 B] W (fun e w' => e = .returned (.int .u64 (Nat.gcd a b : Nat)) ∧ Drew W w') := by
  subst hA hB
  go_enter Try.func58, Try.ntmps58
  go_wp2
  go_loopw [0, 1] (fun xv yv wr => ∃ x y : Nat, xv = .int .u64 (x : Int) ∧ yv = .int .u64 (y : Int) ∧ x < 18446744073709551616 ∧ y < 18446744073709551616 ∧ Nat.gcd x y = Nat.gcd a b ∧ Drew W wr) (fun xv yv _ => (intOf yv).toNat)
  case atStart => exact ⟨a, b, rfl, rfl, ha, hb, rfl, Drew.refl _⟩
  case round =>
    obtain ⟨x, y, rfl, rfl, hx, hy, hg, hw⟩ := hrel
    have HG := Lib.hid hg
    have HW := Lib.hid hw
    clear hg hw
    by_cases hy0 : y = 0
    · subst hy0
      go_wp2
      go_ret
      have := HG.out
      rw [Nat.gcd_zero_right] at this
      exact ⟨ret_int (by rw [this]), HW.out⟩
    · have t1 : (0 : Int) < (y : Int) := by omega
      have hr : (x : Int).tmod (y : Int) = ((x % y : Nat) : Int) := (Int.ofNat_tmod _ _).symm
      have hr2 : x % y < y := Nat.mod_lt _ (by omega)
      have HR := Lib.hid hr
      clear hr
      go_wp2
      go_quiet (fail)
      go_wp2
      go_roundw
      case rel =>
        refine ⟨y, x % y, rfl, by first | rfl | exact congrArg (Value.int _) (by omega), hy, by omega, ?_, HW.out.more _⟩
        rw [← HG.out, Nat.gcd_comm x y, Nat.gcd_rec y x, Nat.gcd_comm]
      case measure => simp only [intOf]; omega

/-- duplicate, said of the number -/
def DupN (len n : Nat) (W : World) (e : Ending) (w' : World) : Prop := ∃ ao cap, e = .returned (.slice ao len cap) ∧ N32 w' ao len n ∧ Below W.heap.size W w'

theorem duplicate_n (ao : Option Addr) (len cap n : Nat) (W : World) (h : N32 W ao len n) (hl : len ≤ 1000000000) :
    Calls Try.prog 29 #[.slice ao len cap] W (DupN len n W) := by
  obtain ⟨xs, hs, hd, ht, hv⟩ := h
  refine (duplicate_any ao len cap xs W hs hl).mono fun e w' h => ?_
  rcases h with ⟨h1, h2, h3⟩ | ⟨h1, h2, h3, h4, h5⟩
  · subst h1 h3
    exact ⟨none, 0, h2, ⟨xs, ⟨hs.len, 0, 0, fun h => absurd h (Nat.lt_irrefl _), fun i hi => absurd hi (Nat.not_lt_zero _)⟩, hd, ht, hv⟩, Below.refl _ _⟩
  · exact ⟨_, len, h2, ⟨xs, h3.whole hs.len, hd, ht, hv⟩, h4⟩

def GcdOk (m n : Nat) : Prop := ∀ (ao bo : Option Addr) (la lb ca cb : Nat) (W : World), N32 W ao la m → N32 W bo lb n → la ≤ 1000000000 → lb ≤ 1000000000 →
  Calls Try.prog 30 #[.slice ao la ca, .slice bo lb cb] W (Out32 W (Nat.gcd m n))

theorem small2 {m : Nat} (h : m < 18446744073709551616) : m < B32 ^ 2 := by
  have : B32 ^ 2 = 18446744073709551616 := by decide
  omega

theorem blen_small {m : Nat} (h : m < 18446744073709551616) : blen m ≤ 64 := blen_le.2 h

set_option maxHeartbeats 2000000 in
theorem gcd_easy (m n : Nat) (hm : m < 18446744073709551616) (hn : n < 18446744073709551616) : GcdOk m n := by
  intro ao bo la lb ca cb W ha hb hla hlb
  have hla2 : la ≤ 2 := ha.len_le (small2 hm)
  have hlb2 : lb ≤ 2 := hb.len_le (small2 hn)
  have HA := Lib.hid ha
  have HB := Lib.hid hb
  clear ha hb
  have hbm : (blen m : Int) ≤ 64 := by have := blen_small hm; omega
  have hbn : (blen n : Int) ≤ 64 := by have := blen_small hn; omega
  go_enter Try.func30, Try.ntmps30
  go_wp2_with fail
  refine (duplicate_n _ _ _ m _ HA.out hla).mono ?_
  rintro e w1 ⟨ao1, ca1, rfl, ha1, hb1⟩
  have HA1 := Lib.hid ha1
  have HW1 := Lib.hid hb1
  clear ha1 hb1
  go_wp2_with fail
  refine (duplicate_n _ _ _ n _ (HB.out.keep HW1.out) hlb).mono ?_
  rintro e w2 ⟨bo2, cb2, rfl, hb2, hw2⟩
  have HA2 := Lib.hid (HA1.out.keep hw2)
  have HB2 := Lib.hid hb2
  have HW2 := Lib.hid (below_then HW1.out hw2)
  clear hb2 hw2
  go_wp2_with fail
  refine (compare_any _ _ _ _ _ _ m n _ HA2.out HB2.out hla hlb).mono ?_
  rintro e w3 ⟨rfl, hd3⟩
  have HA3 := Lib.hid (HA2.out.keep hd3.below)
  have HB3 := Lib.hid (HB2.out.keep hd3.below)
  have HW3 := Lib.hid (HW2.out.trans (hd3.below))
  clear hd3
  by_cases hmn : m < n
  · rw [cmpN_lt hmn]
    have hlb0 : lb ≠ 0 := by have := HB3.out.zero; omega
    have hlbi : ((lb : Int) == 0) = false := by simp; omega
    go_wp2_with fail
    refine wp_loop_once ?_
    by_cases hl0 : la = 0
    · obtain rfl : m = 0 := HA3.out.zero.2 hl0
      subst hl0
      go_wp2_with (go_at_call 54; refine (bitLength_any _ _ _ n _ HB3.out hlb).mono ?_; rintro e w4 ⟨rfl, rfl⟩)
      go_ret
      exact ⟨bo2, lb, cb2, rfl, by rw [Nat.gcd_zero_left]; exact HB3.out, HW3.out⟩
    · have b1 : (0 : Int) < (la : Int) := by omega
      have b2 : ((la : Int) == 0) = false := by simp; omega
      go_wp2_with fail
      refine (bitLength_any _ _ _ n _ HB3.out hlb).mono ?_
      rintro e w4 ⟨rfl, rfl⟩
      go_wp2_with fail
      refine (toWord_any _ _ _ n _ HB3.out hlb2).mono ?_
      rintro e w5 ⟨rfl, rfl⟩
      go_wp2_with fail
      refine (toWord_any _ _ _ m _ HA3.out hla2).mono ?_
      rintro e w6 ⟨rfl, rfl⟩
      go_wp2_with fail
      refine (commonWord_any _ _ n m _ rfl rfl hn hm).mono ?_
      rintro e w7 ⟨rfl, hd7⟩
      go_wp2_with fail
      refine (fromWord_any _ (Nat.gcd n m) _ rfl (Nat.le_trans (Nat.gcd_le_left m (by omega)) (by omega))).mono ?_
      rintro e w8 ⟨ro, rl, rc, rfl, hr, hb8⟩
      go_wp2
      go_ret
      exact ⟨ro, rl, rc, rfl, by rw [Nat.gcd_comm]; exact hr, below_then (HW3.out.trans hd7.below) hb8⟩
  · by_cases he : m = n
    · rw [cmpN_eq he]
      clear he
      by_cases hl0 : lb = 0
      · obtain rfl : n = 0 := HB3.out.zero.2 hl0
        subst hl0
        go_wp2_with fail
        refine wp_loop_once ?_
        go_wp2
        go_ret
        exact ⟨ao1, la, ca1, rfl, by rw [Nat.gcd_zero_right]; exact HA3.out, HW3.out⟩
      · have b1 : (0 : Int) < (lb : Int) := by omega
        have b2 : ((lb : Int) == 0) = false := by simp; omega
        go_wp2_with fail
        refine wp_loop_once ?_
        go_wp2_with fail
        refine (bitLength_any _ _ _ m _ HA3.out hla).mono ?_
        rintro e w4 ⟨rfl, rfl⟩
        go_wp2_with fail
        refine (toWord_any _ _ _ m _ HA3.out hla2).mono ?_
        rintro e w5 ⟨rfl, rfl⟩
        go_wp2_with fail
        refine (toWord_any _ _ _ n _ HB3.out hlb2).mono ?_
        rintro e w6 ⟨rfl, rfl⟩
        go_wp2_with fail
        refine (commonWord_any _ _ m n _ rfl rfl hm hn).mono ?_
        rintro e w7 ⟨rfl, hd7⟩
        go_wp2_with fail
        refine (fromWord_any _ (Nat.gcd m n) _ rfl (Nat.le_trans (Nat.gcd_le_right m (by have := HB3.out.zero; omega)) (by omega))).mono ?_
        rintro e w8 ⟨ro, rl, rc, rfl, hr, hb8⟩
        go_wp2
        go_ret
        exact ⟨ro, rl, rc, rfl, hr, below_then (HW3.out.trans hd7.below) hb8⟩
    · rw [cmpN_gt (show n < m by omega)]
      by_cases hl0 : lb = 0
      · obtain rfl : n = 0 := HB3.out.zero.2 hl0
        subst hl0
        go_wp2_with fail
        refine wp_loop_once ?_
        go_wp2
        go_ret
        exact ⟨ao1, la, ca1, rfl, by rw [Nat.gcd_zero_right]; exact HA3.out, HW3.out⟩
      · have b1 : (0 : Int) < (lb : Int) := by omega
        have b2 : ((lb : Int) == 0) = false := by simp; omega
        go_wp2_with fail
        refine wp_loop_once ?_
        go_wp2_with fail
        refine (bitLength_any _ _ _ m _ HA3.out hla).mono ?_
        rintro e w4 ⟨rfl, rfl⟩
        go_wp2_with fail
        refine (toWord_any _ _ _ m _ HA3.out hla2).mono ?_
        rintro e w5 ⟨rfl, rfl⟩
        go_wp2_with fail
        refine (toWord_any _ _ _ n _ HB3.out hlb2).mono ?_
        rintro e w6 ⟨rfl, rfl⟩
        go_wp2_with fail
        refine (commonWord_any _ _ m n _ rfl rfl hm hn).mono ?_
        rintro e w7 ⟨rfl, hd7⟩
        go_wp2_with fail
        refine (fromWord_any _ (Nat.gcd m n) _ rfl (Nat.le_trans (Nat.gcd_le_right m (by have := HB3.out.zero; omega)) (by omega))).mono ?_
        rintro e w8 ⟨ro, rl, rc, rfl, hr, hb8⟩
        go_wp2
        go_ret
        exact ⟨ro, rl, rc, rfl, hr, below_then (HW3.out.trans hd7.below) hb8⟩
end Go.Proofs.Ytcgnmihabkgecaa
