/- Part 4 of the contracts: LehB, LehC, Int1, Int2, Int3, GcdE, Fr, LehD. -/
import Derived.IntWalk
import Derived.Deep.RegionHeld3
import Derived.Test.YtbihgllfllkkaaaPart3

/- combine, window. -/
set_option linter.unusedVariables false
namespace Go.Proofs.Ytbihgllfllkkaaa
open Go.RowKit

def CombRel (n f g : Nat) (xs ys : List Nat) (W : World) (cv dv wv iv : Value) (wr : World) : Prop :=
  ∃ (c d w i : Nat) (zs : List Nat), cv = .int .u64 (c : Int) ∧ dv = .int .u64 (d : Int) ∧ wv = .int .u64 (w : Int) ∧ iv = .int .i64 (i : Int) ∧ Blk .u32 wr W.heap.size 68 zs ∧ zs.length = n ∧ Dig B32 zs ∧ i ≤ n ∧ c ≤ f ∧ d ≤ g ∧ w ≤ 1 ∧
    val B32 zs + c * B32 ^ i + g * val B32 (ys.take i) = f * val B32 (xs.take i) + (d + w) * B32 ^ i ∧ (∀ j, i ≤ j → zs[j]?.getD 0 = 0) ∧ Below W.heap.size W wr

theorem u64_wrap_mod (z : Int) : IntKind.u64.wrap z = z % 18446744073709551616 := by
  simp [IntKind.wrap, IntKind.bits, IntKind.signed]

/-- one digit of a difference, with the borrow -/
theorem comb_digit (a b w : Nat) (ha : a < 4294967296) (hb : b < 4294967296) (hw : w ≤ 1) : ∃ nw w' : Nat, nw < 4294967296 ∧ w' ≤ 1 ∧ nw + b + w = a + w' * 4294967296 ∧
    IntKind.u64.wrap (IntKind.u64.wrap ((a : Int) - (b : Int)) - (w : Int)) % 4294967296 = (nw : Int) ∧ IntKind.u64.wrap (IntKind.u64.wrap ((a : Int) - (b : Int)) - (w : Int)) / 9223372036854775808 = (w' : Int) := by
  rw [u64_wrap_mod, u64_wrap_mod]
  by_cases h : a < b + w
  · exact ⟨a + 4294967296 - b - w, 1, by omega, by omega, by omega, by omega, by omega⟩
  · exact ⟨a - b - w, 0, by omega, by omega, by omega, by omega, by omega⟩

set_option maxRecDepth 8000 in
set_option maxHeartbeats 2000000 in
theorem combine_raw (ao bo : Option Addr) (la lb ca cb n f g D : Nat) (xs ys : List Nat) (F G : Int) (W : World) (ha : Sl .u32 W ao la xs) (hb : Sl .u32 W bo lb ys) (hda : Dig B32 xs) (hdb : Dig B32 ys) (hla : la ≤ 1000000000) (hlb : lb ≤ 1000000000) (hn : n = max la lb)
    (hF : F = (f : Int)) (hG : G = (g : Int)) (hf : f < 4294967296) (hg : g < 4294967296) (hD : f * val B32 xs = g * val B32 ys + D) (hDl : D < B32 ^ n) :
    Calls Try.prog 97 #[.slice ao la ca, .int .u64 F, .slice bo lb cb, .int .u64 G] W (Out32 W D) := by
  subst hF hG
  have HA := Lib.hid ha
  have HB := Lib.hid hb
  have HDA := Lib.hid hda
  have HDB := Lib.hid hdb
  have HD := Lib.hid hD
  have HDL := Lib.hid hDl
  have HN := Lib.hid hn
  have hn1 : max (la : Int) (lb : Int) = (n : Int) := by omega
  have hn2 : n ≤ 1000000000 := by omega
  have HG := Lib.hid (Nat.le_refl W.heap.size)
  clear ha hb hda hdb hD hDl hn
  go_enter Try.func97, Try.ntmps97
  go_wp2_with (at_make; refine wpList_mk rfl _ 29 rfl 68 .u32 4 Try.underlying29 (by kernel_rfl) _ n rfl (by omega) (by omega) (by omega) ?_; intro w1 hB1 hb1 hz1)
  go_loopw [10, 11, 12, 23] (fun cv dv wv iv wr => CombRel n f g xs ys W cv dv wv iv wr) (fun cv dv wv iv _ => n - (intOf iv).toNat)
  case atStart =>
    refine ⟨0, 0, 0, 0, _, rfl, rfl, rfl, rfl, hB1, by simp, Dig.replicate B32_pos _, by omega, by omega, by omega, by omega, ?_, ?_, hb1⟩
    · rw [val_replicate]; simp [val]
    · intro j hj; rw [List.getElem?_replicate]; split <;> rfl
  case round =>
    obtain ⟨c, d, w, i, zs, rfl, rfl, rfl, rfl, hB, hzl, hdz, hi, hc, hd, hw1, hv, h0, hbel⟩ := hrel
    have HZ := Lib.hid hB
    have HL := Lib.hid hzl
    have HDZ := Lib.hid hdz
    have HVV := Lib.hid hv
    have H0 := Lib.hid h0
    have HW := Lib.hid hbel
    clear hB hzl hdz hv h0 hbel
    by_cases hil : i < n
    · have hx := HDA.out.get B32_pos i
      have hy := HDB.out.get B32_pos i
      obtain ⟨x, hxe⟩ : ∃ x, x = xs[i]?.getD 0 := ⟨_, rfl⟩
      obtain ⟨y, hye⟩ : ∃ x, x = ys[i]?.getD 0 := ⟨_, rfl⟩
      rw [← hxe] at hx
      rw [← hye] at hy
      rw [B32_eq] at hx hy
      have HX := Lib.hid hxe
      have HY := Lib.hid hye
      obtain ⟨s, hs⟩ : ∃ s : Nat, s = x * f := ⟨_, rfl⟩
      obtain ⟨t, ht⟩ : ∃ t : Nat, t = y * g := ⟨_, rfl⟩
      have hs2 : (x : Int) * (f : Int) = (s : Int) := by rw [hs, Int.natCast_mul]
      have ht2 : (y : Int) * (g : Int) = (t : Int) := by rw [ht, Int.natCast_mul]
      have hs3 : s ≤ 18446744065119617025 := by rw [hs]; exact Nat.mul_le_mul (by omega : x ≤ 4294967295) (by omega : f ≤ 4294967295)
      have ht3 : t ≤ 18446744065119617025 := by rw [ht]; exact Nat.mul_le_mul (by omega : y ≤ 4294967295) (by omega : g ≤ 4294967295)
      have HS := Lib.hid hs
      have HT := Lib.hid ht
      clear hxe hye hs ht
      have b0 : (0 : Int) ≤ (i : Int) := by omega
      have b1 : (i : Int) < (n : Int) := by omega
      have cz1 := HZ.out.cell i (by rw [HL.out]; exact hil)
      have fz1 := HZ.out.frozen i
      have HAr := Lib.hid (HA.out.keep HW.out)
      have HBr := Lib.hid (HB.out.keep HW.out)
      go_wp2_with fail
      refine (digit_any _ _ _ xs _ i _ HAr.out rfl).mono ?_
      rw [← HX.out]
      rintro e w2 ⟨rfl, rfl⟩
      go_wp2_with fail
      refine (digit_any _ _ _ ys _ i _ HBr.out rfl).mono ?_
      rw [← HY.out]
      rintro e w2 ⟨rfl, rfl⟩
      go_wp2_with fail
      refine ⟨?_, by simp [intOf]; omega⟩
      obtain ⟨nw, w', hn1, hw2, hnw, hv1, hv2⟩ := comb_digit ((c + s) % 4294967296) ((d + t) % 4294967296) w (Nat.mod_lt _ (by decide)) (Nat.mod_lt _ (by decide)) hw1
      rw [Int.natCast_emod, Int.natCast_emod, Int.natCast_add, Int.natCast_add] at hv1 hv2
      have hv1' : IntKind.u64.wrap (IntKind.u64.wrap (((c : Int) + (s : Int)) % 4294967296 - ((d : Int) + (t : Int)) % 4294967296) - (w : Int)) % 4294967296 = (nw : Int) := hv1
      have hv2' : IntKind.u64.wrap (IntKind.u64.wrap (((c : Int) + (s : Int)) % 4294967296 - ((d : Int) + (t : Int)) % 4294967296) - (w : Int)) / 9223372036854775808 = (w' : Int) := hv2
      rw [hv1', hv2']
      have h00 := H0.out i (Nat.le_refl _)
      have hst := comb_step (B := B32) (w' := w') (nw := nw) (by rw [HL.out]; exact hil) h00 HVV.out (by rw [← HX.out, ← HY.out, ← HS.out, ← HT.out, B32_eq]; exact hnw)
      rw [← HX.out, ← HY.out, ← HS.out, ← HT.out] at hst
      have hc2 : (c + s) / B32 ≤ f := by rw [HS.out]; exact comb_carry B32_pos hc (by rw [B32_eq]; exact hx)
      have hd2 : (d + t) / B32 ≤ g := by rw [HT.out]; exact comb_carry B32_pos hd (by rw [B32_eq]; exact hy)
      refine ⟨(c + s) / B32, (d + t) / B32, w', i + 1, zs.set i nw, ?_, ?_, rfl, by go_num, HZ.out.set _ _ _ rfl, by simpa using HL.out, HDZ.out.set _ (by rw [B32_eq]; exact hn1), by omega, hc2, hd2, hw2, hst, ?_, HW.out.setCell (Nat.le_refl _) _⟩
      · exact congrArg (Value.int _) (by rw [B32_eq]; omega)
      · exact congrArg (Value.int _) (by rw [B32_eq]; omega)
      · intro j hj
        rw [List.getElem?_set_ne (by omega)]
        exact H0.out j (by omega)
    · obtain rfl : i = n := by omega
      have HSL := Lib.hid (HZ.out.whole HL.out)
      go_wp2_with fail
      refine (trim_raw _ _ _ _ _ HSL.out (Nat.le_refl _) (by omega)).mono ?_
      rintro e w3 ⟨⟨ao', m, rfl, hm, ha', hz', ht, hzz⟩, rfl⟩
      have HT := Lib.hid ht
      have HZZ := Lib.hid hzz
      have HAA := Lib.hid ha'
      clear ht hzz ha' hz'
      go_wp2
      go_ret
      refine ⟨ao', m, m, rfl, ⟨zs.take m, trim_sl HSL.out hm HAA.out, HDZ.out.take _, HT.out, ?_⟩, HW.out⟩
      rw [val_take_of_zeros HZZ.out]
      have hlx := HA.out.len
      have hly := HB.out.len
      have hnn := HN.out
      have hv := HVV.out
      rw [List.take_of_length_le (by omega), List.take_of_length_le (by omega)] at hv
      have hvl := val_lt B32_pos HDZ.out
      rw [HL.out] at hvl
      exact comb_end hv HD.out HDL.out hvl

theorem combine_any (ao bo : Option Addr) (la lb ca cb x f y g D : Nat) (F G : Int) (W : World) (ha : N32 W ao la x) (hb : N32 W bo lb y) (hla : la ≤ 1000000000) (hlb : lb ≤ 1000000000)
    (hF : F = (f : Int)) (hG : G = (g : Int)) (hf : f < 4294967296) (hg : g < 4294967296) (hD : f * x = g * y + D) (hDl : D ≤ x ∨ D ≤ y) :
    Calls Try.prog 97 #[.slice ao la ca, .int .u64 F, .slice bo lb cb, .int .u64 G] W (Out32 W D) := by
  have hx := ha.lt
  have hy := hb.lt
  have h1 : B32 ^ la ≤ B32 ^ max la lb := Nat.pow_le_pow_right B32_pos (by omega)
  have h2 : B32 ^ lb ≤ B32 ^ max la lb := Nat.pow_le_pow_right B32_pos (by omega)
  obtain ⟨xs, ha, hda, hta, hva⟩ := ha
  obtain ⟨ys, hb, hdb, htb, hvb⟩ := hb
  exact combine_raw ao bo la lb ca cb _ f g D xs ys F G W ha hb hda hdb hla hlb rfl hF hG hf hg (by rw [hva, hvb]; exact hD) (by omega)
end Go.Proofs.Ytbihgllfllkkaaa

/- window. -/
set_option linter.unusedVariables false
namespace Go.Proofs.Ytbihgllfllkkaaa
open Go.RowKit

theorem win_bits {p x s k : Nat} (hp : p < 18446744073709551616) (hs : s ≤ 64) (hk : k = 64 - s) :
    bits BinOp.or IntKind.u64 ((p : Int) / 2 ^ s) (IntKind.u64.wrap ((x : Int) * 2 ^ k)) = ((p / 2 ^ s + x % 2 ^ s * 2 ^ k : Nat) : Int) := by
  have h64 : 2 ^ s * 2 ^ k = 18446744073709551616 := by rw [hk]; exact pow64_split hs
  have hm : 0 < 2 ^ s := Nat.pow_pos (by decide)
  have e1 : (p : Int) / 2 ^ s = ((p / 2 ^ s : Nat) : Int) := by rw [Int.natCast_ediv, Int.natCast_pow]; rfl
  have e2 : IntKind.u64.wrap ((x : Int) * 2 ^ k) = ((x % 2 ^ s : Nat) : Int) * ((2 ^ k : Nat) : Int) := by
    have h1 : (x : Int) * 2 ^ k = ((x * 2 ^ k : Nat) : Int) := by push_cast; rfl
    have h2 : x * 2 ^ k % 18446744073709551616 = x % 2 ^ s * 2 ^ k := by rw [← h64, Nat.mul_mod_mul_right]
    rw [u64_wrap_mod, h1, ← Int.natCast_mul, ← h2]
    exact (Int.natCast_emod _ _).symm
  rw [e1, e2]
  have hlt : p / 2 ^ s < 2 ^ k := by rw [Nat.div_lt_iff_lt_mul hm, Nat.mul_comm, h64]; exact hp
  have hx : x % 2 ^ s * 2 ^ k < 18446744073709551616 := by
    rw [← h64]; exact Nat.mul_lt_mul_of_pos_right (Nat.mod_lt _ hm) (Nat.pow_pos (by decide))
  exact or_shift (p / 2 ^ s) (x % 2 ^ s) k (2 ^ k) hlt rfl hx (Nat.lt_of_le_of_lt (Nat.div_le_self _ _) hp)

set_option maxRecDepth 8000 in
set_option maxHeartbeats 2000000 in
theorem window_any (ao : Option Addr) (la ca n low : Nat) (I : Int) (W : World) (h : N32 W ao la n) (hI : I = (low : Int)) (hla : la ≤ 1000000000) (hlow : low ≤ 100000000000) :
    Calls Try.prog 83 #[.slice ao la ca, .int .i64 I] W (fun e w' => e = .returned (.int .u64 ((n / 2 ^ low % 18446744073709551616 : Nat) : Int)) ∧ Drew W w') := by
  subst hI
  obtain ⟨xs, hs, hd, ht, hv⟩ := h
  obtain ⟨i, hi⟩ : ∃ i, i = low / 32 := ⟨_, rfl⟩
  obtain ⟨s, hss⟩ : ∃ s, s = low % 32 := ⟨_, rfl⟩
  have hs32 : s < 32 := by omega
  have hlo : low = 32 * i + s := by omega
  have hx0 := hd.get B32_pos i
  have hx1 := hd.get B32_pos (i + 1)
  have hx2 := hd.get B32_pos (i + 2)
  have hwin := win_val hd i s hs32
  rw [← hlo, hv] at hwin
  obtain ⟨x0, e0⟩ : ∃ x, x = xs[i]?.getD 0 := ⟨_, rfl⟩
  obtain ⟨x1, e1⟩ : ∃ x, x = xs[i + 1]?.getD 0 := ⟨_, rfl⟩
  obtain ⟨x2, e2⟩ : ∃ x, x = xs[i + 2]?.getD 0 := ⟨_, rfl⟩
  rw [← e0, ← e1, ← e2] at hwin
  rw [← e0, B32_eq] at hx0
  rw [← e1, B32_eq] at hx1
  rw [← e2, B32_eq] at hx2
  have H := Lib.hid hs
  have E0 := Lib.hid e0
  have E1 := Lib.hid e1
  have E2 := Lib.hid e2
  have HW := Lib.hid hwin
  have t1 : (low : Int).tdiv 32 = (i : Int) := by rw [Int.tdiv_eq_ediv_of_nonneg (Int.natCast_nonneg _)]; omega
  have t2 : (low : Int).tmod 32 = (s : Int) := by rw [Int.tmod_eq_emod_of_nonneg (Int.natCast_nonneg _)]; omega
  have t3 : (low : Int) / 32 = (i : Int) := by omega
  have t4 : (low : Int) % 32 = (s : Int) := by omega
  obtain ⟨k, hk⟩ : ∃ k, k = 64 - s := ⟨_, rfl⟩
  have hk0 : 32 < k := by omega
  have hk1 : k ≤ 64 := by omega
  have t5 : (64 : Int) - (s : Int) = (k : Int) := by omega
  have HK := Lib.hid hk
  have s0 : (0 : Int) ≤ (s : Int) := by omega
  have s1 : (s : Int) < 32 := by omega
  clear hs hd ht hv e0 e1 e2 hwin hi hss hlo hk
  have ho : bits BinOp.or IntKind.u64 (x0 : Int) ((x1 : Int) * 4294967296) = ((x0 + x1 * 4294967296 : Nat) : Int) := or_shift x0 x1 32 4294967296 (by omega) (by decide) (by omega) (by omega)
  obtain ⟨p, hp⟩ : ∃ p, p = x0 + x1 * 4294967296 := ⟨_, rfl⟩
  rw [← hp] at ho
  have hp2 : p < 18446744073709551616 := by omega
  have HP := Lib.hid hp
  clear hp
  go_enter Try.func83, Try.ntmps83
  go_wp2_with fail
  refine (digit_any _ _ _ xs _ i _ H.out rfl).mono ?_
  rw [← E0.out]
  rintro e w2 ⟨rfl, rfl⟩
  go_wp2_with fail
  refine (digit_any _ _ _ xs _ (i + 1) _ H.out (by omega)).mono ?_
  rw [← E1.out]
  rintro e w2 ⟨rfl, rfl⟩
  go_wp2_with fail
  go_quiet ((go_at_call 68; exact digit_quiet _ _ _ xs _ (i + 2) x2 _ _ H.out (by omega) E2.out))
  go_wp2
  go_ret
  refine ⟨ret_int ?_, ⟨nq, rfl⟩⟩
  rw [win_bits hp2 (by omega) HK.out, HW.out, HP.out, HK.out]
end Go.Proofs.Ytbihgllfllkkaaa

/- The integers of num: signed, New, Sign, BitLen, String, Int. -/
set_option linter.unusedVariables false
namespace Go.Proofs.Ytbihgllfllkkaaa
open Go.RowKit

/-- Block g is this, and may be written. -/
def Box (w : World) (g T : Nat) (c : Array Value) : Prop := w.heap[g]? = some (.cells c T (0, 0))

theorem Box.new (W : World) (T : Nat) (c : Array Value) : Box (W.alloc (.cells c T)) W.heap.size T c := heap_alloc_new W _

theorem Box.later {W w1 : World} {T : Nat} {c : Array Value} (hb : Below (W.alloc (.cells c T)).heap.size (W.alloc (.cells c T)) w1) : Box w1 W.heap.size T c :=
  (hb.block _ (by simp)).trans (Box.new W T c)

theorem Box.below {w w' : World} {g T B : Nat} {c : Array Value} (h : Box w g T c) (hb : Below B w w') (hg : g < B) : Box w' g T c := (hb.block g hg).trans h

theorem Box.cell {w : World} {g T : Nat} {c : Array Value} (h : Box w g T c) (i : Nat) : w.cell? ⟨g, i, none⟩ = c[i]? := by
  simp only [World.cell?]
  rw [show w.heap[g]? = _ from h]
  rfl

theorem Box.frozen {w : World} {g T : Nat} {c : Array Value} (h : Box w g T c) (i : Nat) : w.frozen? ⟨g, i, none⟩ = false := by
  simp only [World.frozen?]
  rw [show w.heap[g]? = _ from h]
  simp

theorem Box.set {w : World} {g T : Nat} {c : Array Value} (h : Box w g T c) (i : Nat) (u : Value) : Box (w.setCell ⟨g, i, none⟩ u) g T (c.setIfInBounds i u) := by
  unfold Box
  simp only [World.setCell, Array.getElem?_modify]
  rw [show w.heap[g]? = _ from h]
  simp

def isInt : Value → Bool | .int _ _ => true | _ => false

/-- A slice of numbers does not lie in a block without numbers. -/
theorem Sl.setBox {k : IntKind} {w : World} {ao : Option Addr} {len : Nat} {xs : List Nat} {g T : Nat} {c : Array Value} (h : Sl k w ao len xs) (hb : Box w g T c) (hc : ∀ (i : Nat) (v : Value), c[i]? = some v → isInt v = false) (i : Nat) (u : Value) :
    Sl k (w.setCell ⟨g, i, none⟩ u) ao len xs := by
  obtain ⟨h1, b, off, h2, h3⟩ := h
  refine ⟨h1, b, off, h2, fun j hj => ?_⟩
  have h4 := h3 j hj
  have hne : b ≠ g := by
    intro e
    subst e
    rw [hb.cell] at h4
    have := hc _ _ h4
    simp [isInt] at this
  have e1 : (w.setCell ⟨g, i, none⟩ u).heap[b]? = w.heap[b]? := Below.heap_setCell _ _ _ _ hne
  rw [← h4]
  simp only [World.cell?, e1]

theorem N32.setBox {w : World} {ao : Option Addr} {len n : Nat} {g T : Nat} {c : Array Value} (h : N32 w ao len n) (hb : Box w g T c) (hc : ∀ (i : Nat) (v : Value), c[i]? = some v → isInt v = false) (i : Nat) (u : Value) :
    N32 (w.setCell ⟨g, i, none⟩ u) ao len n := by
  obtain ⟨xs, h1, h2⟩ := h
  exact ⟨xs, h1.setBox hb hc i u, h2⟩

theorem noInt2 {a b : Value} (ha : isInt a = false) (hb : isInt b = false) : ∀ (i : Nat) (v : Value), (#[a, b] : Array Value)[i]? = some v → isInt v = false := by
  intro i v h
  match i, h with
  | 0, h => simp at h; subst h; exact ha
  | 1, h => simp at h; subst h; exact hb
  | i + 2, h => simp at h

theorem N32.set2 {w : World} {ao : Option Addr} {len n : Nat} {g T : Nat} {a b : Value} (h : N32 w ao len n) (hb : Box w g T #[a, b]) (ha : isInt a = false) (hbb : isInt b = false) (u v : Value) (hu : isInt u = false) :
    N32 ((w.setCell ⟨g, 0, none⟩ u).setCell ⟨g, 1, none⟩ v) ao len n :=
  (h.setBox hb (noInt2 ha hbb) 0 u).setBox (c := #[u, b]) (hb.set 0 u) (noInt2 hu hbb) 1 v

def sgn (neg : Bool) (n : Nat) : Int := if neg then -(n : Int) else (n : Int)

/-- a struct with this sign and this slice is the integer z -/
def Z32 (w : World) (neg : Bool) (ao : Option Addr) (len : Nat) (z : Int) : Prop := ∃ n, N32 w ao len n ∧ z = sgn neg n ∧ (neg = true → n ≠ 0)

theorem Z32.keep {w w' : World} {neg : Bool} {ao : Option Addr} {len : Nat} {z : Int} (h : Z32 w neg ao len z) (hb : Below w.heap.size w w') : Z32 w' neg ao len z := by
  obtain ⟨n, h1, h2⟩ := h
  exact ⟨n, h1.keep hb, h2⟩

/-- returned: a struct that is the integer z -/
def OutI (W : World) (z : Int) (e : Ending) (w' : World) : Prop := ∃ neg ao len cap, e = .returned (.agg #[.bool neg, .slice ao len cap]) ∧ Z32 w' neg ao len z ∧ Below W.heap.size W w'

set_option maxHeartbeats 400000 in
theorem signed_any (s : Bool) (ao : Option Addr) (len cap n : Nat) (W : World) (h : N32 W ao len n) :
    Calls Try.prog 39 #[.bool s, .slice ao len cap] W (OutI W (sgn s n)) := by
  have hz := h.zero
  have H := Lib.hid h
  have HZ := Lib.hid hz
  clear h hz
  cases s with
  | false =>
    go_enter Try.func39, Try.ntmps39
    go_wp2
    refine bodyPost_ret (v := .agg #[.bool false, .slice ao len cap]) (by simp [results, Try.results39, go_sem]) rfl ⟨false, ao, len, cap, rfl, ?_, (Below.refl _ _).alloc (Nat.le_refl _) _⟩
    exact ⟨n, H.out.keep ((Below.refl _ _).alloc (Nat.le_refl _) _), rfl, by simp⟩
  | true =>
    by_cases h0 : len = 0
    · subst h0
      go_enter Try.func39, Try.ntmps39
      go_wp2
      refine bodyPost_ret (v := .agg #[.bool false, .slice ao 0 cap]) (by simp [results, Try.results39, go_sem]) rfl ⟨false, ao, 0, cap, rfl, ?_, (Below.refl _ _).alloc (Nat.le_refl _) _⟩
      have hn : n = 0 := by first | exact HZ.out.2 rfl | exact HZ.out.2 trivial
      exact ⟨n, H.out.keep ((Below.refl _ _).alloc (Nat.le_refl _) _), by rw [hn]; rfl, by simp⟩
    · have b1 : (0 : Int) < (len : Int) := by omega
      have hd : decide (0 < len) = true := by simp; omega
      go_enter Try.func39, Try.ntmps39
      go_wp2
      refine bodyPost_ret (v := .agg #[.bool true, .slice ao len cap]) (by simp [results, Try.results39, go_sem]) rfl ⟨true, ao, len, cap, rfl, ?_, (Below.refl _ _).alloc (Nat.le_refl _) _⟩
      exact ⟨n, H.out.keep ((Below.refl _ _).alloc (Nat.le_refl _) _), rfl, fun _ => by have := HZ.out; omega⟩

theorem wrap_neg (n : Nat) (h : n ≤ 9223372036854775808) : IntKind.u64.wrap (-IntKind.u64.wrap (-(n : Int))) = (n : Int) := by
  simp [IntKind.wrap, IntKind.bits, IntKind.signed]
  omega

set_option maxHeartbeats 400000 in
theorem new_any (z : Int) (W : World) (h1 : -9223372036854775808 ≤ z) (h2 : z ≤ 9223372036854775807) :
    Calls Try.prog 24 #[.int .i64 z] W (OutI W z) := by
  by_cases h0 : z < 0
  · obtain ⟨n, rfl⟩ : ∃ n : Nat, z = -(n : Int) := ⟨z.natAbs, by omega⟩
    have hw := Lib.hid (wrap_neg n (by omega))
    go_enter Try.func24, Try.ntmps24
    go_wp2_with fail
    refine (fromWord_any _ n _ hw.out (by omega)).mono ?_
    rintro e w1 ⟨ao, len, cap, rfl, hn1, hb1⟩
    have HN := Lib.hid hn1
    have HB := Lib.hid hb1
    have HX := Lib.hid (Box.later hb1)
    clear hn1 hb1
    go_wp2_with fail
    refine (signed_any true ao len cap n w1 HN.out).mono ?_
    rintro e w2 ⟨neg, ao2, len2, cap2, rfl, ⟨n2, hn2, hz2, hp2⟩, hb2⟩
    have HX2 := Lib.hid (HX.out.below hb2 (by have := HX.out; exact (Array.getElem?_eq_some_iff.1 this).1))
    have hc0 := HX2.out.cell 0
    have hc1 := HX2.out.cell 1
    have hf0 := HX2.out.frozen 0
    have hf1 := HX2.out.frozen 1
    have HN2 := Lib.hid hn2
    have HB2 := Lib.hid hb2
    have HZ2 := Lib.hid hz2
    have HP2 := Lib.hid hp2
    clear hn2 hb2 hz2 hp2
    go_wp2
    have e0 := ((HX2.out.set 0 (.bool neg)).set 1 (.slice ao2 len2 cap2)).cell 0
    have e1 := ((HX2.out.set 0 (.bool neg)).set 1 (.slice ao2 len2 cap2)).cell 1
    have hlt := HX.out
    refine bodyPost_ret (v := .agg #[.bool neg, .slice ao2 len2 cap2]) (by simp [results, Try.results24, go_sem, e0, e1]) rfl ⟨neg, ao2, len2, cap2, rfl, ⟨n2, HN2.out.set2 HX2.out rfl rfl _ _ rfl, HZ2.out, HP2.out⟩, ?_⟩
    have hb := below_then ((Below.refl W.heap.size W).alloc (Nat.le_refl _) _) (HB.out.trans (HB2.out.mono HB.out.size))
    exact (hb.setCell (Nat.le_refl _) _).setCell (Nat.le_refl _) _
  · obtain ⟨n, rfl⟩ : ∃ n : Nat, z = (n : Int) := ⟨z.toNat, by omega⟩
    have b1 : (n : Int) ≤ 9223372036854775807 := h2
    go_enter Try.func24, Try.ntmps24
    go_wp2_with fail
    refine (fromWord_any _ n _ rfl (by omega)).mono ?_
    rintro e w1 ⟨ao, len, cap, rfl, hn1, hb1⟩
    have HN := Lib.hid hn1
    have HB := Lib.hid hb1
    have HX := Lib.hid (Box.later hb1)
    clear hn1 hb1
    go_wp2_with fail
    refine (signed_any false ao len cap n w1 HN.out).mono ?_
    rintro e w2 ⟨neg, ao2, len2, cap2, rfl, ⟨n2, hn2, hz2, hp2⟩, hb2⟩
    have HX2 := Lib.hid (HX.out.below hb2 (by have := HX.out; exact (Array.getElem?_eq_some_iff.1 this).1))
    have hc0 := HX2.out.cell 0
    have hc1 := HX2.out.cell 1
    have hf0 := HX2.out.frozen 0
    have hf1 := HX2.out.frozen 1
    have HN2 := Lib.hid hn2
    have HB2 := Lib.hid hb2
    have HZ2 := Lib.hid hz2
    have HP2 := Lib.hid hp2
    clear hn2 hb2 hz2 hp2
    go_wp2
    have e0 := ((HX2.out.set 0 (.bool neg)).set 1 (.slice ao2 len2 cap2)).cell 0
    have e1 := ((HX2.out.set 0 (.bool neg)).set 1 (.slice ao2 len2 cap2)).cell 1
    refine bodyPost_ret (v := .agg #[.bool neg, .slice ao2 len2 cap2]) (by simp [results, Try.results24, go_sem, e0, e1]) rfl ⟨neg, ao2, len2, cap2, rfl, ⟨n2, HN2.out.set2 HX2.out rfl rfl _ _ rfl, HZ2.out, HP2.out⟩, ?_⟩
    have hb := below_then ((Below.refl W.heap.size W).alloc (Nat.le_refl _) _) (HB.out.trans (HB2.out.mono HB.out.size))
    exact (hb.setCell (Nat.le_refl _) _).setCell (Nat.le_refl _) _

set_option maxHeartbeats 400000 in
theorem sign_any (neg : Bool) (ao : Option Addr) (len cap : Nat) (z : Int) (W : World) (h : Z32 W neg ao len z) :
    Calls Try.prog 21 #[.agg #[.bool neg, .slice ao len cap]] W (fun e w' => e = .returned (.int .i64 z.sign) ∧ Below W.heap.size W w') := by
  obtain ⟨n, hn, hz, hp⟩ := h
  have h0 := hn.zero
  cases neg with
  | true =>
    have hs : z.sign = -1 := by
      have := hp rfl
      rw [hz]
      apply Int.sign_eq_neg_one_of_neg
      simp only [sgn, if_true]
      omega
    rw [hs]
    clear hn hz hp h0 hs
    go_enter Try.func21, Try.ntmps21
    go_wp2
    go_ret
    exact ⟨rfl, (Below.refl _ _).alloc (Nat.le_refl _) _⟩
  | false =>
    by_cases hl : 0 < len
    · have hs : z.sign = 1 := by
        rw [hz]
        apply Int.sign_eq_one_of_pos
        show (0 : Int) < (n : Int)
        omega
      rw [hs]
      have b1 : (0 : Int) < (len : Int) := by omega
      clear hn hz hp h0 hs
      go_enter Try.func21, Try.ntmps21
      go_wp2
      go_ret
      exact ⟨rfl, (Below.refl _ _).alloc (Nat.le_refl _) _⟩
    · have hs : z.sign = 0 := by
        rw [hz, show n = 0 by omega]; rfl
      rw [hs]
      have b1 : ¬ (0 : Int) < (len : Int) := by omega
      clear hn hz hp h0 hs
      go_enter Try.func21, Try.ntmps21
      go_wp2
      go_ret
      exact ⟨rfl, (Below.refl _ _).alloc (Nat.le_refl _) _⟩
end Go.Proofs.Ytbihgllfllkkaaa

/- plus, times. -/
set_option linter.unusedVariables false
namespace Go.Proofs.Ytbihgllfllkkaaa
open Go.RowKit

/-- Two boxed structs and a new cell pair, behind them. -/
structure Boxes (W W3 : World) (T : Nat) (a b : Value) (c d : Value) (e f : Value) : Prop where
  b2 : Box W3 W.heap.size T #[a, b]
  b3 : Box W3 (W.heap.size + 1) T #[c, d]
  b4 : Box W3 (W.heap.size + 2) T #[e, f]
  below : Below W.heap.size W W3
  size : W3.heap.size = W.heap.size + 3

theorem boxes (W : World) (T : Nat) (a b c d e f : Value) : Boxes W (((W.alloc (.cells #[a, b] T)).alloc (.cells #[c, d] T)).alloc (.cells #[e, f] T)) T a b c d e f := by
  have h1 := Box.new W T #[a, b]
  have h2 := Box.new (W.alloc (.cells #[a, b] T)) T #[c, d]
  have h3 := Box.new ((W.alloc (.cells #[a, b] T)).alloc (.cells #[c, d] T)) T #[e, f]
  have k1 : ∀ (w : World) (g : Nat) (x : Array Value) (o : Obj), Box w g T x → Box (w.alloc o) g T x := fun w g x o h => (Below.heap_alloc w o g (Array.getElem?_eq_some_iff.1 h).1).trans h
  simp only [World.size_alloc] at h2 h3
  exact ⟨k1 _ _ _ _ (k1 _ _ _ _ h1), k1 _ _ _ _ h2, h3, (((Below.refl _ _).alloc (Nat.le_refl _) _).alloc (by simp) _).alloc (by simp; omega) _, by simp⟩

theorem Boxes.later {W W3 w' : World} {T : Nat} {a b c d e f : Value} (h : Boxes W W3 T a b c d e f) (hb : Below W3.heap.size W3 w') : 
    Box w' W.heap.size T #[a, b] ∧ Box w' (W.heap.size + 1) T #[c, d] ∧ Box w' (W.heap.size + 2) T #[e, f] :=
  ⟨h.b2.below hb (by have := h.size; omega), h.b3.below hb (by have := h.size; omega), h.b4.below hb (by have := h.size; omega)⟩

theorem Boxes.facts {W W3 w' : World} {T : Nat} {a b c d e f : Value} (h : Boxes W W3 T a b c d e f) (hb : Below W3.heap.size W3 w') :
    w'.cell? ⟨W.heap.size, 0, none⟩ = some a ∧ w'.cell? ⟨W.heap.size, 1, none⟩ = some b ∧ w'.cell? ⟨W.heap.size + 1, 0, none⟩ = some c ∧ w'.cell? ⟨W.heap.size + 1, 1, none⟩ = some d := by
  obtain ⟨h1, h2, h3⟩ := h.later hb
  exact ⟨h1.cell 0, h1.cell 1, h2.cell 0, h2.cell 1⟩

theorem Boxes.own {W W3 w' : World} {T : Nat} {a b c d e f : Value} (h : Boxes W W3 T a b c d e f) (hb : Below W3.heap.size W3 w') :
    w'.cell? ⟨W.heap.size + 2, 0, none⟩ = some e ∧ w'.cell? ⟨W.heap.size + 2, 1, none⟩ = some f ∧ w'.frozen? ⟨W.heap.size + 2, 0, none⟩ = false ∧ w'.frozen? ⟨W.heap.size + 2, 1, none⟩ = false := by
  obtain ⟨h1, h2, h3⟩ := h.later hb
  exact ⟨h3.cell 0, h3.cell 1, h3.frozen 0, h3.frozen 1⟩

theorem below_of_drew {w w1 : World} (h : Below w.drew.heap.size w.drew w1) : Below w.heap.size w w1 := (Below.refl _ _).drew.trans h

/-- the end: the result is stored in its cell pair -/
theorem Boxes.fin {W W3 w2 : World} {T : Nat} {a b c d : Value} {eb neg : Bool} {fo ao : Option Addr} {fl fc len cap : Nat} {z : Int} (h : Boxes W W3 T a b c d (.bool eb) (.slice fo fl fc)) (hb : Below W3.heap.size W3 w2) (hz : Z32 w2 neg ao len z) :
    let w' := (w2.setCell ⟨W.heap.size + 2, 0, none⟩ (.bool neg)).setCell ⟨W.heap.size + 2, 1, none⟩ (.slice ao len cap)
    w'.cell? ⟨W.heap.size + 2, 0, none⟩ = some (.bool neg) ∧ w'.cell? ⟨W.heap.size + 2, 1, none⟩ = some (.slice ao len cap) ∧ Z32 w' neg ao len z ∧ Below W.heap.size W w' := by
  obtain ⟨h1, h2, h3⟩ := h.later hb
  obtain ⟨n, hn, hz⟩ := hz
  have k := (h3.set 0 (.bool neg)).set 1 (.slice ao len cap)
  refine ⟨k.cell 0, k.cell 1, ⟨n, hn.set2 h3 rfl rfl _ _ rfl, hz⟩, ?_⟩
  have hbb := h.below.trans (hb.mono (by have := h.size; omega))
  exact (hbb.setCell (by simp) _).setCell (by simp) _

theorem cell_set2 (w : World) (g b o : Nat) (u v : Value) (h : b ≠ g) : ((w.setCell ⟨g, 0, none⟩ u).setCell ⟨g, 1, none⟩ v).cell? ⟨b, o, none⟩ = w.cell? ⟨b, o, none⟩ := by
  have e : ((w.setCell ⟨g, 0, none⟩ u).setCell ⟨g, 1, none⟩ v).heap[b]? = w.heap[b]? := by
    rw [Below.heap_setCell _ _ _ _ h, Below.heap_setCell _ _ _ _ h]
  simp only [World.cell?, e]

theorem sgn_mul (a b : Bool) (m n : Nat) : sgn a m * sgn b n = sgn (a != b) (m * n) := by
  cases a <;> cases b <;> simp [sgn, Int.neg_mul, Int.mul_neg]

set_option maxHeartbeats 2000000 in
theorem times_any (na nb : Bool) (ao bo : Option Addr) (la lb ca cb : Nat) (x y : Int) (W : World) (ha : Z32 W na ao la x) (hb : Z32 W nb bo lb y) (hla : la ≤ 1000000000) (hlb : lb ≤ 1000000000) :
    Calls Try.prog 53 #[.agg #[.bool na, .slice ao la ca], .agg #[.bool nb, .slice bo lb cb]] W (OutI W (x * y)) := by
  obtain ⟨m, hm, rfl, hpm⟩ := ha
  obtain ⟨n, hn, rfl, hpn⟩ := hb
  have HM := Lib.hid hm
  have HN := Lib.hid hn
  have HE := Lib.hid (sgn_mul na nb m n)
  rw [HE.out]
  clear hm hn hpm hpn
  go_enter Try.func53, Try.ntmps53
  go_wp2_with fail
  have hbx := boxes W 31 (.bool na) (.slice ao la ca) (.bool nb) (.slice bo lb cb) (.bool false) (.slice none 0 0)
  obtain ⟨W3, hW3⟩ : ∃ W3, W3 = ((W.alloc (.cells #[.bool na, .slice ao la ca] 31)).alloc (.cells #[.bool nb, .slice bo lb cb] 31)).alloc (.cells #[.bool false, .slice none 0 0] 31) := ⟨_, rfl⟩
  rw [← hW3] at hbx ⊢
  clear hW3
  have HX := Lib.hid hbx
  have c0 := hbx.b2.cell 0
  have c1 := hbx.b2.cell 1
  have c2 := hbx.b3.cell 0
  have c3 := hbx.b3.cell 1
  simp only [List.getElem?_toArray, List.getElem?_cons_zero, List.getElem?_cons_succ] at c0 c1 c2 c3
  have HM3 := Lib.hid (HM.out.keep hbx.below)
  have HN3 := Lib.hid (HN.out.keep hbx.below)
  clear hbx
  go_region_held3 (fun w' => w'.cell? ⟨W.heap.size, 0, none⟩ = some (.bool na) ∧ w'.cell? ⟨W.heap.size, 1, none⟩ = some (.slice ao la ca) ∧ w'.cell? ⟨W.heap.size + 1, 0, none⟩ = some (.bool nb) ∧ w'.cell? ⟨W.heap.size + 1, 1, none⟩ = some (.slice bo lb cb)) (first | (go_keep; done) | ((try dsimp only); (repeat' apply And.intro) <;> (first | (go_keep; done) | (rw [cell_set2 _ _ _ _ _ _ (by omega)]; assumption))))
    (first | (go_at_call 59; refine (product_any _ _ _ _ _ _ m n _ (HM3.out.drewN 1) (HN3.out.drewN 1) hla hlb).mono ?_; rintro e w1 ⟨po, pl, pc, rfl, hp, hb1⟩; have HB1 := Lib.hid (below_of_drew hb1); have HP := Lib.hid hp; clear hb1 hp; obtain ⟨k0, k1, k2, k3⟩ := HX.out.facts HB1.out) | (go_at_call 39; refine (signed_any _ _ _ _ (m * n) _ HP.out).mono ?_; rintro e w2 ⟨neg, so, sl, sc, rfl, hz, hb2⟩; have HB2 := Lib.hid (HB1.out.trans (hb2.mono HB1.out.size)); have HZ := Lib.hid hz; clear hb2 hz; obtain ⟨j0, j1, j2, j3⟩ := HX.out.facts HB2.out; obtain ⟨i0, i1, i2, i3⟩ := HX.out.own HB2.out))
  go_wp2
  obtain ⟨e0, e1, hz, hbel⟩ := HX.out.fin (neg := neg) (ao := so) (len := sl) (cap := sc) HB2.out HZ.out
  exact bodyPost_ret (v := .agg #[.bool neg, .slice so sl sc]) (by simp [results, Try.results53, go_sem, e0, e1]) rfl ⟨neg, so, sl, sc, rfl, hz, hbel⟩
end Go.Proofs.Ytbihgllfllkkaaa

/- BitLen, String, Int of num's integers; commonWord; commonDivisor of small numbers. -/
set_option linter.unusedVariables false
namespace Go.Proofs.Ytbihgllfllkkaaa
open Go.RowKit

def numeralZ (z : Int) : List UInt8 := if z < 0 then 45 :: numeral z.natAbs else numeral z.natAbs

theorem sgn_natAbs (s : Bool) (n : Nat) : (sgn s n).natAbs = n := by cases s <;> simp [sgn]

theorem numeralZ_neg {n : Nat} (h : n ≠ 0) : numeralZ (sgn true n) = 45 :: numeral n := by
  unfold numeralZ
  rw [sgn_natAbs, if_pos]
  simp only [sgn, if_true]; omega

theorem numeralZ_pos (n : Nat) : numeralZ (sgn false n) = numeral n := by
  unfold numeralZ
  rw [sgn_natAbs, if_neg]
  have : sgn false n = (n : Int) := rfl
  omega

theorem bytes_append (a b : List UInt8) : (⟨a.toArray⟩ ++ ⟨b.toArray⟩ : ByteArray) = ⟨(a ++ b).toArray⟩ := by
  apply ByteArray.ext
  rw [ByteArray.data_append]
  simp

theorem low_len {n k : Nat} (hn : n < B32 ^ k) : (low n).length ≤ 32 * k + 1 := by
  obtain ⟨h1, h2, h3⟩ := lowF_spec n n (Nat.le_refl _)
  by_cases h0 : low n = []
  · simp [h0]
  · have h4 := val_ge (B := 10) h2 h0
    rw [show val 10 (lowF n n) = n from h3] at h4
    have := text_len h4 hn
    unfold low at *
    omega

theorem numeral_len {n k : Nat} (hn : n < B32 ^ k) : (numeral n).length ≤ 32 * k + 1 := by
  unfold numeral
  split
  · simp
  · have := low_len hn
    simpa [chars] using this

theorem box_below (W : World) (T : Nat) (c : Array Value) : Below W.heap.size W (W.alloc (.cells c T)) := (Below.refl _ _).alloc (Nat.le_refl _) _

set_option maxHeartbeats 400000 in
theorem bitLen_any (neg : Bool) (ao : Option Addr) (len cap : Nat) (z : Int) (W : World) (h : Z32 W neg ao len z) (hl : len ≤ 1000000000) :
    Calls Try.prog 22 #[.agg #[.bool neg, .slice ao len cap]] W (fun e w' => e = .returned (.int .i64 (blen z.natAbs : Nat)) ∧ Below W.heap.size W w') := by
  obtain ⟨n, hn, rfl, hp⟩ := h
  rw [sgn_natAbs]
  have HN := Lib.hid (hn.keep (box_below W 31 #[.bool neg, .slice ao len cap]))
  clear hn hp
  go_enter Try.func22, Try.ntmps22
  go_wp2_with (go_at_call 54; refine (bitLength_any _ _ _ n _ HN.out hl).mono ?_; rintro e w1 ⟨rfl, rfl⟩)
  go_ret
  exact ⟨rfl, box_below _ _ _⟩

set_option maxHeartbeats 800000 in
theorem string_any (neg : Bool) (ao : Option Addr) (len cap : Nat) (z : Int) (W : World) (h : Z32 W neg ao len z) (hl : len ≤ 1000000000) :
    Calls Try.prog 11 #[.agg #[.bool neg, .slice ao len cap]] W (StrPost (numeralZ z) W) := by
  obtain ⟨n, hn, rfl, hp⟩ := h
  have HN := Lib.hid (hn.keep (box_below W 31 #[.bool neg, .slice ao len cap]))
  have HP := Lib.hid hp
  have hnl := numeral_len hn.lt
  have hnl2 : ¬ 9223372036854775807 < 1 + (numeral n).length := by omega
  clear hn hp hnl
  cases neg with
  | true =>
    have HE := Lib.hid (numeralZ_neg (HP.out rfl))
    rw [HE.out]
    go_enter Try.func11, Try.ntmps11
    go_wp2_with fail
    refine (writeDigits_any _ _ _ n _ HN.out hl).mono ?_
    rintro e w1 ⟨rfl, hb⟩
    have HB := Lib.hid hb
    have hx := Box.later hb
    have c0 : w1.cell? ⟨W.heap.size, 0, none⟩ = some (.bool true) := hx.cell 0
    clear hb hx
    go_wp2
    go_ret
    refine ⟨?_, below_then (box_below _ _ _) HB.out⟩
    have := bytes_append [45] (numeral n)
    exact congrArg (fun x => Ending.returned (Value.string x)) this
  | false =>
    have HE := Lib.hid (numeralZ_pos n)
    rw [HE.out]
    go_enter Try.func11, Try.ntmps11
    go_wp2_with fail
    refine (writeDigits_any _ _ _ n _ HN.out hl).mono ?_
    rintro e w1 ⟨rfl, hb⟩
    have HB := Lib.hid hb
    have hx := Box.later hb
    have c0 : w1.cell? ⟨W.heap.size, 0, none⟩ = some (.bool false) := hx.cell 0
    clear hb hx
    go_wp2
    go_ret
    exact ⟨rfl, below_then (box_below _ _ _) HB.out⟩

def IntPost (z : Int) (W : World) (e : Ending) (w' : World) : Prop :=
  e = .returned (if -9223372036854775808 ≤ z ∧ z ≤ 9223372036854775807 then .tuple #[.int .i64 z, .bool true] else .tuple #[.int .i64 0, .bool false]) ∧ Below W.heap.size W w'

end Go.Proofs.Ytbihgllfllkkaaa

/- commonWord; commonDivisor of numbers of at most two digits. -/
set_option linter.unusedVariables false
namespace Go.Proofs.Ytbihgllfllkkaaa
open Go.RowKit

set_option maxHeartbeats 800000 in
theorem commonWord_any (A B : Int) (a b : Nat) (W : World) (hA : A = (a : Int)) (hB : B = (b : Int)) (ha : a < 18446744073709551616) (hb : b < 18446744073709551616) :
    Calls Try.prog 85 #[.int .u64 A, .int .u64 B] W (fun e w' => e = .returned (.int .u64 (Nat.gcd a b : Nat)) ∧ Drew W w') := by
  subst hA hB
  go_enter Try.func85, Try.ntmps85
  go_wp2
  go_loopw [0, 1] (fun xv yv wr => ∃ x y : Nat, xv = .int .u64 (x : Int) ∧ yv = .int .u64 (y : Int) ∧ x < 18446744073709551616 ∧ y < 18446744073709551616 ∧ Nat.gcd x y = Nat.gcd a b ∧ Drew W wr) (fun xv yv _ => (intOf yv).toNat)
  case atStart => exact ⟨a, b, rfl, rfl, ha, hb, rfl, Drew.refl _⟩
  case round =>
    obtain ⟨x, y, rfl, rfl, hx, hy, hg, hw⟩ := hrel
    have HG := Lib.hid hg
    have HW := Lib.hid hw
    clear hg hw
    by_cases hy0 : y = 0
    · subst hy0
      go_wp2
      go_ret
      have := HG.out
      rw [Nat.gcd_zero_right] at this
      exact ⟨ret_int (by rw [this]), HW.out⟩
    · have t1 : (0 : Int) < (y : Int) := by omega
      have hr : (x : Int).tmod (y : Int) = ((x % y : Nat) : Int) := (Int.ofNat_tmod _ _).symm
      have hr2 : x % y < y := Nat.mod_lt _ (by omega)
      have HR := Lib.hid hr
      clear hr
      go_wp2
      go_quiet (fail)
      go_wp2
      go_roundw
      case rel =>
        refine ⟨y, x % y, rfl, by first | rfl | exact congrArg (Value.int _) (by omega), hy, by omega, ?_, HW.out.more _⟩
        rw [← HG.out, Nat.gcd_comm x y, Nat.gcd_rec y x, Nat.gcd_comm]
      case measure => simp only [intOf]; omega

/-- duplicate, said of the number -/
def DupN (len n : Nat) (W : World) (e : Ending) (w' : World) : Prop := ∃ ao cap, e = .returned (.slice ao len cap) ∧ N32 w' ao len n ∧ Below W.heap.size W w'

theorem duplicate_n (ao : Option Addr) (len cap n : Nat) (W : World) (h : N32 W ao len n) (hl : len ≤ 1000000000) :
    Calls Try.prog 51 #[.slice ao len cap] W (DupN len n W) := by
  obtain ⟨xs, hs, hd, ht, hv⟩ := h
  refine (duplicate_any ao len cap xs W hs hl).mono fun e w' h => ?_
  rcases h with ⟨h1, h2, h3⟩ | ⟨h1, h2, h3, h4, h5⟩
  · subst h1 h3
    exact ⟨none, 0, h2, ⟨xs, ⟨hs.len, 0, 0, fun h => absurd h (Nat.lt_irrefl _), fun i hi => absurd hi (Nat.not_lt_zero _)⟩, hd, ht, hv⟩, Below.refl _ _⟩
  · exact ⟨_, len, h2, ⟨xs, h3.whole hs.len, hd, ht, hv⟩, h4⟩

def GcdOk (m n : Nat) : Prop := ∀ (ao bo : Option Addr) (la lb ca cb : Nat) (W : World), N32 W ao la m → N32 W bo lb n → la ≤ 1000000000 → lb ≤ 1000000000 →
  Calls Try.prog 50 #[.slice ao la ca, .slice bo lb cb] W (Out32 W (Nat.gcd m n))

theorem small2 {m : Nat} (h : m < 18446744073709551616) : m < B32 ^ 2 := by
  have : B32 ^ 2 = 18446744073709551616 := by decide
  omega

theorem blen_small {m : Nat} (h : m < 18446744073709551616) : blen m ≤ 64 := blen_le.2 h

set_option maxHeartbeats 2000000 in
theorem gcd_easy (m n : Nat) (hm : m < 18446744073709551616) (hn : n < 18446744073709551616) : GcdOk m n := by
  intro ao bo la lb ca cb W ha hb hla hlb
  have hla2 : la ≤ 2 := ha.len_le (small2 hm)
  have hlb2 : lb ≤ 2 := hb.len_le (small2 hn)
  have HA := Lib.hid ha
  have HB := Lib.hid hb
  clear ha hb
  have hbm : (blen m : Int) ≤ 64 := by have := blen_small hm; omega
  have hbn : (blen n : Int) ≤ 64 := by have := blen_small hn; omega
  go_enter Try.func50, Try.ntmps50
  go_wp2_with fail
  refine (duplicate_n _ _ _ m _ HA.out hla).mono ?_
  rintro e w1 ⟨ao1, ca1, rfl, ha1, hb1⟩
  have HA1 := Lib.hid ha1
  have HW1 := Lib.hid hb1
  clear ha1 hb1
  go_wp2_with fail
  refine (duplicate_n _ _ _ n _ (HB.out.keep HW1.out) hlb).mono ?_
  rintro e w2 ⟨bo2, cb2, rfl, hb2, hw2⟩
  have HA2 := Lib.hid (HA1.out.keep hw2)
  have HB2 := Lib.hid hb2
  have HW2 := Lib.hid (below_then HW1.out hw2)
  clear hb2 hw2
  go_wp2_with fail
  refine (compare_any _ _ _ _ _ _ m n _ HA2.out HB2.out hla hlb).mono ?_
  rintro e w3 ⟨rfl, hd3⟩
  have HA3 := Lib.hid (HA2.out.keep hd3.below)
  have HB3 := Lib.hid (HB2.out.keep hd3.below)
  have HW3 := Lib.hid (HW2.out.trans (hd3.below))
  clear hd3
  by_cases hmn : m < n
  · rw [cmpN_lt hmn]
    have hlb0 : lb ≠ 0 := by have := HB3.out.zero; omega
    have hlbi : ((lb : Int) == 0) = false := by simp; omega
    go_wp2_with fail
    refine wp_loop_once ?_
    by_cases hl0 : la = 0
    · obtain rfl : m = 0 := HA3.out.zero.2 hl0
      subst hl0
      go_wp2_with (go_at_call 54; refine (bitLength_any _ _ _ n _ HB3.out hlb).mono ?_; rintro e w4 ⟨rfl, rfl⟩)
      go_ret
      exact ⟨bo2, lb, cb2, rfl, by rw [Nat.gcd_zero_left]; exact HB3.out, HW3.out⟩
    · have b1 : (0 : Int) < (la : Int) := by omega
      have b2 : ((la : Int) == 0) = false := by simp; omega
      go_wp2_with fail
      refine (bitLength_any _ _ _ n _ HB3.out hlb).mono ?_
      rintro e w4 ⟨rfl, rfl⟩
      go_wp2_with fail
      refine (toWord_any _ _ _ n _ HB3.out hlb2).mono ?_
      rintro e w5 ⟨rfl, rfl⟩
      go_wp2_with fail
      refine (toWord_any _ _ _ m _ HA3.out hla2).mono ?_
      rintro e w6 ⟨rfl, rfl⟩
      go_wp2_with fail
      refine (commonWord_any _ _ n m _ rfl rfl hn hm).mono ?_
      rintro e w7 ⟨rfl, hd7⟩
      go_wp2_with fail
      refine (fromWord_any _ (Nat.gcd n m) _ rfl (Nat.le_trans (Nat.gcd_le_left m (by omega)) (by omega))).mono ?_
      rintro e w8 ⟨ro, rl, rc, rfl, hr, hb8⟩
      go_wp2
      go_ret
      exact ⟨ro, rl, rc, rfl, by rw [Nat.gcd_comm]; exact hr, below_then (HW3.out.trans hd7.below) hb8⟩
  · by_cases he : m = n
    · rw [cmpN_eq he]
      clear he
      by_cases hl0 : lb = 0
      · obtain rfl : n = 0 := HB3.out.zero.2 hl0
        subst hl0
        go_wp2_with fail
        refine wp_loop_once ?_
        go_wp2
        go_ret
        exact ⟨ao1, la, ca1, rfl, by rw [Nat.gcd_zero_right]; exact HA3.out, HW3.out⟩
      · have b1 : (0 : Int) < (lb : Int) := by omega
        have b2 : ((lb : Int) == 0) = false := by simp; omega
        go_wp2_with fail
        refine wp_loop_once ?_
        go_wp2_with fail
        refine (bitLength_any _ _ _ m _ HA3.out hla).mono ?_
        rintro e w4 ⟨rfl, rfl⟩
        go_wp2_with fail
        refine (toWord_any _ _ _ m _ HA3.out hla2).mono ?_
        rintro e w5 ⟨rfl, rfl⟩
        go_wp2_with fail
        refine (toWord_any _ _ _ n _ HB3.out hlb2).mono ?_
        rintro e w6 ⟨rfl, rfl⟩
        go_wp2_with fail
        refine (commonWord_any _ _ m n _ rfl rfl hm hn).mono ?_
        rintro e w7 ⟨rfl, hd7⟩
        go_wp2_with fail
        refine (fromWord_any _ (Nat.gcd m n) _ rfl (Nat.le_trans (Nat.gcd_le_right m (by have := HB3.out.zero; omega)) (by omega))).mono ?_
        rintro e w8 ⟨ro, rl, rc, rfl, hr, hb8⟩
        go_wp2
        go_ret
        exact ⟨ro, rl, rc, rfl, hr, below_then (HW3.out.trans hd7.below) hb8⟩
    · rw [cmpN_gt (show n < m by omega)]
      by_cases hl0 : lb = 0
      · obtain rfl : n = 0 := HB3.out.zero.2 hl0
        subst hl0
        go_wp2_with fail
        refine wp_loop_once ?_
        go_wp2
        go_ret
        exact ⟨ao1, la, ca1, rfl, by rw [Nat.gcd_zero_right]; exact HA3.out, HW3.out⟩
      · have b1 : (0 : Int) < (lb : Int) := by omega
        have b2 : ((lb : Int) == 0) = false := by simp; omega
        go_wp2_with fail
        refine wp_loop_once ?_
        go_wp2_with fail
        refine (bitLength_any _ _ _ m _ HA3.out hla).mono ?_
        rintro e w4 ⟨rfl, rfl⟩
        go_wp2_with fail
        refine (toWord_any _ _ _ m _ HA3.out hla2).mono ?_
        rintro e w5 ⟨rfl, rfl⟩
        go_wp2_with fail
        refine (toWord_any _ _ _ n _ HB3.out hlb2).mono ?_
        rintro e w6 ⟨rfl, rfl⟩
        go_wp2_with fail
        refine (commonWord_any _ _ m n _ rfl rfl hm hn).mono ?_
        rintro e w7 ⟨rfl, hd7⟩
        go_wp2_with fail
        refine (fromWord_any _ (Nat.gcd m n) _ rfl (Nat.le_trans (Nat.gcd_le_right m (by have := HB3.out.zero; omega)) (by omega))).mono ?_
        rintro e w8 ⟨ro, rl, rc, rfl, hr, hb8⟩
        go_wp2
        go_ret
        exact ⟨ro, rl, rc, rfl, hr, below_then (HW3.out.trans hd7.below) hb8⟩
end Go.Proofs.Ytbihgllfllkkaaa

/- A call's own blocks, by their numbers behind the heap's size at its start. -/
set_option linter.unusedVariables false
namespace Go.Proofs.Ytbihgllfllkkaaa
open Go.RowKit

/-- W: the world at the call's start; w: later; the first blocks that the call made hold bs. -/
structure Fr (W w : World) (bs : List (Nat × Array Value)) : Prop where
  below : Below W.heap.size W w
  size : W.heap.size + bs.length ≤ w.heap.size
  box : ∀ i T c, bs[i]? = some (T, c) → Box w (W.heap.size + i) T c

theorem Fr.nil (W : World) : Fr W W [] := ⟨Below.refl _ _, Nat.le_refl _, fun i T c h => by simp at h⟩

theorem Fr.later {W w w' : World} {bs : List (Nat × Array Value)} (h : Fr W w bs) (hb : Below w.heap.size w w') : Fr W w' bs := by
  refine ⟨h.below.trans (hb.mono h.below.size), Nat.le_trans h.size hb.size, fun i T c hi => ?_⟩
  have hl := (List.getElem?_eq_some_iff.1 hi).1
  exact (h.box i T c hi).below hb (by have := h.size; omega)

theorem Fr.alloc {W w : World} {bs : List (Nat × Array Value)} (h : Fr W w bs) (hs : w.heap.size = W.heap.size + bs.length) (T : Nat) (c : Array Value) : Fr W (w.alloc (.cells c T)) (bs ++ [(T, c)]) := by
  refine ⟨h.below.alloc h.below.size _, by simp; omega, fun i T' c' hi => ?_⟩
  by_cases hl : i < bs.length
  · rw [List.getElem?_append_left hl] at hi
    have hb := h.box i T' c' hi
    exact (Below.heap_alloc w _ _ (Array.getElem?_eq_some_iff.1 hb).1).trans hb
  · rw [List.getElem?_append_right (by omega)] at hi
    have h0 : i - bs.length = 0 := by
      have := (List.getElem?_eq_some_iff.1 hi).1
      simp at this
      omega
    rw [h0] at hi
    simp at hi
    obtain ⟨rfl, rfl⟩ := hi
    have e : W.heap.size + i = w.heap.size := by omega
    rw [e]
    exact Box.new w _ _

theorem Fr.drew {W w : World} {bs : List (Nat × Array Value)} (h : Fr W w bs) : Fr W w.drew bs := ⟨h.below.drew, h.size, h.box⟩

theorem Fr.cell {W w : World} {bs : List (Nat × Array Value)} (h : Fr W w bs) (i j : Nat) {T : Nat} {c : Array Value} {v : Value} (hi : bs[i]? = some (T, c)) (hj : c[j]? = some v) : w.cell? ⟨W.heap.size + i, j, none⟩ = some v :=
  ((h.box i T c hi).cell j).trans hj

theorem Fr.frozen {W w : World} {bs : List (Nat × Array Value)} (h : Fr W w bs) (i j : Nat) {T : Nat} {c : Array Value} (hi : bs[i]? = some (T, c)) : w.frozen? ⟨W.heap.size + i, j, none⟩ = false :=
  (h.box i T c hi).frozen j

theorem Fr.set {W w : World} {bs : List (Nat × Array Value)} (h : Fr W w bs) (i j : Nat) {T : Nat} {c : Array Value} (hi : bs[i]? = some (T, c)) (u : Value) : Fr W (w.setCell ⟨W.heap.size + i, j, none⟩ u) (bs.set i (T, c.setIfInBounds j u)) := by
  refine ⟨h.below.setCell (by simp) _, by simpa using h.size, fun k T' c' hk => ?_⟩
  rw [List.getElem?_set] at hk
  have hl := (List.getElem?_eq_some_iff.1 hi).1
  by_cases hik : i = k
  · subst hik
    rw [if_pos rfl, if_pos hl] at hk
    simp only [Option.some.injEq, Prod.mk.injEq] at hk
    obtain ⟨rfl, rfl⟩ := hk
    exact (h.box i T c hi).set j u
  · rw [if_neg hik] at hk
    refine (Below.heap_setCell _ _ _ _ ?_).trans (h.box k T' c' hk)
    simp; omega

/-- no number among these -/
def noInts (c : Array Value) : Bool := c.toList.all fun v => !isInt v

theorem noInts_get {c : Array Value} (h : noInts c = true) : ∀ (i : Nat) (v : Value), c[i]? = some v → isInt v = false := by
  intro i v hv
  have h2 := List.all_eq_true.1 h v (by
    rw [← Array.getElem?_toList] at hv
    exact List.mem_of_getElem? hv)
  simpa using h2

theorem N32.setFr {W w : World} {bs : List (Nat × Array Value)} {ao : Option Addr} {len n : Nat} (h : N32 w ao len n) (hf : Fr W w bs) (i j : Nat) {T : Nat} {c : Array Value} (hi : bs[i]? = some (T, c)) (hc : noInts c = true) (u : Value) :
    N32 (w.setCell ⟨W.heap.size + i, j, none⟩ u) ao len n := h.setBox (hf.box i T c hi) (noInts_get hc) j u

theorem Z32.setFr {W w : World} {bs : List (Nat × Array Value)} {neg : Bool} {ao : Option Addr} {len : Nat} {z : Int} (h : Z32 w neg ao len z) (hf : Fr W w bs) (i j : Nat) {T : Nat} {c : Array Value} (hi : bs[i]? = some (T, c)) (hc : noInts c = true) (u : Value) :
    Z32 (w.setCell ⟨W.heap.size + i, j, none⟩ u) neg ao len z := by
  obtain ⟨n, h1, h2⟩ := h
  exact ⟨n, h1.setFr hf i j hi hc u, h2⟩

/-- a fraction: the parts of the numerator, the slice of the denominator, which is empty for 1 -/
def Q32 (w : World) (neg : Bool) (ao : Option Addr) (len : Nat) (bo : Option Addr) (bl : Nat) (p : Int) (q : Nat) : Prop :=
  Z32 w neg ao len p ∧ ((bl = 0 ∧ q = 1) ∨ (N32 w bo bl q ∧ 1 < q))

theorem Q32.keep {w w' : World} {neg : Bool} {ao bo : Option Addr} {len bl : Nat} {p : Int} {q : Nat} (h : Q32 w neg ao len bo bl p q) (hb : Below w.heap.size w w') : Q32 w' neg ao len bo bl p q := by
  refine ⟨h.1.keep hb, ?_⟩
  rcases h.2 with h2 | ⟨h2, h3⟩
  · exact .inl h2
  · exact .inr ⟨h2.keep hb, h3⟩

theorem Q32.setFr {W w : World} {bs : List (Nat × Array Value)} {neg : Bool} {ao bo : Option Addr} {len bl : Nat} {p : Int} {q : Nat} (h : Q32 w neg ao len bo bl p q) (hf : Fr W w bs) (i j : Nat) {T : Nat} {c : Array Value} (hi : bs[i]? = some (T, c)) (hc : noInts c = true) (u : Value) :
    Q32 (w.setCell ⟨W.heap.size + i, j, none⟩ u) neg ao len bo bl p q := by
  refine ⟨h.1.setFr hf i j hi hc u, ?_⟩
  rcases h.2 with h2 | ⟨h2, h3⟩
  · exact .inl h2
  · exact .inr ⟨h2.setFr hf i j hi hc u, h3⟩

theorem Q32.bl0 {w : World} {neg : Bool} {ao bo : Option Addr} {len bl : Nat} {p : Int} {q : Nat} (h : Q32 w neg ao len bo bl p q) : bl = 0 ↔ q = 1 := by
  rcases h.2 with ⟨h2, h3⟩ | ⟨h2, h3⟩
  · simp [h2, h3]
  · have := h2.zero; omega

/-- returned: a struct that is the fraction p / q -/
def OutQ (W : World) (p : Int) (q : Nat) (e : Ending) (w' : World) : Prop :=
  ∃ neg ao len cap bo bl bc, e = .returned (.agg #[.bool neg, .slice ao len cap, .slice bo bl bc]) ∧ Q32 w' neg ao len bo bl p q ∧ Below W.heap.size W w'


/-- a fraction is stored in the call's own block number i -/
theorem Fr.finQ {W w : World} {bs : List (Nat × Array Value)} {neg : Bool} {ao bo : Option Addr} {len bl cap bc : Nat} {p : Int} {q : Nat} (hf : Fr W w bs) (i : Nat) {T : Nat} {e0 : Bool} {a1 a2 : Option Addr} {l1 l2 c1 c2 : Nat}
    (hi : bs[i]? = some (T, #[.bool e0, .slice a1 l1 c1, .slice a2 l2 c2])) (h : Q32 w neg ao len bo bl p q) :
    let w' := ((w.setCell ⟨W.heap.size + i, 0, none⟩ (.bool neg)).setCell ⟨W.heap.size + i, 1, none⟩ (.slice ao len cap)).setCell ⟨W.heap.size + i, 2, none⟩ (.slice bo bl bc)
    w'.cell? ⟨W.heap.size + i, 0, none⟩ = some (.bool neg) ∧ w'.cell? ⟨W.heap.size + i, 1, none⟩ = some (.slice ao len cap) ∧ w'.cell? ⟨W.heap.size + i, 2, none⟩ = some (.slice bo bl bc) ∧ Q32 w' neg ao len bo bl p q ∧ Below W.heap.size W w' := by
  have hl := (List.getElem?_eq_some_iff.1 hi).1
  have k1 := hf.set i 0 hi (.bool neg)
  have i1 : (bs.set i (T, #[.bool neg, .slice a1 l1 c1, .slice a2 l2 c2]))[i]? = some (T, #[.bool neg, .slice a1 l1 c1, .slice a2 l2 c2]) := List.getElem?_set_self hl
  have q1 := h.setFr hf i 0 hi rfl (.bool neg)
  have k2 := k1.set i 1 i1 (.slice ao len cap)
  have i2 : ((bs.set i (T, #[.bool neg, .slice a1 l1 c1, .slice a2 l2 c2])).set i (T, #[.bool neg, .slice ao len cap, .slice a2 l2 c2]))[i]? = some (T, #[.bool neg, .slice ao len cap, .slice a2 l2 c2]) := List.getElem?_set_self (by simpa using hl)
  have q2 := q1.setFr k1 i 1 i1 rfl (.slice ao len cap)
  have k3 := k2.set i 2 i2 (.slice bo bl bc)
  have i3 : (((bs.set i (T, #[.bool neg, .slice a1 l1 c1, .slice a2 l2 c2])).set i (T, #[.bool neg, .slice ao len cap, .slice a2 l2 c2])).set i (T, #[.bool neg, .slice ao len cap, .slice bo bl bc]))[i]? = some (T, #[.bool neg, .slice ao len cap, .slice bo bl bc]) := List.getElem?_set_self (by simpa using hl)
  have q3 := q2.setFr k2 i 2 i2 rfl (.slice bo bl bc)
  exact ⟨k3.cell i 0 i3 rfl, k3.cell i 1 i3 rfl, k3.cell i 2 i3 rfl, q3, k3.below⟩

/-- an integer is stored in the call's own block number i -/
theorem Fr.finI {W w : World} {bs : List (Nat × Array Value)} {neg : Bool} {ao : Option Addr} {len cap : Nat} {z : Int} (hf : Fr W w bs) (i : Nat) {T : Nat} {e0 : Bool} {a1 : Option Addr} {l1 c1 : Nat}
    (hi : bs[i]? = some (T, #[.bool e0, .slice a1 l1 c1])) (h : Z32 w neg ao len z) :
    let w' := (w.setCell ⟨W.heap.size + i, 0, none⟩ (.bool neg)).setCell ⟨W.heap.size + i, 1, none⟩ (.slice ao len cap)
    w'.cell? ⟨W.heap.size + i, 0, none⟩ = some (.bool neg) ∧ w'.cell? ⟨W.heap.size + i, 1, none⟩ = some (.slice ao len cap) ∧ Z32 w' neg ao len z ∧ Below W.heap.size W w' ∧ Fr W w' (bs.set i (T, #[.bool neg, .slice ao len cap])) := by
  have hl := (List.getElem?_eq_some_iff.1 hi).1
  have k1 := hf.set i 0 hi (.bool neg)
  have i1 : (bs.set i (T, #[.bool neg, .slice a1 l1 c1]))[i]? = some (T, #[.bool neg, .slice a1 l1 c1]) := List.getElem?_set_self hl
  have q1 := h.setFr hf i 0 hi rfl (.bool neg)
  have k2 := k1.set i 1 i1 (.slice ao len cap)
  have i2 : ((bs.set i (T, #[.bool neg, .slice a1 l1 c1])).set i (T, #[.bool neg, .slice ao len cap]))[i]? = some (T, #[.bool neg, .slice ao len cap]) := List.getElem?_set_self (by simpa using hl)
  have q2 := q1.setFr k1 i 1 i1 rfl (.slice ao len cap)
  refine ⟨k2.cell i 0 i2 rfl, k2.cell i 1 i2 rfl, q2, k2.below, ?_⟩
  have := k2
  rw [List.set_set] at this
  exact this

end Go.Proofs.Ytbihgllfllkkaaa

/- foresee. -/
set_option linter.unusedVariables false
namespace Go.Proofs.Ytbihgllfllkkaaa
open Go.RowKit

def ForeOut (A B : Nat) (W : World) (e : Ending) (w' : World) : Prop :=
  ∃ (α β γ δ : Nat) (odd : Bool), e = .returned (.agg #[.int .u64 (α : Int), .int .u64 (β : Int), .int .u64 (γ : Int), .int .u64 (δ : Int), .bool odd]) ∧ (β = 0 ∨ Fore A B α β γ δ odd) ∧ Below W.heap.size W w'

def ForeRel (A B : Nat) (W : World) (av bv cv dv : Value) (wr : World) : Prop :=
  ∃ (a b α β na nb la lb : Nat) (odd : Bool), av = .int .u64 (a : Int) ∧ bv = .int .u64 (b : Int) ∧ cv = .int .u64 (la : Int) ∧ dv = .int .u64 (lb : Int) ∧
    Fr W wr [(102, #[.int .u64 0, .int .u64 0, .int .u64 0, .int .u64 0, .bool false]), (102, #[.int .u64 (α : Int), .int .u64 (β : Int), .int .u64 (na : Int), .int .u64 (nb : Int), .bool odd])] ∧
    ForeInv A B a b na nb la lb odd ∧ (β = 0 ∨ Fore A B α β na nb odd)

set_option maxRecDepth 8000 in
set_option maxHeartbeats 2000000 in
theorem foresee_any (A B : Nat) (X Y : Int) (W : World) (hX : X = (A : Int)) (hY : Y = (B : Int)) (hA : A < 18446744073709551616) (hBA : B ≤ A) :
    Calls Try.prog 82 #[.int .u64 X, .int .u64 Y] W (ForeOut A B W) := by
  subst hX hY
  have hf : Fr W ((W.alloc (.cells #[.int .u64 0, .int .u64 0, .int .u64 0, .int .u64 0, .bool false] 102)).alloc (.cells #[.int .u64 0, .int .u64 0, .int .u64 1, .int .u64 0, .bool true] 102))
      [(102, #[.int .u64 0, .int .u64 0, .int .u64 0, .int .u64 0, .bool false]), (102, #[.int .u64 0, .int .u64 0, .int .u64 1, .int .u64 0, .bool true])] :=
    ((Fr.nil W).alloc rfl _ _).alloc (by simp) _ _
  have HF := Lib.hid hf
  clear hf
  go_enter Try.func82, Try.ntmps82
  go_wp2
  go_loopw [0, 1, 6, 7] (fun av bv cv dv wr => ForeRel A B W av bv cv dv wr) (fun av bv cv dv _ => (intOf bv).toNat)
  case atStart =>
    exact ⟨A, B, 0, 0, 1, 0, 0, 1, true, rfl, rfl, rfl, rfl, HF.out, ForeInv.start hBA, .inl rfl⟩
  case round =>
    obtain ⟨a, b, α, β, na, nb, la, lb, odd, rfl, rfl, rfl, rfl, hf, hi, ho⟩ := hrel
    have GF := Lib.hid hf
    have GI := Lib.hid hi
    have GO := Lib.hid ho
    have hba : b ≤ a := hi.2.2.1
    have hlb1 : 1 ≤ lb := hi.2.2.2.2.1
    have c0 : wr.cell? ⟨W.heap.size + 1, 0, none⟩ = some (.int .u64 (α : Int)) := hf.cell 1 0 rfl rfl
    have c1 : wr.cell? ⟨W.heap.size + 1, 1, none⟩ = some (.int .u64 (β : Int)) := hf.cell 1 1 rfl rfl
    have c2 : wr.cell? ⟨W.heap.size + 1, 2, none⟩ = some (.int .u64 (na : Int)) := hf.cell 1 2 rfl rfl
    have c3 : wr.cell? ⟨W.heap.size + 1, 3, none⟩ = some (.int .u64 (nb : Int)) := hf.cell 1 3 rfl rfl
    have c4 : wr.cell? ⟨W.heap.size + 1, 4, none⟩ = some (.bool odd) := hf.cell 1 4 rfl rfl
    have f0 : wr.frozen? ⟨W.heap.size + 1, 0, none⟩ = false := hf.frozen 1 0 rfl
    have f1 : wr.frozen? ⟨W.heap.size + 1, 1, none⟩ = false := hf.frozen 1 1 rfl
    have f2 : wr.frozen? ⟨W.heap.size + 1, 2, none⟩ = false := hf.frozen 1 2 rfl
    have f3 : wr.frozen? ⟨W.heap.size + 1, 3, none⟩ = false := hf.frozen 1 3 rfl
    have f4 : wr.frozen? ⟨W.heap.size + 1, 4, none⟩ = false := hf.frozen 1 4 rfl
    by_cases h1 : lb ≤ b
    · obtain ⟨k1, k2, k3, k4, k5, k6, k7, k8, k9, k10⟩ := hi.bounds h1
      obtain ⟨q, hq⟩ : ∃ q, q = a / b := ⟨_, rfl⟩
      obtain ⟨r, hr⟩ : ∃ r, r = a % b := ⟨_, rfl⟩
      rw [← hq] at k2 k3 k4 k5
      have hb0 : 0 < b := by omega
      have t1 : (lb : Int) ≤ (b : Int) := by omega
      have tq : (a : Int).tdiv (b : Int) = (q : Int) := by rw [hq]; exact (Int.ofNat_tdiv _ _).symm
      have tr : (a : Int).tmod (b : Int) = (r : Int) := by rw [hr]; exact (Int.ofNat_tmod _ _).symm
      have tq2 : (a : Int) / (b : Int) = (q : Int) := by rw [hq]; exact (Int.natCast_ediv _ _).symm
      have tr2 : (a : Int) % (b : Int) = (r : Int) := by rw [hr]; exact (Int.natCast_emod _ _).symm
      have hrb : r < b := by rw [hr]; exact Nat.mod_lt _ hb0
      have hqa : q ≤ a := by rw [hq]; exact Nat.div_le_self _ _
      have tw : IntKind.u64.wrap (q : Int) = (q : Int) := u64_wrap_nat q (by omega)
      obtain ⟨s, hs⟩ : ∃ s : Nat, s = q * la := ⟨_, rfl⟩
      obtain ⟨t, ht⟩ : ∃ t : Nat, t = q * lb := ⟨_, rfl⟩
      have hs2 : (q : Int) * (la : Int) = (s : Int) := by rw [hs, Int.natCast_mul]
      have ht2 : (q : Int) * (lb : Int) = (t : Int) := by rw [ht, Int.natCast_mul]
      rw [← ht] at k2 k4
      rw [← hs] at k3 k5
      have HQ := Lib.hid hq
      have HR := Lib.hid hr
      have HS := Lib.hid hs
      have HT := Lib.hid ht
      clear hf hi ho hq hr hs ht
      by_cases h2 : nb + lb ≤ a - b
      · have t2 : (nb : Int) + (lb : Int) ≤ (a : Int) - (b : Int) := by omega
        have t3 : (0 : Int) < (b : Int) := by omega
        go_wp2
        go_quiet (fail)
        go_wp2
        refine ⟨?_, by simp [intOf]; omega⟩
        have hn := GI.out.next hb0
        have hfo : Hid (α = α) := rfl
        rw [← HQ.out, ← HR.out, ← HS.out, ← HT.out] at hn
        have hF := ((((((GF.out.later (below_drewN1 (Below.refl _ wr) nq)).set 1 0 rfl (.int .u64 (na : Int))).set 1 2 rfl (.int .u64 (la : Int))).set 1 1 rfl (.int .u64 (nb : Int))).set 1 3 rfl (.int .u64 (lb : Int))).set 1 4 rfl (.bool (!odd)))
        refine ⟨b, r, na, nb, la, lb, na + s, nb + t, !odd, rfl, rfl, by rw [Int.natCast_add], by rw [Int.natCast_add], hF, hn, ?_⟩
        by_cases hnb : nb = 0
        · exact .inl hnb
        · exact .inr (GI.out.fore hA h1 h2 hnb)
      · have t2 : ¬ (nb : Int) + (lb : Int) ≤ (a : Int) - (b : Int) := by omega
        have g0 : wr.cell? ⟨W.heap.size, 0, none⟩ = some (.int .u64 0) := GF.out.cell 0 0 rfl rfl
        have k0f : wr.frozen? ⟨W.heap.size, 0, none⟩ = false := GF.out.frozen 0 0 rfl
        have g1 : wr.cell? ⟨W.heap.size, 1, none⟩ = some (.int .u64 0) := GF.out.cell 0 1 rfl rfl
        have k1f : wr.frozen? ⟨W.heap.size, 1, none⟩ = false := GF.out.frozen 0 1 rfl
        have g2 : wr.cell? ⟨W.heap.size, 2, none⟩ = some (.int .u64 0) := GF.out.cell 0 2 rfl rfl
        have k2f : wr.frozen? ⟨W.heap.size, 2, none⟩ = false := GF.out.frozen 0 2 rfl
        have g3 : wr.cell? ⟨W.heap.size, 3, none⟩ = some (.int .u64 0) := GF.out.cell 0 3 rfl rfl
        have k3f : wr.frozen? ⟨W.heap.size, 3, none⟩ = false := GF.out.frozen 0 3 rfl
        have g4 : wr.cell? ⟨W.heap.size, 4, none⟩ = some (.bool false) := GF.out.cell 0 4 rfl rfl
        have k4f : wr.frozen? ⟨W.heap.size, 4, none⟩ = false := GF.out.frozen 0 4 rfl
        go_wp2
        have hF := ((((GF.out.set 0 0 rfl (.int .u64 (α : Int))).set 0 1 rfl (.int .u64 (β : Int))).set 0 2 rfl (.int .u64 (na : Int))).set 0 3 rfl (.int .u64 (nb : Int))).set 0 4 rfl (.bool odd)
        have e0 := hF.cell 0 0 rfl rfl
        have e1 := hF.cell 0 1 rfl rfl
        have e2 := hF.cell 0 2 rfl rfl
        have e3 := hF.cell 0 3 rfl rfl
        have e4 := hF.cell 0 4 rfl rfl
        exact bodyPost_ret (v := .agg #[.int .u64 (α : Int), .int .u64 (β : Int), .int .u64 (na : Int), .int .u64 (nb : Int), .bool odd]) (by simp only [Nat.add_zero] at e0 e1 e2 e3 e4; simp [results, Try.results82, go_sem, e0, e1, e2, e3, e4]) rfl ⟨α, β, na, nb, odd, rfl, GO.out, hF.below⟩
    · have t1 : ¬ (lb : Int) ≤ (b : Int) := by omega
      clear hf hi ho
      have g0 : wr.cell? ⟨W.heap.size, 0, none⟩ = some (.int .u64 0) := GF.out.cell 0 0 rfl rfl
      have k0f : wr.frozen? ⟨W.heap.size, 0, none⟩ = false := GF.out.frozen 0 0 rfl
      have g1 : wr.cell? ⟨W.heap.size, 1, none⟩ = some (.int .u64 0) := GF.out.cell 0 1 rfl rfl
      have k1f : wr.frozen? ⟨W.heap.size, 1, none⟩ = false := GF.out.frozen 0 1 rfl
      have g2 : wr.cell? ⟨W.heap.size, 2, none⟩ = some (.int .u64 0) := GF.out.cell 0 2 rfl rfl
      have k2f : wr.frozen? ⟨W.heap.size, 2, none⟩ = false := GF.out.frozen 0 2 rfl
      have g3 : wr.cell? ⟨W.heap.size, 3, none⟩ = some (.int .u64 0) := GF.out.cell 0 3 rfl rfl
      have k3f : wr.frozen? ⟨W.heap.size, 3, none⟩ = false := GF.out.frozen 0 3 rfl
      have g4 : wr.cell? ⟨W.heap.size, 4, none⟩ = some (.bool false) := GF.out.cell 0 4 rfl rfl
      have k4f : wr.frozen? ⟨W.heap.size, 4, none⟩ = false := GF.out.frozen 0 4 rfl
      go_wp2
      have hF := ((((GF.out.set 0 0 rfl (.int .u64 (α : Int))).set 0 1 rfl (.int .u64 (β : Int))).set 0 2 rfl (.int .u64 (na : Int))).set 0 3 rfl (.int .u64 (nb : Int))).set 0 4 rfl (.bool odd)
      have e0 := hF.cell 0 0 rfl rfl
      have e1 := hF.cell 0 1 rfl rfl
      have e2 := hF.cell 0 2 rfl rfl
      have e3 := hF.cell 0 3 rfl rfl
      have e4 := hF.cell 0 4 rfl rfl
      exact bodyPost_ret (v := .agg #[.int .u64 (α : Int), .int .u64 (β : Int), .int .u64 (na : Int), .int .u64 (nb : Int), .bool odd]) (by simp only [Nat.add_zero] at e0 e1 e2 e3 e4; simp [results, Try.results82, go_sem, e0, e1, e2, e3, e4]) rfl ⟨α, β, na, nb, odd, rfl, GO.out, hF.below⟩
end Go.Proofs.Ytbihgllfllkkaaa
