/- scale, powerOfTen. -/
import Derived.Test.YtdnnjjclklcihaaShrink
set_option linter.unusedVariables false
namespace Go.Proofs.Ytdnnjjclklcihaa
open Go.RowKit

/-- The slice (v, n) starts at the head of a block of the call's own (from block base on) whose first cells are the numbers xs; it may be written and appended to. -/
def Own (k : IntKind) (w : World) (base e : Nat) (v : Value) (n : Nat) (xs : List Nat) : Prop := w.ownsRow base e 1 v n ((xs.map fun z => Value.int k ((z : Nat) : Int))) 

theorem Own.len {k : IntKind} {w : World} {base e n : Nat} {v : Value} {xs : List Nat} (h : Own k w base e v n xs) : xs.length = n := by
  have := h.1
  simpa using this

/-- It is a nil slice, or a slice whose block is known. -/
theorem Own.cases {k : IntKind} {w : World} {base e n : Nat} {v : Value} {xs : List Nat} (h : Own k w base e v n xs) :
    (v = .slice none 0 0 ∧ n = 0 ∧ xs = []) ∨ ∃ g cap, v = .slice (some ⟨g, 0, none⟩) n cap ∧ base ≤ g ∧ g < w.heap.size ∧ n ≤ cap ∧ cap ≤ maxLen ∧ ∀ i, i < n → w.cell? ⟨g, i, none⟩ = some (.int k ((xs[i]?.getD 0 : Nat) : Int)) ∧ w.frozen? ⟨g, i, none⟩ = false := by
  have hl := h.len
  rcases h.2 with ⟨rfl, rfl⟩ | ⟨g, cap, cur, rfl, hb, hg, hnc, hcm, hcs, htake⟩
  · exact .inl ⟨rfl, rfl, List.eq_nil_of_length_eq_zero hl⟩
  · refine .inr ⟨g, cap, rfl, hb, (Array.getElem?_eq_some_iff.1 hg).1, hnc, hcm, fun i hi => ⟨?_, ?_⟩⟩
    · have := h.cellAt i (by omega)
      rw [this]
      simp [List.getElem?_eq_getElem (show i < xs.length by omega)]
    · exact h.frozenAt i

theorem Own.sl {k : IntKind} {w : World} {base e n : Nat} {v : Value} {xs : List Nat} (h : Own k w base e v n xs) : ∃ ao cap, v = .slice ao n cap ∧ n ≤ cap ∧ cap ≤ maxLen ∧ Sl k w ao n xs := by
  have hl := h.len
  rcases h.cases with ⟨rfl, rfl, rfl⟩ | ⟨g, cap, rfl, _, _, h1, h2, h3⟩
  · exact ⟨none, 0, rfl, Nat.le_refl _, Nat.zero_le _, Sl.nil _ _ _⟩
  · exact ⟨_, cap, rfl, h1, h2, hl, g, 0, fun _ => rfl, fun i hi => by rw [Nat.zero_add]; exact (h3 i hi).1⟩

theorem Own.nil (k : IntKind) (w : World) (base e : Nat) : Own k w base e (.slice none 0 0) 0 [] := World.ownsRow_nil _ _ _ _

theorem Own.kept {k : IntKind} {w w' : World} {base e n : Nat} {v : Value} {xs : List Nat} (h : Own k w base e v n xs) {row : Option Nat} (hg : w.grownBy w' row) (hne : v.ownBlock = none ∨ v.ownBlock ≠ row) : Own k w' base e v n xs :=
  World.ownsRow.kept h hg hne

theorem Own.stored {k : IntKind} {w : World} {base e g n cap : Nat} {xs : List Nat} (h : Own k w base e (.slice (some ⟨g, 0, none⟩) n cap) n xs) (i x : Nat) (hi : i < n) (V : Int) (hV : V = (x : Int)) :
    Own k (w.setCell ⟨g, i, none⟩ (.int k V)) base e (.slice (some ⟨g, 0, none⟩) n cap) n (xs.set i x) := by
  subst hV
  have := (World.ownsRow.stored h i (.int k (x : Int))).1
  unfold Own
  rw [List.map_set]
  exact this

theorem Own.storedBy {k : IntKind} {w : World} {base e g n cap : Nat} {xs : List Nat} (h : Own k w base e (.slice (some ⟨g, 0, none⟩) n cap) n xs) (i : Nat) (u : Value) : w.grownBy (w.setCell ⟨g, i, none⟩ u) (some g) :=
  (World.ownsRow.stored h i u).2

theorem Own.ge {k : IntKind} {w : World} {base e n : Nat} {v : Value} {xs : List Nat} (h : Own k w base e v n xs) : ∀ b, v.ownBlock = some b → base ≤ b := fun b hb => (World.ownsRow.lt h b hb).1

/-- 'append(s, x)' of one element, s the call's own -/
theorem wpList_app {P : Program} {w : World} {ops : Array Oper} {rest : List Oper} {o : Oper} {a : Act} {Q : Exit → Act → World → Prop} (hgd : o.guard = none) (s x : Operand) (t : TypeId)
    (ho : o.op = .call { callee := .builtin .append, args := #[s, x], argTypes := #[t, t] }) (base e : Nat) (k : IntKind) (bytes : Nat)
    (h1 : P.underlying t = some (.slice e)) (h2 : (P.info? e).map (fun i => (i.zero, i.size, i.bytes)) = some (some (.int k 0), 1, bytes))
    (v : Value) (n : Nat) (xs : List Nat) (hs : a.eval s = v) (hown : Own k w base e v n xs) (V : Int) (xx : Nat) (hx : a.eval x = .slice (some ⟨w.heap.size, 0, none⟩) 1 1) (hV : V = (xx : Int))
    (hn : n ≤ 9000000000000) (hby : bytes ≤ 8) (hbase : base ≤ w.heap.size)
    (h : ∀ v' w', Own k w' base e v' (n + 1) (xs ++ [xx]) → Below base w w' → wpList P ops Q rest (a.put o.dst v') w') :
    wpList P ops Q (o :: rest) a (w.alloc (.cells #[.int k V] e)) := by
  subst hV
  obtain ⟨i0, hi, hz0, hz1, hz2⟩ := info_parts h2
  have hown' : (w.alloc (.cells #[.int k (xx : Int)] e)).ownsRow base e 1 v n (xs.map fun z => Value.int k ((z : Nat) : Int)) := World.ownsRow.alloc hown _
  have hsz : (1 : Nat) ≤ bytes ∨ bytes = 0 := by omega
  have hb : (n + 1) * bytes ≤ 140737488355328 := by
    have : (n + 1) * bytes ≤ (n + 1) * 8 := Nat.mul_le_mul_left _ hby
    omega
  refine wpList_append_own _ hgd s x t ho base e i0 (.int k 0) 1 bytes h1 hi hz0 hz1 hz2 rfl (by decide) v n _ hs hown' ⟨w.heap.size, 0, none⟩ 1 1 [.int k (xx : Int)] hx rfl ?_ ?_ (by unfold maxLen; omega) hb (by simp; omega) ?_
  · intro j u hj
    match j, hj with
    | 0, hj => simp at hj; subst hj; simp [Addr.add]
  · intro u hu; simp at hu; subst hu; rfl
  · intro v' w' hr hg _
    refine h v' w' ?_ ?_
    · unfold Own
      rw [List.map_append]
      exact hr
    · exact ((Below.refl base w).alloc hbase _).grown hg (by simp; omega) hown.ge

/-- the same, with what it writes -/
theorem wpList_app2 {P : Program} {w : World} {ops : Array Oper} {rest : List Oper} {o : Oper} {a : Act} {Q : Exit → Act → World → Prop} (hgd : o.guard = none) (s x : Operand) (t : TypeId)
    (ho : o.op = .call { callee := .builtin .append, args := #[s, x], argTypes := #[t, t] }) (base e : Nat) (k : IntKind) (bytes : Nat)
    (h1 : P.underlying t = some (.slice e)) (h2 : (P.info? e).map (fun i => (i.zero, i.size, i.bytes)) = some (some (.int k 0), 1, bytes))
    (v : Value) (n : Nat) (xs : List Nat) (hs : a.eval s = v) (hown : Own k w base e v n xs) (V : Int) (xx : Nat) (hx : a.eval x = .slice (some ⟨w.heap.size, 0, none⟩) 1 1) (hV : V = (xx : Int))
    (hn : n ≤ 9000000000000) (hby : bytes ≤ 8) (hbase : base ≤ w.heap.size)
    (h : ∀ v' w', Own k w' base e v' (n + 1) (xs ++ [xx]) → Below base w w' → (w.alloc (.cells #[.int k V] e)).grownBy w' v.ownBlock → wpList P ops Q rest (a.put o.dst v') w') :
    wpList P ops Q (o :: rest) a (w.alloc (.cells #[.int k V] e)) := by
  subst hV
  obtain ⟨i0, hi, hz0, hz1, hz2⟩ := info_parts h2
  have hown' : (w.alloc (.cells #[.int k (xx : Int)] e)).ownsRow base e 1 v n (xs.map fun z => Value.int k ((z : Nat) : Int)) := World.ownsRow.alloc hown _
  have hsz : (1 : Nat) ≤ bytes ∨ bytes = 0 := by omega
  have hb : (n + 1) * bytes ≤ 140737488355328 := by
    have : (n + 1) * bytes ≤ (n + 1) * 8 := Nat.mul_le_mul_left _ hby
    omega
  refine wpList_append_own _ hgd s x t ho base e i0 (.int k 0) 1 bytes h1 hi hz0 hz1 hz2 rfl (by decide) v n _ hs hown' ⟨w.heap.size, 0, none⟩ 1 1 [.int k (xx : Int)] hx rfl ?_ ?_ (by unfold maxLen; omega) hb (by simp; omega) ?_
  · intro j u hj
    match j, hj with
    | 0, hj => simp at hj; subst hj; simp [Addr.add]
  · intro u hu; simp at hu; subst hu; rfl
  · intro v' w' hr hg _
    refine h v' w' ?_ ?_ hg
    · unfold Own
      rw [List.map_append]
      exact hr
    · exact ((Below.refl base w).alloc hbase _).grown hg (by simp; omega) hown.ge

theorem Sl.grown {k : IntKind} {w w' : World} {ao : Option Addr} {len : Nat} {xs : List Nat} {row : Option Nat} (h : Sl k w ao len xs) (hg : w.grownBy w' row) (hne : ∀ b, 0 < len → ao = some b → some b.block ≠ row) : Sl k w' ao len xs := by
  obtain ⟨h1, b, off, h2, h3⟩ := h
  exact ⟨h1, b, off, h2, fun i hi => hg.cell (h3 i hi) (hne ⟨b, off, none⟩ (by omega) (h2 (by omega)))⟩

theorem top_of_ge {B : Nat} (hB : 0 < B) {xs : List Nat} (hd : Dig B xs) (h : xs ≠ [] → B ^ (xs.length - 1) ≤ val B xs) : Top xs := by
  intro hne h0
  have h1 := h hne
  have ⟨d, hdl⟩ : ∃ d, xs = xs.dropLast ++ [d] := ⟨xs.getLast hne, (List.dropLast_concat_getLast hne).symm⟩
  have hd0 : d = 0 := by rw [hdl] at h0; simpa using h0
  have h2 := val_lt hB (xs := xs.dropLast) (fun x hx => hd x (List.dropLast_subset _ hx))
  rw [List.length_dropLast] at h2
  rw [hdl, val_snoc, hd0] at h1
  simp only [Nat.mul_zero, Nat.add_zero, List.length_append, List.length_dropLast, List.length_cons, List.length_nil, Nat.zero_add, Nat.add_sub_cancel] at h1
  omega

theorem scale_step {B : Nat} {zs xs : List Nat} {i c f va : Nat} (h : val B (zs.take i) + c * B ^ i = f * val B (xs.take i) + va) (hi : i < zs.length) :
    val B ((zs.set i ((c + xs[i]?.getD 0 * f) % B)).take (i + 1)) + (c + xs[i]?.getD 0 * f) / B * B ^ (i + 1) = f * val B (xs.take (i + 1)) + va := by
  have h2 := Nat.mod_add_div (c + xs[i]?.getD 0 * f) B
  rw [val_take_succ, val_take_succ, List.take_set_of_le (Nat.le_refl _), List.getElem?_set_self hi]
  simp only [Option.getD_some]
  generalize (c + xs[i]?.getD 0 * f) % B = d at *
  generalize (c + xs[i]?.getD 0 * f) / B = c' at *
  generalize xs[i]?.getD 0 = x at *
  rw [Nat.pow_succ]
  generalize B ^ i = p at *
  grind

def ScaleRel (base e g n cap f ex : Nat) (xs : List Nat) (W : World) (cv iv : Value) (wr : World) : Prop :=
  ∃ (c i : Nat) (zs : List Nat), cv = .int .u64 (c : Int) ∧ iv = .int .i64 (i : Int) ∧ Own .u32 wr base e (.slice (some ⟨g, 0, none⟩) n cap) n zs ∧ Dig B32 zs ∧ i ≤ n ∧ c < 4294967296 ∧
    val B32 (zs.take i) + c * B32 ^ i = f * val B32 (xs.take i) + ex ∧ zs.drop i = xs.drop i ∧ Below base W wr

def ScalePost (base e n v : Nat) (W : World) (en : Ending) (w' : World) : Prop :=
  ∃ v' n' xs', en = .returned v' ∧ Own .u32 w' base e v' n' xs' ∧ Dig B32 xs' ∧ n' ≤ n + 1 ∧ val B32 xs' = v ∧ Top xs' ∧ Below base W w'

theorem scale_rel {base e g n cap f ex i c x : Nat} {xs zs : List Nat} {W wr : World} (hB : Own .u32 wr base e (.slice (some ⟨g, 0, none⟩) n cap) n zs) (hd : Dig B32 zs) (hi : i < n) (hc : c < 4294967296) (hf : f < 4294967296)
    (hx : x = xs[i]?.getD 0) (hxb : x < 4294967296) (hv : val B32 (zs.take i) + c * B32 ^ i = f * val B32 (xs.take i) + ex) (ht : zs.drop i = xs.drop i) (hb : Below base W wr) (hbg : base ≤ g) (hxl : xs.length = n)
    (t : Nat) (htt : t = x * f) :
    ScaleRel base e g n cap f ex xs W (.int .u64 (((c : Int) + (t : Int)) / 4294967296)) (.int .i64 ((i : Int) + 1)) (wr.setCell ⟨g, i, none⟩ (.int .u32 (((c : Int) + (t : Int)) % 4294967296))) := by
  have hl := hB.len
  have hs := scale_step (B := B32) (zs := zs) (xs := xs) (f := f) hv (by omega)
  rw [← hx, ← htt] at hs
  have hbound : c + t < 18446744073709551616 := by
    have : x * f ≤ 4294967295 * 4294967295 := Nat.mul_le_mul (by omega) (by omega)
    omega
  refine ⟨(c + t) / B32, i + 1, zs.set i ((c + t) % B32), congrArg (Value.int _) (by rw [B32_eq]; omega), by go_num, hB.stored _ _ hi _ (by rw [B32_eq]; omega), hd.set _ (Nat.mod_lt _ B32_pos), by omega, by rw [B32_eq]; omega, hs, ?_, hb.setCell hbg _⟩
  rw [List.drop_set_of_lt (by omega)]
  have := congrArg List.tail ht
  rwa [List.tail_drop, List.tail_drop] at this

theorem scale_top {xs zs : List Nat} {f ex n : Nat} (hf : 0 < f) (ht : Top xs) (hl : xs.length = n) (hzl : zs.length = n) (hd : Dig B32 zs) (hv : val B32 zs = f * val B32 xs + ex) : Top zs := by
  refine top_of_ge B32_pos hd (fun hne => ?_)
  have h1 := val_ge (B := B32) ht (by intro e; rw [e] at hl; simp at hl; rw [← hl] at hzl; exact hne (List.eq_nil_of_length_eq_zero hzl))
  rw [hzl, hv]
  rw [hl] at h1
  have := Nat.mul_le_mul_right (val B32 xs) hf
  omega

set_option maxHeartbeats 1000000 in
theorem scale_own (base g n cap : Nat) (xs : List Nat) (F E : Int) (f ex : Nat) (W : World) (hown : Own .u32 W base 104 (.slice (some ⟨g, 0, none⟩) n cap) n xs) (hd : Dig B32 xs) (ht : Top xs) (hF : F = (f : Int)) (hE : E = (ex : Int))
    (hf0 : 0 < f) (hf : f < 4294967296) (hex : ex < 4294967296) (hn : n ≤ 1000000000) (hbase : base ≤ W.heap.size) :
    Calls Try.prog 123 #[.slice (some ⟨g, 0, none⟩) n cap, .int .u32 F, .int .u32 E] W (ScalePost base 104 n (f * val B32 xs + ex) W) := by
  subst hF hE
  have hxl := hown.len
  have hgb : base ≤ g := hown.ge g rfl
  have HB := Lib.hid hown
  have HD := Lib.hid hd
  have HT := Lib.hid ht
  have HX := Lib.hid hxl
  clear hown hd ht hxl
  go_enter Try.func123, Try.ntmps123
  go_wp2
  go_loopw [7, 14] (fun cv iv wr => ScaleRel base 104 g n cap f ex xs W cv iv wr) (fun cv iv _ => n - (intOf iv).toNat)
  case atStart =>
    exact ⟨ex, 0, xs, rfl, rfl, HB.out, HD.out, Nat.zero_le _, hex, by simp [val], rfl, Below.refl _ _⟩
  case round =>
    obtain ⟨c, i, zs, rfl, rfl, hB, hdz, hi, hc, hv, ht, hbel⟩ := hrel
    have GZ := Lib.hid hB
    have GD := Lib.hid hdz
    have GV := Lib.hid hv
    have GT := Lib.hid ht
    have GW := Lib.hid hbel
    clear hB hdz hv ht hbel
    by_cases hil : i < n
    · have hcell : wr.cell? ⟨g, i, none⟩ = some (.int .u32 ((zs[i]?.getD 0 : Nat) : Int)) ∧ wr.frozen? ⟨g, i, none⟩ = false := by
        rcases GZ.out.cases with ⟨h, _⟩ | ⟨g', cap', h, _, _, _, _, h3⟩
        · cases h
        · cases h; exact h3 i hil
      obtain ⟨c1, f1⟩ := hcell
      have hzx : zs[i]?.getD 0 = xs[i]?.getD 0 := by
        have := congrArg (fun l => l[0]?.getD 0) GT.out
        simpa using this
      rw [hzx] at c1
      have hx := HD.out.get B32_pos i
      obtain ⟨x, hxe⟩ : ∃ x, x = xs[i]?.getD 0 := ⟨_, rfl⟩
      rw [← hxe] at c1 hx
      rw [B32_eq] at hx
      have HXE := Lib.hid hxe
      clear hxe hzx
      have b2 : (i : Int) < (n : Int) := by omega
      have hm0 : (0 : Int) ≤ (x : Int) * (f : Int) := Int.mul_nonneg (by omega) (by omega)
      have hm1 : (x : Int) * (f : Int) ≤ 18446744065119617025 := by
        have h1 : x * f ≤ 4294967295 * 4294967295 := Nat.mul_le_mul (by omega) (by omega)
        have h2 : ((x * f : Nat) : Int) ≤ ((4294967295 * 4294967295 : Nat) : Int) := Int.ofNat_le.2 h1
        rw [Int.natCast_mul] at h2
        exact h2
      obtain ⟨t, ht⟩ : ∃ t : Nat, t = x * f := ⟨_, rfl⟩
      have ht2 : (x : Int) * (f : Int) = (t : Int) := by rw [ht, Int.natCast_mul]
      have HT3 := Lib.hid ht
      have HT2 := Lib.hid ht2
      clear ht ht2
      go_wp2
      rw [HT2.out]
      exact ⟨scale_rel GZ.out GD.out hil hc hf HXE.out hx GV.out GT.out GW.out hgb HX.out t HT3.out, by simp [intOf]; omega⟩
    · obtain rfl : i = n := by omega
      have hzl := GZ.out.len
      have hval : val B32 zs + c * B32 ^ i = f * val B32 xs + ex := by
        have := GV.out
        rwa [List.take_of_length_le (l := zs) (by omega), List.take_of_length_le (l := xs) (by have := HX.out; omega)] at this
      have HVV := Lib.hid hval
      have HZL := Lib.hid hzl
      have hbw := Lib.hid (Nat.le_trans hbase GW.out.size)
      clear hval hzl
      by_cases hc0 : c = 0
      · subst hc0
        go_wp2
        go_ret
        have hvv : val B32 zs = f * val B32 xs + ex := by have := HVV.out; omega
        exact ⟨_, i, zs, rfl, GZ.out, GD.out, by omega, hvv, scale_top hf0 HT.out HX.out HZL.out GD.out hvv, GW.out⟩
      · have hc1 : (0 : Int) < (c : Int) := by omega
        go_wp2_with (at_builtin; refine wpList_app rfl _ _ 22 rfl base 104 .u32 4 Try.underlying22 (by kernel_rfl) _ i zs rfl GZ.out _ c rfl rfl (by omega) (by omega) hbw.out ?_; intro v' w2 hown' hbel')
        go_ret
        refine ⟨v', i + 1, zs ++ [c], rfl, hown', GD.out.append (Dig.cons (by rw [B32_eq]; exact hc) (Dig.nil _)), Nat.le_refl _, ?_, ?_, GW.out.trans hbel'⟩
        · rw [val_snoc, HZL.out, Nat.mul_comm]
          exact HVV.out
        · intro _
          simpa using hc0


end Go.Proofs.Ytdnnjjclklcihaa
