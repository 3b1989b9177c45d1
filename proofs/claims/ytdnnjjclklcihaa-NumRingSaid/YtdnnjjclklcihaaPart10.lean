/- Part 10 of the contracts: Nested, Fine, Ring. -/
import Derived.Test.YtdnnjjclklcihaaPart9

/- A region 'i, e := x.f(y.g())', whose block may be made at any time. -/
set_option linter.unusedVariables false
namespace Go.Proofs.Ytdnnjjclklcihaa
open Go.RowKit Go.Proofs

def neS (t0 t1 t2 t3 t4 t5 t6 p k : Nat) (T : Nat) (z : Array Value) : Shape where
  f := fun i => match i with | 0 => t0 | 1 => t1 | 2 => t2 | 3 => t3 | 4 => t4 | 5 => t5 | 6 => t6 | 7 => p | 9 => k | _ => 0
  kd := fun i => match i with | 7 => .box T z | 8 => .put 7 5 | _ => .val
  need := fun i => match i with | 2 => [1] | 3 => [0, 2] | 4 => [3] | 5 => [4] | 6 => [4] | 8 => [7, 5] | 9 => [6] | _ => []
  st := fun _ => 8
  src := fun _ => 5

def neΦ (r1 r2 : Value) (zn z : Int) (i : Nat) (v : Value) (w : World) : Prop :=
  match i with | 0 => v = r1 | 1 => v = r2 | 2 => IsS zn v w | 3 => IsE z v w | 4 => IsE z v w | 5 => IsS z v w | _ => v = .int .i64 0

set_option maxHeartbeats 2000000 in
theorem nested {Q : Exit → Act → World → Prop} {id : Nat} {a0 : Act} {W : World} {o0 o1 o2 o3 o4 o5 o6 o7 o8 o9 : Oper} (t0 t1 t2 t3 t4 t5 t6 p k r s : Nat) (f f2 : FuncId) (u1 u2 v1 v2 : Value) (g h : Nat) (zn z : Int) (ts ts2 : Array TypeId) {fn fn2 : Func} {cb cb2 : Code}
    (hfn : Try.prog.funcs[f]? = some fn) (hname : (fn.name == "runtime.NumGoroutine") = false) (hbody : fn.body = some cb)
    (hfn2 : Try.prog.funcs[f2]? = some fn2) (hname2 : (fn2.name == "runtime.NumGoroutine") = false) (hbody2 : fn2.body = some cb2)
    (hok : (neS t0 t1 t2 t3 t4 t5 t6 p k 24 #[.bool false, .slice none 0 0]).ok #[o0, o1, o2, o3, o4, o5, o6, o7, o8, o9] a0.tmps.size = true)
    (h0 : o0.op = .load 24 (.tmp r)) (h1 : o1.op = .load 24 (.tmp s)) (h2 : o2.op = .call { callee := .value (.func f), args := #[.tmp t1], argTypes := ts })
    (h3 : o3.op = .call { callee := .value (.func f2), args := #[.tmp t0, .tmp t2], argTypes := ts2 }) (h4 : o4.op = .move (.tmp t3))
    (h5 : o5.op = .extract (.tmp t4) 0) (h6 : o6.op = .extract (.tmp t4) 1)
    (h7 : o7.op = .alloc 24) (h8 : o8.op = .store 24 (.tmp p) (.tmp t5)) (h9 : o9.op = .assign (.tmp t6))
    (hr : a0.eval (.tmp r) = .pointer (some ⟨g, 0, none⟩)) (hs : a0.eval (.tmp s) = .pointer (some ⟨h, 0, none⟩))
    (hrs : r ∉ [t0, t1, t2, t3, t4, t5, t6, p, k]) (hss : s ∉ [t0, t1, t2, t3, t4, t5, t6, p, k]) (hg : g < W.heap.size) (hh : h < W.heap.size)
    (c1 : W.cell? ⟨g, 0, none⟩ = some u1) (c2 : W.cell? ⟨g, 1, none⟩ = some u2) (c3 : W.cell? ⟨h, 0, none⟩ = some v1) (c4 : W.cell? ⟨h, 1, none⟩ = some v2)
    (hc1 : ∀ w, Below W.heap.size W w → Calls Try.prog f #[.agg #[v1, v2]] w (fun e w' => ∃ v, e = .returned v ∧ IsS zn v w' ∧ Below w.heap.size w w'))
    (hc2 : ∀ w n x l c, Below W.heap.size W w → l ≤ 512 → Z32 w n x l zn → Calls Try.prog f2 #[.agg #[u1, u2], .agg #[.bool n, .slice x l c]] w (fun e w' => ∃ v, e = .returned v ∧ IsE z v w' ∧ Below w.heap.size w w'))
    (hend : ∀ w b1 n x l c d2 d3 d4, Below W.heap.size W w → W.heap.size ≤ b1 → Box w b1 24 #[.bool n, .slice x l c] → l ≤ 512 → Z32 w n x l z →
      Q .normal (puts a0 [(t0, .agg #[u1, u2]), (t1, .agg #[v1, v2]), (t2, d2), (t3, d3), (t4, d4), (t5, .agg #[.bool n, .slice x l c]), (t6, .int .i64 0), (p, .pointer (some ⟨b1, 0, none⟩)), (k, .int .i64 0)]) w) :
    (Code.region id #[o0, o1, o2, o3, o4, o5, o6, o7, o8, o9] true).wp Try.prog Q a0 W := by
  refine Shape.region (neS t0 t1 t2 t3 t4 t5 t6 p k 24 #[.bool false, .slice none 0 0]) (fun i v w => neΦ (.agg #[u1, u2]) (.agg #[v1, v2]) zn z i (v i) w) (by kernel_rfl) hok
    (fun i v v' w _ hj hΦ => by rw [← hj i (.inl rfl)]; exact hΦ) ?stab ?val ?box ?put rfl ?fin
  case stab =>
    intro i v hi
    match i with
    | 0 => exact Stable.const _ _
    | 1 => exact Stable.const _ _
    | 2 => exact Stable.isS _ _ _
    | 3 => exact Stable.isE _ _ _
    | 4 => exact Stable.isE _ _ _
    | 5 => exact Stable.isS _ _ _
    | i + 6 => exact Stable.const _ _
  case val =>
    intro i o ho hv a w hA hb hz hn K' hK
    match i, ho, hv with
    | 0, ho, _ =>
      have ho' : o0 = o := by simpa using ho
      subst ho'
      have e : a.eval (.tmp r) = .pointer (some ⟨g, 0, none⟩) := (hA.eval hrs).trans hr
      refine wp_value (v := .agg #[u1, u2]) (w' := w) ?_ (hK _ _ (Below.refl _ _) (by simp [upd, neΦ]))
      have d1 := (hb.cell (p := ⟨g, 0, none⟩) hg).trans c1
      have d2 := (hb.cell (p := ⟨g, 1, none⟩) hg).trans c2
      unfold execOp
      rw [h0]
      dsimp only
      rw [e]
      simp [go_sem, d1, d2]
    | 1, ho, _ =>
      have ho' : o1 = o := by simpa using ho
      subst ho'
      have e : a.eval (.tmp s) = .pointer (some ⟨h, 0, none⟩) := (hA.eval hss).trans hs
      refine wp_value (v := .agg #[v1, v2]) (w' := w) ?_ (hK _ _ (Below.refl _ _) (by simp [upd, neΦ]))
      have d1 := (hb.cell (p := ⟨h, 0, none⟩) hh).trans c3
      have d2 := (hb.cell (p := ⟨h, 1, none⟩) hh).trans c4
      unfold execOp
      rw [h1]
      dsimp only
      rw [e]
      simp [go_sem, d1, d2]
    | 2, ho, _ =>
      have ho' : o2 = o := by simpa using ho
      subst ho'
      have e : a.eval (.tmp t1) = .agg #[v1, v2] := hn 1 (by simp [neS]) rfl
      refine wp_call (run_call hfn hname hbody h2 a w) ?_ (fun v w' hb' hφ => hK v w' hb' (by simpa [upd, neΦ] using hφ))
      have em : Array.map a.eval #[Operand.tmp t1] = #[a.eval (.tmp t1)] := by simp only [List.map_toArray, List.map_cons, List.map_nil]
      rw [em, e]
      exact hc1 w (below_undrew hb)
    | 3, ho, _ =>
      have ho' : o3 = o := by simpa using ho
      subst ho'
      have e : a.eval (.tmp t0) = .agg #[u1, u2] := hn 0 (by simp [neS]) rfl
      obtain ⟨n, x, l, c, e2, y1, y2⟩ : IsS zn (a.eval (.tmp t2)) w := hn 2 (by simp [neS]) rfl
      refine wp_call (run_call hfn2 hname2 hbody2 h3 a w) ?_ (fun v w' hb' hφ => hK v w' hb' (by simpa [upd, neΦ] using hφ))
      have em : Array.map a.eval #[Operand.tmp t0, Operand.tmp t2] = #[a.eval (.tmp t0), a.eval (.tmp t2)] := by simp only [List.map_toArray, List.map_cons, List.map_nil]
      rw [em, e, e2]
      exact hc2 w n x l c (below_undrew hb) y1 y2
    | 4, ho, _ =>
      have ho' : o4 = o := by simpa using ho
      subst ho'
      have e : IsE z (a.eval (.tmp t3)) w := hn 3 (by simp [neS]) rfl
      exact wp_value (run_move h4 a w) (hK _ _ (Below.refl _ _) (by simpa [upd, neΦ] using e))
    | 5, ho, _ =>
      have ho' : o5 = o := by simpa using ho
      subst ho'
      obtain ⟨n, x, l, c, e, m1, y1⟩ : IsE z (a.eval (.tmp t4)) w := hn 4 (by simp [neS]) rfl
      exact wp_value (run_extract h5 e rfl w) (hK _ _ (Below.refl _ _) (by simp only [upd, neΦ, if_true]; exact ⟨n, x, l, c, rfl, m1, y1⟩))
    | 6, ho, _ =>
      have ho' : o6 = o := by simpa using ho
      subst ho'
      obtain ⟨n, x, l, c, e, m1, y1⟩ : IsE z (a.eval (.tmp t4)) w := hn 4 (by simp [neS]) rfl
      exact wp_value (run_extract h6 e rfl w) (hK _ _ (Below.refl _ _) (by simp [upd, neΦ]))
    | 9, ho, _ =>
      have ho' : o9 = o := by simpa using ho
      subst ho'
      have e : a.eval (.tmp t6) = .int .i64 0 := hn 6 (by simp [neS]) rfl
      exact wp_value (run_assign h9 a w) (hK _ _ (Below.refl _ _) (by simpa [upd, neΦ] using e))
    | 7, _, hv => cases hv
    | 8, _, hv => cases hv
    | i + 10, ho, _ => simp at ho
  case box =>
    intro i o T z ho hk a w
    match i, ho, hk with
    | 7, ho, hk => have ho' : o7 = o := by simpa using ho
                   subst ho'; cases hk; unfold execOp; rw [h7]; simp [go_sem]
    | 0, _, hk => cases hk
    | 1, _, hk => cases hk
    | 2, _, hk => cases hk
    | 3, _, hk => cases hk
    | 4, _, hk => cases hk
    | 5, _, hk => cases hk
    | 6, _, hk => cases hk
    | 8, _, hk => cases hk
    | 9, _, hk => cases hk
    | i + 10, ho, _ => simp at ho
  case put =>
    intro i o p' s' T z ho hk hp a w b hva hφ hbx
    match i, ho, hk with
    | 0, _, hk => cases hk
    | 1, _, hk => cases hk
    | 2, _, hk => cases hk
    | 3, _, hk => cases hk
    | 4, _, hk => cases hk
    | 5, _, hk => cases hk
    | 6, _, hk => cases hk
    | 7, _, hk => cases hk
    | 9, _, hk => cases hk
    | i + 10, ho, _ => simp at ho
    | 8, ho, hk =>
      have ho' : o8 = o := by simpa using ho
      subst ho'; cases hk; cases hp
      obtain ⟨n, x, l, c, e, _⟩ := hφ
      have e1 : a.eval (.tmp t5) = .agg #[.bool n, .slice x l c] := e
      have e2 : a.eval (.tmp p) = .pointer (some ⟨b, 0, none⟩) := hva
      have d1 := hbx.cell 0
      have d2 := hbx.cell 1
      have f1 := hbx.frozen 0
      have f2 := hbx.frozen 1
      refine ⟨[.bool n, .slice x l c], e, rfl, by simp [isInt], ?_⟩
      unfold execOp; rw [h8]
      dsimp only
      rw [e1, e2]
      simp [go_sem, d1, d2, f1, f2, setFrom]
  case fin =>
    intro a w blk hI
    have n8 : (#[o0, o1, o2, o3, o4, o5, o6, o7, o8, o9] : Array Oper).size = 10 := rfl
    rw [n8] at hI
    have hf := hI.agree.form
    have e0 : a.eval (.tmp t0) = .agg #[u1, u2] := hI.vals 0 (by decide) (by decide) rfl
    have e1 : a.eval (.tmp t1) = .agg #[v1, v2] := hI.vals 1 (by decide) (by decide) rfl
    obtain ⟨n, x, l, c, e5, a1, a3⟩ : IsS z (a.eval (.tmp t5)) w := hI.vals 5 (by decide) (by decide) rfl
    have e6 : a.eval (.tmp t6) = .int .i64 0 := hI.vals 6 (by decide) (by decide) rfl
    have e9 : a.eval (.tmp k) = .int .i64 0 := hI.vals 9 (by decide) (by decide) rfl
    obtain ⟨p1, p2, _, p3⟩ := hI.boxes 7 24 #[.bool false, .slice none 0 0] (by decide) (by decide) rfl
    obtain ⟨us, y1, y2, y3, y4⟩ := p3 (show (8 : Nat) < 10 by decide)
    have y5 : a.eval (.tmp t5) = .agg us.toArray := y1
    rw [e5] at y5
    cases y5
    have e7 : a.eval (.tmp p) = .pointer (some ⟨blk 7, 0, none⟩) := p1
    have hsl : (neS t0 t1 t2 t3 t4 t5 t6 p k 24 #[.bool false, .slice none 0 0]).slots 10 = [t0, t1, t2, t3, t4, t5, t6, p, k] := rfl
    rw [hsl] at hf
    simp only [List.map_cons, List.map_nil, e0, e1, e5, e6, e7, e9] at hf
    rw [hf]
    exact hend w (blk 7) n x l c _ _ _ (below_undrew hI.below) p2 y4 a1 a3
end Go.Proofs.Ytdnnjjclklcihaa

/- The laws' helper fine. -/
set_option linter.unusedVariables false
namespace Go.Proofs.Ytdnnjjclklcihaa
open Go.RowKit Go.Proofs

set_option maxHeartbeats 400000 in
theorem fine_any (ao : Option Addr) (len cap : Nat) (w : World) (h : Sl .i64 w ao len (List.replicate len 0)) (hl : len ≤ 1000000) :
    Calls Try.prog 54 #[.slice ao len cap] w fun e w' => e = .returned (.bool true) ∧ w = w' := by
  obtain ⟨hx, b, off, h0, hc⟩ := h
  have H0 := Lib.hid h0
  have HC : Hid (∀ i, i < len → w.cell? ⟨b, off + i, none⟩ = some (.int .i64 0)) := by
    intro i hi
    rw [hc i hi, List.getElem?_replicate, if_pos hi]; rfl
  clear hx h0 hc
  go_enter Try.func54, Try.ntmps54
  go_wp2
  go_loop [7] (fun iv => ∃ i : Nat, i ≤ len ∧ iv = .int .i64 (i : Int)) (fun iv => len - (intOf iv).toNat)
  case atStart => exact ⟨0, by omega, rfl⟩
  case round =>
    obtain ⟨i, hi, rfl⟩ := hrel
    by_cases hil : i < len
    · obtain rfl := H0.out (by omega)
      have c1 := HC.out i hil
      have b1 : (i : Int) < (len : Int) := by omega
      have b2 : (0 : Int) ≤ (i : Int) := by omega
      go_wp2
      go_round
      case rel => exact ⟨i + 1, by omega, by go_num⟩
      case measure => simp only [intOf]; omega
    · have b1 : ¬ (i : Int) < (len : Int) := by omega
      go_wp2
      go_ret
      exact ⟨rfl, rfl⟩
end Go.Proofs.Ytdnnjjclklcihaa

/- Facts for the laws of rings. -/
set_option linter.unusedVariables false
namespace Go.Proofs.Ytdnnjjclklcihaa
open Go.RowKit Go.Proofs

def Bl (k : Nat) (z : Int) : Prop := blen z.natAbs ≤ k

theorem Bl.fits {k : Nat} {z : Int} (h : Bl k z) (hk : k ≤ 16384) : Fits z := Nat.le_trans h hk
theorem Bl.mono {k j : Nat} {z : Int} (h : Bl k z) (hk : k ≤ j) : Bl j z := Nat.le_trans h hk
theorem Bl.neg {k : Nat} {z : Int} (h : Bl k z) : Bl k (-z) := by unfold Bl at *; rwa [Int.natAbs_neg]
theorem Bl.add {k : Nat} {x y : Int} (hx : Bl k x) (hy : Bl k y) : Bl (k + 1) (x + y) := by
  unfold Bl at *
  rw [blen_le] at *
  have := Int.natAbs_add_le x y
  rw [Nat.pow_succ]
  omega
theorem Bl.sub {k : Nat} {x y : Int} (hx : Bl k x) (hy : Bl k y) : Bl (k + 1) (x - y) := hx.add hy.neg
theorem Bl.mul {j k : Nat} {x y : Int} (hx : Bl j x) (hy : Bl k y) : Bl (j + k) (x * y) := by
  unfold Bl at *
  rw [blen_le] at *
  rw [Int.natAbs_mul, Nat.pow_add]
  exact Nat.mul_lt_mul'' hx hy

theorem rawZ_bl (s : Bool) (xs : List Nat) (hd : Dig B16 xs) (most : Nat) : Bl (16 * most) (rawZ s xs most) := by
  have h1 := rawZ_lt s xs hd most
  rw [B16_pow] at h1
  exact blen_le.2 h1

def OutE (W : World) (z : Int) (e : Ending) (w' : World) : Prop :=
  ∃ neg ao len cap, e = .returned (.tuple #[.agg #[.bool neg, .slice ao len cap], .int .i64 0]) ∧ len ≤ 512 ∧ Z32 w' neg ao len z ∧ Below W.heap.size W w'

theorem OutF.fine {W w' : World} {z : Int} {e : Ending} (h : OutF W z e w') (hf : Fits z) : OutE W z e w' := by
  rcases h with ⟨_, n, o, l, c, rfl, hz, hb⟩ | ⟨hn, _⟩
  · exact ⟨n, o, l, c, rfl, fits_len hz hf, hz, hb⟩
  · exact absurd hf hn

theorem OutI.small {W w' : World} {z : Int} {e : Ending} (h : OutI W z e w') (hf : Fits z) : ∃ v, e = .returned v ∧ IsS z v w' ∧ Below W.heap.size W w' := by
  obtain ⟨n, o, l, c, rfl, hz, hb⟩ := h
  exact ⟨_, rfl, ⟨n, o, l, c, rfl, fits_len hz hf, hz⟩, hb⟩

theorem MadePost.fits {z : Int} {W w' : World} {e : Ending} (h : MadePost z W e w') (hf : Fits z) :
    ∃ neg ao len cap, e = .returned (.tuple #[.agg #[.bool neg, .slice ao len cap], .bool true]) ∧ len ≤ 512 ∧ Z32 w' neg ao len z ∧ Below W.heap.size W w' := by
  obtain ⟨n, o, l, c, ok, z', rfl, hl, hz, hb, ⟨_, rfl, rfl⟩ | ⟨hn, _⟩⟩ := h
  · exact ⟨n, o, l, c, rfl, hl, hz, hb⟩
  · exact absurd hf hn

/-- a row of zeros that was just made -/
theorem zeros_sl (W : World) (e n : Nat) (c : Array Value) (hc : c = cs .i64 (List.replicate n 0)) : Sl .i64 (W.alloc (.cells c e)) (some ⟨W.heap.size, 0, none⟩) n (List.replicate n 0) :=
  (Blk.new' W .i64 e (List.replicate n 0) c hc).whole (by simp)

theorem below_made {V w' : World} {o : Obj} (hb : Below (V.drew.alloc o).heap.size (V.drew.alloc o) w') : Below V.heap.size V w' :=
  below_then (((Below.refl _ _).drew).alloc (Nat.le_refl _) o) hb
end Go.Proofs.Ytdnnjjclklcihaa
