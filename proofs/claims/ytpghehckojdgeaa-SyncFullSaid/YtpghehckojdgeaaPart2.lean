/- Part 2 of the contracts: SDelF, SOnly, SOnly2, STab, SSaw, SBin, SEq, SEqual. -/
import Derived.Laws.EntriesVeiled
import Derived.Laws.Rows
import Derived.Shelf.GgClosure.Gives
import Derived.ChangeKeysEq
import Derived.Test.YtpghehckojdgeaaPart1

/- slices.DeleteFunc, walked. -/
set_option linter.unusedVariables false
set_option linter.unusedSimpArgs false
namespace Go.Proofs.Ytpghehckojdgeaa
open Go.RowKit Go.Shelf Go.Sort

theorem predE_below {g : Nat} {lb : Array Value} {p : Ent → Bool} {W w : World} (h : PredE g lb p W) (hb : Below W.heap.size W w) : PredBelow Try.prog g lb (fun x => .agg (encE x).toArray) p w :=
  fun w' x hb' => (h w' x (hb.trans (hb'.mono hb.size))).mono fun e w'' ⟨he, hb''⟩ => ⟨he, below_then hb' hb''⟩

theorem rowE_cells {w : World} {g : Nat} {xs : List Ent} (h : RowE w g xs) : ∀ j, j < xs.length → ∀ i v, (encE xs[j]!)[i]? = some v → w.cell? ⟨g, 0 + j * 4 + i, none⟩ = some v := by
  intro j hj i v hv
  obtain ⟨a, b, c, d⟩ := h.2 j hj
  rw [Nat.zero_add]
  match i, hv with
  | 0, hv => simp [encE] at hv; subst hv; simpa using a
  | 1, hv => simp [encE] at hv; subst hv; simpa using b
  | 2, hv => simp [encE] at hv; subst hv; simpa using c
  | 3, hv => simp [encE] at hv; subst hv; simpa using d
  | (k + 4), hv => simp [encE] at hv

theorem indexF {fg : Nat} {lb : Array Value} {p : Ent → Bool} {W : World} (eg : ∀ args w, (callFunc fg args).run Try.prog w = .ok (.enter fg args) w) (hp : PredE fg lb p W) (g n cap : Nat) (xs : List Ent) (hnx : xs.length = n) (w : World) (hb : Below W.heap.size W w) (hr : RowE w g xs) (hn : n ≤ 900000) :
    ((∀ e ∈ xs, p e = false) ∧ Calls Try.prog 92 #[.slice (some ⟨g, 0, none⟩) n cap, .func (.func fg) #[] lb] w fun e w' => e = .returned (.int .i64 (-1)) ∧ Below w.heap.size w w') ∨
    ∃ k, k < n ∧ p xs[k]! = true ∧ (∀ j, j < k → p xs[j]! = false) ∧ Calls Try.prog 92 #[.slice (some ⟨g, 0, none⟩) n cap, .func (.func fg) #[] lb] w fun e w' => e = .returned (.int .i64 (k : Int)) ∧ Below w.heap.size w w' := by
  subst hnx
  have h := AnyQ.slices_IndexFunc Try.indexFE 4 Try.isAgg82 Try.sizeOf82 encE encE_len p fg lb eg g 0 xs.length cap xs w (predE_below hp hb) (Nat.le_refl _) (by omega) hr.1 (rowE_cells hr)
  change Calls Try.prog 92 _ _ _ at h
  rw [List.take_length] at h
  unfold Lib.idxBy at h
  rcases idxByFrom_spec (fun _ y => p y) default xs 0 with ⟨e1, hall⟩ | ⟨k, hk, e1, ht, hall⟩
  · rw [e1] at h
    refine .inl ⟨fun e hm => ?_, h⟩
    obtain ⟨j, hj, rfl⟩ := List.mem_iff_getElem.1 hm
    have := hall j hj
    rwa [getElem!_pos xs j hj] at this
  · rw [e1, Nat.zero_add] at h
    exact .inr ⟨k, hk, ht, hall, h⟩

theorem zeroE : (∀ w, (zeroValue 82).run Try.prog w = .ok (.agg #[.string ⟨#[]⟩, .string ⟨#[]⟩, .int .i64 0, .int .i64 0]) w) := Try.zeroValue82

/-- the cells that are cleared -/
theorem setCells_below {B g : Nat} {W : World} (hg : B ≤ g) : ∀ (vs : List Value) (o : Nat) (w : World), Below B W w → Below B W (w.setCells g o vs)
  | [], _, _, h => h
  | v :: vs, o, w, h => setCells_below hg vs (o + 1) _ (h.setCell (p := ⟨g, o, none⟩) hg v)
theorem setCells_size (g : Nat) : ∀ (vs : List Value) (o : Nat) (w : World), (w.setCells g o vs).heap.size = w.heap.size
  | [], _, _ => rfl
  | v :: vs, o, w => by rw [World.setCells, setCells_size g vs (o + 1)]; simp
theorem RowE.clear {w : World} {g i : Nat} {ys : List Ent} (h : RowE w g ys) (vs : List Value) : RowE (w.setCells g (i * 4) vs) g (ys.take i) := by
  refine ⟨by rw [setCells_size]; exact h.1, fun k hk => ?_⟩
  have hk' : k < i ∧ k < ys.length := by simp at hk; omega
  have : (ys.take i)[k]! = ys[k]! := by rw [getElem!_pos _ k hk, getElem!_pos ys k hk'.2]; simp
  rw [this]
  obtain ⟨a, b, c, d⟩ := h.2 k hk'.2
  refine ⟨?_, ?_, ?_, ?_⟩
  · rw [World.cell?_setCells_out g _ _ _ _ (fun _ _ => .inl (by show k * 4 < i * 4; omega))]; exact a
  · rw [World.cell?_setCells_out g _ _ _ _ (fun _ _ => .inl (by show k * 4 + 1 < i * 4; omega))]; exact b
  · rw [World.cell?_setCells_out g _ _ _ _ (fun _ _ => .inl (by show k * 4 + 2 < i * 4; omega))]; exact c
  · rw [World.cell?_setCells_out g _ _ _ _ (fun _ _ => .inl (by show k * 4 + 3 < i * 4; omega))]; exact d
theorem At4.some {w : World} {g o : Nat} {e : Ent} (h : At4 w g o e) (j : Nat) (hj : j < 4) : (w.cell? ⟨g, o + j, none⟩).isSome = true := by
  obtain ⟨a, b, c, d⟩ := h
  match j, hj with
  | 0, _ => rw [Nat.add_zero, a]; rfl
  | 1, _ => rw [b]; rfl
  | 2, _ => rw [c]; rfl
  | 3, _ => rw [d]; rfl

set_option maxRecDepth 100000 in
set_option maxHeartbeats 4000000 in
theorem delF {fg : Nat} {lb : Array Value} {p : Ent → Bool} {W : World} (eg : ∀ args w, (callFunc fg args).run Try.prog w = .ok (.enter fg args) w) (hp : PredE fg lb p W) (g n cap : Nat) (xs : List Ent) (hnx : xs.length = n) (w : World) (hb : Below W.heap.size W w) (hg : W.heap.size ≤ g) (hr : RowE w g xs) (hf : FreeE w g n) (hn : n ≤ 900000) (hc : n ≤ cap) (hcm : cap ≤ maxLen) :
    Calls Try.prog 83 #[.slice (some ⟨g, 0, none⟩) n cap, .func (.func fg) #[] lb] w (OutE W.heap.size W (xs.filter fun e => !p e)) := by
  have hIF := indexF eg hp g n cap xs hnx w hb hr hn
  have e6 : ∀ args w, (callFunc 92 args).run Try.prog w = .ok (.enter 92 args) w := enters_of Try.func92 (by kernel_rfl) rfl
  have HR := Lib.hid hr
  have HF := Lib.hid hf
  have HP := Lib.hid hp
  have HB := Lib.hid hb
  unfold maxLen at hcm
  have HN := Lib.hid hnx
  clear hnx
  rcases hIF with ⟨hall, hIF⟩ | ⟨k0, hk0, ht, hall, hIF⟩
  · have HIF := Lib.hid hIF
    have HA := Lib.hid hall
    clear hIF hr hf hp hb hall
    go_enter Try.func83, Try.ntmps83
    go_wp2_with (go_at_call 92; refine HIF.out.mono ?_; rintro e w1 ⟨rfl, hb1⟩; have HB1 := Lib.hid hb1; clear hb1)
    go_ret
    rw [filter_all HA.out]
    exact ⟨_, cap, by rw [HN.out]; rfl, ⟨rfl, .inr ⟨g, rfl, HR.out.keep HB1.out⟩⟩, below_then HB.out HB1.out⟩
  · have HIF := Lib.hid hIF
    have hI0 : KeptE p xs k0 (k0 + 1) xs := KeptE.start (by rw [HN.out]; exact hk0) hall ht
    have HI0 := Lib.hid hI0
    have hne1 : ((k0 : Int) == -1) = false := beq_eq_false_iff_ne.2 (by omega)
    clear hIF hr hf hp hb hall ht hI0
    go_enter Try.func83, Try.ntmps83
    go_wp2_with (go_at_call 92; refine HIF.out.mono ?_; rintro e w1 ⟨rfl, hb1⟩; have HB1 := Lib.hid hb1; clear hb1)
    go_loopg [5, 6, 7] n (fun gg s5 s6 _ wr => ∃ (i j : Nat) (ys : List Ent), s5 = .int .i64 i ∧ s6 = .int .i64 j ∧ j ≤ n ∧ n - j ≤ gg ∧ Hid (KeptE p xs i j ys) ∧ Hid (RowE wr g ys) ∧ Hid (FreeE wr g n) ∧ Hid (Below W.heap.size W wr))
    case atStart => exact ⟨k0, k0 + 1, xs, rfl, by go_num, by omega, by omega, HI0, Lib.hid (HR.out.keep HB1.out), Lib.hid (HF.out.keep HB1.out HR.out.1), Lib.hid (below_then HB.out HB1.out)⟩
    case round =>
      obtain ⟨i, j, ys, rfl, rfl, hj, hgg, HI, HRr, HFr, HBr⟩ := hrel
      have hij := HI.out.lt
      have hyl := HI.out.len
      rw [HN.out] at hyl
      have HYL := Lib.hid hyl
      clear hyl
      by_cases hlt : j < n
      · have hltz : (j : Int) < (n : Int) := by omega
        have hcj := HRr.out.2 j (by rw [HYL.out]; exact hlt)
        rw [HI.out.high j (by omega)] at hcj
        have hcall := HP.out (wr.alloc (.cells #[.string xs[j]!.key, .string xs[j]!.val, .int .i64 (xs[j]!.site : Int), .int .i64 (xs[j]!.count : Int)] 82)) xs[j]! (HBr.out.alloc HBr.out.size _)
        have HA0 := Lib.hid (box_below wr (.cells #[.string xs[j]!.key, .string xs[j]!.val, .int .i64 (xs[j]!.site : Int), .int .i64 (xs[j]!.count : Int)] 82))
        obtain ⟨u, hu⟩ : ∃ u, u = xs[j]! := ⟨_, rfl⟩
        have HU := Lib.hid hu
        rw [← hu] at hcj hcall HA0
        clear hu
        have hlu : (i : Int) < (n : Int) := by omega
        obtain ⟨c0, c1, c2, c3⟩ := hcj
        have hi4 : i * 4 + 3 < n * 4 := by omega
        cases hq : p u with
        | true =>
          rw [hq] at hcall
          have HQ : Hid (p u = true) := Lib.hid hq
          clear hq
          go_wp2_with (go_at_fn fg; refine hcall.mono ?_; rintro e w2 ⟨rfl, hb2⟩; have HB2 := Lib.hid (below_then HA0.out hb2); clear hb2)
          go_roundg (n - (j + 1))
          case measure => omega
          case rel =>
            exact ⟨i, j + 1, ys, rfl, by go_num, by omega, Nat.le_refl _, Lib.hid (HI.out.skip (by rw [HN.out]; exact hlt) (by rw [← HU.out]; exact HQ.out)), Lib.hid (HRr.out.keep HB2.out), Lib.hid (HFr.out.keep HB2.out HRr.out.1), Lib.hid (HBr.out.trans (HB2.out.mono HBr.out.size))⟩
        | false =>
          rw [hq] at hcall
          have HQ : Hid (p u = false) := Lib.hid hq
          have hci := HRr.out.2 i (by rw [HYL.out]; omega)
          generalize ys[i]! = old at hci
          have HX := Lib.hid (four_cells (heap_alloc_new wr (.cells #[.string u.key, .string u.val, .int .i64 (u.site : Int), .int .i64 (u.count : Int)] 82)))
          have HCI := Lib.hid hci
          clear hq hci
          go_wp2_with (go_at_fn fg; refine hcall.mono ?_; rintro e w2 ⟨rfl, hb2⟩; have x0 := cell_later hb2 HX.out.1; have x1 := cell_later hb2 HX.out.2.1; have x2 := cell_later hb2 HX.out.2.2.1; have x3 := cell_later hb2 HX.out.2.2.2; obtain ⟨d0, d1, d2, d3⟩ := (HCI.out.keep HA0.out HRr.out.1).keep hb2 (Nat.lt_of_lt_of_le HRr.out.1 HA0.out.size); have HB2 := Lib.hid (below_then HA0.out hb2); have f0 := HFr.out.keep HB2.out HRr.out.1 (i * 4) (by omega); have f1 := HFr.out.keep HB2.out HRr.out.1 (i * 4 + 1) (by omega); have f2 := HFr.out.keep HB2.out HRr.out.1 (i * 4 + 2) (by omega); have f3 := HFr.out.keep HB2.out HRr.out.1 (i * 4 + 3) (by omega); clear hb2)
          go_roundg (n - (j + 1))
          case measure => omega
          case rel =>
            refine ⟨i + 1, j + 1, ys.set i u, by go_num, by go_num, by omega, Nat.le_refl _, Lib.hid (by rw [HU.out]; exact HI.out.keep (by rw [HN.out]; exact hlt) (by rw [← HU.out]; exact HQ.out)), ?_, ?_, ?_⟩
            · exact Lib.hid ((HRr.out.keep HB2.out).set (by rw [HYL.out]; omega) u)
            · exact Lib.hid ((HFr.out.keep HB2.out HRr.out.1).set _ _)
            · exact Lib.hid (set4_below _ _ (HBr.out.trans (HB2.out.mono HBr.out.size)) hg)
      · obtain rfl : j = n := by omega
        have hltz : ¬ (j : Int) < (j : Int) := by omega
        have hcl : ∀ ty, (Builtin.clear_ #[32] ty #[.slice (some ⟨g, i * 4, none⟩) (j - i) (cap - i)]).run Try.prog wr = .ok (.tuple #[]) (wr.setCells g (i * 4) (Builtin.zeroCells (Value.agg #[.string ⟨#[]⟩, .string ⟨#[]⟩, .int .i64 0, .int .i64 0]).cells (j - i)).toList) :=
          fun ty => run_clear4 wr 32 82 ty _ Try.underlying32 zeroE rfl (fun v hv => by simp [Value.cells] at hv; rcases hv with rfl | rfl | rfl | rfl <;> rfl) g (i * 4) (j - i) (cap - i) (by omega)
            (fun t ht => by
              have h4 : t = t / 4 * 4 + t % 4 := by omega
              rw [h4, show i * 4 + (t / 4 * 4 + t % 4) = (i + t / 4) * 4 + t % 4 by omega]
              exact (HRr.out.2 (i + t / 4) (by rw [HYL.out]; omega)).some _ (by omega))
            (fun t ht => HFr.out _ (by omega))
        generalize (Builtin.zeroCells (Value.agg #[.string ⟨#[]⟩, .string ⟨#[]⟩, .int .i64 0, .int .i64 0]).cells (j - i)).toList = zs at hcl
        have hfin : Hid (El (wr.setCells g (i * 4) zs) (some ⟨g, 0, none⟩) i (xs.filter fun e => !p e) ∧ Below W.heap.size W (wr.setCells g (i * 4) zs)) := by
          have hd : ys.take i = xs.filter fun e => !p e := by
            have hI := HI.out
            rw [← HN.out] at hI
            exact hI.done
          rw [← hd]
          exact Lib.hid ⟨⟨by rw [List.length_take, HYL.out]; omega, .inr ⟨g, rfl, HRr.out.clear zs⟩⟩, setCells_below hg _ _ _ HBr.out⟩
        go_wp2
        go_ret
        have hl := hfin.out.1.1
        exact ⟨_, cap, by rw [hl]; rfl, by rw [hl]; exact hfin.out.1, hfin.out.2⟩
end Go.Proofs.Ytpghehckojdgeaa

/- The program's only: the entries of a table that are wanted. -/
set_option linter.unusedVariables false
set_option linter.unusedSimpArgs false
namespace Go.Proofs.Ytpghehckojdgeaa
open Go.RowKit Go.Shelf Go.Sort

/-! ### the empty slice -/
theorem indexF0 (ao : Option Addr) (cap : Nat) (fv : Value) (w : World) :
    Calls Try.prog 92 #[.slice ao 0 cap, fv] w fun e w' => e = .returned (.int .i64 (-1)) ∧ w = w' := by
  go_enter Try.func92, Try.ntmps92
  go_wp2
  refine wp_loop_rounds 1 ?_
  rw [rounds_succ]
  go_wp2
  go_ret
  exact ⟨rfl, rfl⟩
theorem delF0 (ao : Option Addr) (cap : Nat) (fv : Value) (w : World) :
    Calls Try.prog 83 #[.slice ao 0 cap, fv] w fun e w' => e = .returned (.slice ao 0 cap) ∧ w = w' := by
  go_enter Try.func83, Try.ntmps83
  go_wp2_with (go_at_call 92; refine (indexF0 ao cap fv _).mono ?_; rintro e w' ⟨rfl, rfl⟩)
  go_ret
  exact ⟨rfl, rfl⟩

theorem cloneE0 (ao : Option Addr) (n cap : Nat) (W : World) (h : El W ao n []) :
    Calls Try.prog 65 #[.slice ao n cap] W fun e w' => ∃ ao' cap', e = .returned (.slice ao' 0 cap') ∧ El w' ao' 0 [] ∧ Below W.heap.size W w' :=
  (clone_any ao n cap [] W h (by have := h.1; simp at this; omega)).mono fun e w' ⟨hb, h⟩ => by
    rcases h with ⟨_, ao', cap', he, hel⟩ | ⟨_, _, _, h0, _⟩
    · exact ⟨ao', cap', he, hel, hb⟩
    · simp at h0
theorem cloneE1 (ao : Option Addr) (n cap : Nat) (xs : List Ent) (W : World) (h : El W ao n xs) (h0 : 0 < n) (hn : n ≤ 900000) :
    Calls Try.prog 65 #[.slice ao n cap] W fun e w' => ∃ g cap', e = .returned (.slice (some ⟨g, 0, none⟩) n cap') ∧ OwnE w' W.heap.size (.slice (some ⟨g, 0, none⟩) n cap') n xs ∧ Below W.heap.size W w' :=
  (clone_any ao n cap xs W h hn).mono fun e w' ⟨hb, hh⟩ => by
    rcases hh with ⟨h1, _⟩ | ⟨g, cap', he, _, ho⟩
    · have := h.1; subst h1; simp at this; omega
    · rw [h.1] at he ho
      exact ⟨g, cap', he, ho, hb⟩

/-! ### tables -/
/-- a table's value -/
def tabV (s : Nat → Nat) (sl : Value) : Value := .agg #[.int .i64 (s 0 : Int), .int .i64 (s 1 : Int), .int .i64 (s 2 : Int), .int .i64 (s 3 : Int), .int .i64 (s 4 : Int), .int .i64 (s 5 : Int), .int .i64 (s 6 : Int), .int .i64 (s 7 : Int), sl]
/-- its cells -/
def tabC (s : Nat → Nat) (sl : Value) : Array Value := #[.int .i64 (s 0 : Int), .int .i64 (s 1 : Int), .int .i64 (s 2 : Int), .int .i64 (s 3 : Int), .int .i64 (s 4 : Int), .int .i64 (s 5 : Int), .int .i64 (s 6 : Int), .int .i64 (s 7 : Int), sl]

theorem only1_any {fg : Nat} {lb : Array Value} {p : Ent → Bool} {W : World} (eg : ∀ args w, (callFunc fg args).run Try.prog w = .ok (.enter fg args) w) (hp : PredE fg lb p W) (b : Nat) (W1 : World) (hb : Below W.heap.size W W1) (hc : W1.cell? ⟨b, 0, none⟩ = some (.func (.func fg) #[] lb)) :
    PredE 84 #[.pointer (some ⟨b, 0, none⟩)] (fun x => !p x) W1 := by
  intro w x hw
  have hbw : Below W.heap.size W (w.alloc (.cells #[.string x.key, .string x.val, .int .i64 (x.site : Int), .int .i64 (x.count : Int)] 82)) := (hb.trans (hw.mono hb.size)).alloc (Nat.le_trans hb.size hw.size) _
  have hcall := hp _ x hbw
  have hcw := cell_later hw hc
  have HB := Lib.hid (box_below w (.cells #[.string x.key, .string x.val, .int .i64 (x.site : Int), .int .i64 (x.count : Int)] 82))
  have hcw2 := cell_later HB.out hcw
  clear hb hc hp hw hcw
  show Calls _ _ #[.agg #[.string x.key, .string x.val, .int .i64 (x.site : Int), .int .i64 (x.count : Int)], .pointer (some ⟨b, 0, none⟩)] _ (fun e w' => e = .returned (.bool (!p x)) ∧ Below w.heap.size w w')
  generalize p x = r at hcall ⊢
  go_enter Try.func84, Try.ntmps84
  go_wp2_with (go_at_fn fg; refine hcall.mono ?_; rintro e w' ⟨rfl, hb'⟩; have HB' := Lib.hid (below_then HB.out hb'); clear hb')
  go_ret
  exact ⟨rfl, HB'.out⟩
end Go.Proofs.Ytpghehckojdgeaa

/- The program's only, Remove, Entries, Seen. -/
set_option linter.unusedVariables false
set_option linter.unusedSimpArgs false
namespace Go.Proofs.Ytpghehckojdgeaa
open Go.RowKit Go.Shelf Go.Sort

theorem nine_cells {w : World} {T : Nat} {s : Nat → Nat} {sl : Value} {ty : TypeId} (h : w.heap[T]? = some (.cells (tabC s sl) ty (0, 0))) :
    w.cell? ⟨T, 0, none⟩ = some (.int .i64 (s 0 : Int)) ∧ w.cell? ⟨T, 1, none⟩ = some (.int .i64 (s 1 : Int)) ∧ w.cell? ⟨T, 2, none⟩ = some (.int .i64 (s 2 : Int)) ∧ w.cell? ⟨T, 3, none⟩ = some (.int .i64 (s 3 : Int)) ∧ w.cell? ⟨T, 4, none⟩ = some (.int .i64 (s 4 : Int)) ∧
    w.cell? ⟨T, 5, none⟩ = some (.int .i64 (s 5 : Int)) ∧ w.cell? ⟨T, 6, none⟩ = some (.int .i64 (s 6 : Int)) ∧ w.cell? ⟨T, 7, none⟩ = some (.int .i64 (s 7 : Int)) ∧ w.cell? ⟨T, 8, none⟩ = some sl := by
  unfold tabC at h
  refine ⟨?_, ?_, ?_, ?_, ?_, ?_, ?_, ?_, ?_⟩
  all_goals (simp only [World.cell?]; rw [h]; simp; done)
theorem block1 (W : World) (a b : Obj) : ((W.alloc a).alloc b).heap[W.heap.size]? = some a := by
  rw [Below.heap_alloc _ _ _ (by simp)]; exact heap_alloc_new _ _
theorem block2 (W : World) (a b : Obj) : ((W.alloc a).alloc b).heap[W.heap.size + 1]? = some b := by
  have := heap_alloc_new (W.alloc a) b
  rwa [World.size_alloc] at this
theorem below2 (W : World) (a b : Obj) : Below W.heap.size W ((W.alloc a).alloc b) := (box_below W a).alloc (by simp) _

set_option maxRecDepth 100000 in
set_option maxHeartbeats 2000000 in
theorem only_any {fg : Nat} {lb : Array Value} {p : Ent → Bool} {W : World} (eg : ∀ args w, (callFunc fg args).run Try.prog w = .ok (.enter fg args) w) (hp : PredE fg lb p W) (s : Nat → Nat) (ao : Option Addr) (n cap : Nat) (xs : List Ent) (h : El W ao n xs) (hn : n ≤ 900000) :
    Calls Try.prog 59 #[tabV s (.slice ao n cap), .func (.func fg) #[] lb] W (OutE W.heap.size W (xs.filter p)) := by
  obtain ⟨V, hV⟩ : ∃ V, V = (W.alloc (.cells (tabC s (.slice ao n cap)) 34)).alloc (.cells #[.func (.func fg) #[] lb] 83) := ⟨_, rfl⟩
  have hb0 : Below W.heap.size W V := by rw [hV]; exact below2 W _ _
  have r8 : V.cell? ⟨W.heap.size, 8, none⟩ = some (.slice ao n cap) := (nine_cells (w := V) (s := s) (sl := .slice ao n cap) (ty := 34) (by rw [hV]; exact block1 W _ _)).2.2.2.2.2.2.2.2
  have rf : V.cell? ⟨W.heap.size + 1, 0, none⟩ = some (.func (.func fg) #[] lb) := by
    simp only [World.cell?]
    rw [hV, block2]
    simp
  have hel := h.keep hb0
  have HB := Lib.hid hb0
  have hO : ∀ w1, Below V.heap.size V w1 → PredE 84 #[.pointer (some ⟨W.heap.size + 1, 0, none⟩)] (fun x => !p x) w1 := fun w1 hb1 => only1_any eg hp _ w1 (HB.out.trans (hb1.mono HB.out.size)) (cell_later hb1 rf)
  have HO := Lib.hid hO
  have egO : ∀ args w, (callFunc 84 args).run Try.prog w = .ok (.enter 84 args) w := enters_of Try.func84 (by kernel_rfl) rfl
  have HV := Lib.hid hV
  clear hV hb0 hO
  unfold tabV
  by_cases h0 : n = 0
  · have hx : xs = [] := by have := h.1; subst h0; exact List.eq_nil_of_length_eq_zero this
    subst hx h0
    have HC := Lib.hid (cloneE0 ao 0 cap V hel)
    clear hel h
    go_enter Try.func59, Try.ntmps59
    go_upto_region 1 with fail
    unfold tabC at HV
    rw [← HV.out]
    go_wp2_with (first | (go_at_call 65; refine HC.out.mono ?_; rintro e w1 ⟨ao', cap', rfl, hel1, hb1⟩; have HE1 := Lib.hid hel1; have HB1 := Lib.hid hb1; clear hel1 hb1) | (go_at_call 83; refine (delF0 _ _ _ _).mono ?_; rintro e w2 ⟨rfl, rfl⟩))
    go_ret
    exact ⟨ao', cap', rfl, HE1.out, HB.out.trans (HB1.out.mono HB.out.size)⟩
  · have HC := Lib.hid (cloneE1 ao n cap xs V hel (by omega) hn)
    have HX := Lib.hid h.1
    clear hel h
    go_enter Try.func59, Try.ntmps59
    go_upto_region 1 with fail
    unfold tabC at HV
    rw [← HV.out]
    go_wp2_with (first | (go_at_call 65; refine HC.out.mono ?_; rintro e w1 ⟨g, cap', rfl, hown, hb1⟩; have HB1 := Lib.hid hb1; have HOW := Lib.hid hown.row; have HD := Lib.hid (delF egO (HO.out V (Below.refl _ _)) g n cap' xs HX.out w1 hb1 HOW.out.2.2.1 HOW.out.1 HOW.out.2.1 hn HOW.out.2.2.2.1 HOW.out.2.2.2.2); clear hown hb1) | (go_at_call 83; refine HD.out.mono ?_; rintro e w2 ⟨ao2, cap2, rfl, hel2, hb2⟩; have HE2 := Lib.hid hel2; have HB2 := Lib.hid hb2; clear hel2 hb2))
    go_ret
    have e : (xs.filter fun e => !(!p e)) = xs.filter p := by simp
    rw [e] at HE2
    exact ⟨ao2, cap2, rfl, HE2.out, HB.out.trans (HB2.out.mono HB.out.size)⟩

/-! ### Remove -/
noncomputable def isKeyB (k : ByteArray) (e : Ent) : Bool := decide (e.key = k)
theorem rem1_any (b : Nat) (k : ByteArray) (W1 : World) (hc : W1.cell? ⟨b, 0, none⟩ = some (.string k)) :
    PredE 76 #[.pointer (some ⟨b, 0, none⟩)] (fun x => !(isKeyB k x)) W1 := by
  intro w x hw
  have hcw := cell_later hw hc
  have HB := Lib.hid (box_below w (.cells #[.string x.key, .string x.val, .int .i64 (x.site : Int), .int .i64 (x.count : Int)] 82))
  have hcw2 := cell_later HB.out hcw
  clear hc hw hcw
  show Calls _ _ #[.agg #[.string x.key, .string x.val, .int .i64 (x.site : Int), .int .i64 (x.count : Int)], .pointer (some ⟨b, 0, none⟩)] _ (fun e w' => e = .returned (.bool (!(isKeyB k x))) ∧ Below w.heap.size w w')
  by_cases h : x.key = k
  · have e : isKeyB k x = true := by unfold isKeyB; simp [h]
    rw [e]
    have q := str_eq h
    clear e h
    go_enter Try.func76, Try.ntmps76
    go_wp2
    go_ret
    exact ⟨rfl, HB.out⟩
  · have e : isKeyB k x = false := by unfold isKeyB; simp [h]
    rw [e]
    have q := str_ne h
    clear e h
    go_enter Try.func76, Try.ntmps76
    go_wp2
    go_ret
    exact ⟨rfl, HB.out⟩
end Go.Proofs.Ytpghehckojdgeaa

/- Blocks of nine cells (tables); the program's Remove, Entries, Seen. (By gen_tab.py.) -/
set_option linter.unusedVariables false
set_option linter.unusedSimpArgs false
namespace Go.Proofs.Ytpghehckojdgeaa
open Go.RowKit Go.Shelf Go.Sort

theorem free_nine {w : World} {T : Nat} {a0 a1 a2 a3 a4 a5 a6 a7 a8 : Value} {ty : TypeId} (h : w.heap[T]? = some (.cells #[a0, a1, a2, a3, a4, a5, a6, a7, a8] ty (0, 0))) (o : Nat) : w.frozen? ⟨T, o, none⟩ = false := by
  simp only [World.frozen?]; rw [h]; simp
theorem cell_nine {w : World} {T : Nat} {a0 a1 a2 a3 a4 a5 a6 a7 a8 : Value} {ty : TypeId} (h : w.heap[T]? = some (.cells #[a0, a1, a2, a3, a4, a5, a6, a7, a8] ty (0, 0))) :
    w.cell? ⟨T, 0, none⟩ = some a0 ∧ w.cell? ⟨T, 1, none⟩ = some a1 ∧ w.cell? ⟨T, 2, none⟩ = some a2 ∧ w.cell? ⟨T, 3, none⟩ = some a3 ∧ w.cell? ⟨T, 4, none⟩ = some a4 ∧ w.cell? ⟨T, 5, none⟩ = some a5 ∧ w.cell? ⟨T, 6, none⟩ = some a6 ∧ w.cell? ⟨T, 7, none⟩ = some a7 ∧ w.cell? ⟨T, 8, none⟩ = some a8 := by
  refine ⟨?_, ?_, ?_, ?_, ?_, ?_, ?_, ?_, ?_⟩
  all_goals (simp only [World.cell?]; rw [h]; simp; done)
theorem set_nine {w : World} {T : Nat} {a0 a1 a2 a3 a4 a5 a6 a7 a8 x0 x1 x2 x3 x4 x5 x6 x7 x8 : Value} {ty : TypeId} (h : w.heap[T]? = some (.cells #[a0, a1, a2, a3, a4, a5, a6, a7, a8] ty (0, 0))) :
    (((((((((w.setCell ⟨T, 0, none⟩ x0).setCell ⟨T, 1, none⟩ x1).setCell ⟨T, 2, none⟩ x2).setCell ⟨T, 3, none⟩ x3).setCell ⟨T, 4, none⟩ x4).setCell ⟨T, 5, none⟩ x5).setCell ⟨T, 6, none⟩ x6).setCell ⟨T, 7, none⟩ x7).setCell ⟨T, 8, none⟩ x8).heap[T]? = some (.cells #[x0, x1, x2, x3, x4, x5, x6, x7, x8] ty (0, 0)) := by
  simp only [World.setCell, Array.getElem?_modify]
  rw [h]
  simp
theorem cell_set9 (w : World) (T b o : Nat) (x0 x1 x2 x3 x4 x5 x6 x7 x8 : Value) (h : b ≠ T) : (((((((((w.setCell ⟨T, 0, none⟩ x0).setCell ⟨T, 1, none⟩ x1).setCell ⟨T, 2, none⟩ x2).setCell ⟨T, 3, none⟩ x3).setCell ⟨T, 4, none⟩ x4).setCell ⟨T, 5, none⟩ x5).setCell ⟨T, 6, none⟩ x6).setCell ⟨T, 7, none⟩ x7).setCell ⟨T, 8, none⟩ x8).cell? ⟨b, o, none⟩ = w.cell? ⟨b, o, none⟩ := by
  have e : (((((((((w.setCell ⟨T, 0, none⟩ x0).setCell ⟨T, 1, none⟩ x1).setCell ⟨T, 2, none⟩ x2).setCell ⟨T, 3, none⟩ x3).setCell ⟨T, 4, none⟩ x4).setCell ⟨T, 5, none⟩ x5).setCell ⟨T, 6, none⟩ x6).setCell ⟨T, 7, none⟩ x7).setCell ⟨T, 8, none⟩ x8).heap[b]? = w.heap[b]? := by
    rw [Below.heap_setCell _ _ _ _ h, Below.heap_setCell _ _ _ _ h, Below.heap_setCell _ _ _ _ h, Below.heap_setCell _ _ _ _ h, Below.heap_setCell _ _ _ _ h, Below.heap_setCell _ _ _ _ h, Below.heap_setCell _ _ _ _ h, Below.heap_setCell _ _ _ _ h, Below.heap_setCell _ _ _ _ h]
  simp only [World.cell?, e]
theorem below_set9 {B : Nat} {W w : World} {T : Nat} (x0 x1 x2 x3 x4 x5 x6 x7 x8 : Value) (hb : Below B W w) (hT : B ≤ T) : Below B W (((((((((w.setCell ⟨T, 0, none⟩ x0).setCell ⟨T, 1, none⟩ x1).setCell ⟨T, 2, none⟩ x2).setCell ⟨T, 3, none⟩ x3).setCell ⟨T, 4, none⟩ x4).setCell ⟨T, 5, none⟩ x5).setCell ⟨T, 6, none⟩ x6).setCell ⟨T, 7, none⟩ x7).setCell ⟨T, 8, none⟩ x8) := by
  exact ((((((((hb.setCell (p := ⟨T, 0, none⟩) hT _).setCell (p := ⟨T, 1, none⟩) hT _).setCell (p := ⟨T, 2, none⟩) hT _).setCell (p := ⟨T, 3, none⟩) hT _).setCell (p := ⟨T, 4, none⟩) hT _).setCell (p := ⟨T, 5, none⟩) hT _).setCell (p := ⟨T, 6, none⟩) hT _).setCell (p := ⟨T, 7, none⟩) hT _).setCell (p := ⟨T, 8, none⟩) hT _
theorem row_later {B : Nat} {w w' : World} {b : Nat} {o : Obj} (hb : Below B w w') (hB : b < B) (h : w.heap[b]? = some o) : w'.heap[b]? = some o := by rw [hb.block b hB]; exact h
theorem row_keep {w w' : World} {b : Nat} {o : Obj} (hb : Below w.heap.size w w') (h : w.heap[b]? = some o) : w'.heap[b]? = some o := row_later hb (Array.getElem?_eq_some_iff.1 h).1 h

/-- what is written into a block that begins with an integer touches no entries -/
theorem RowE.only {w w' : World} {g T : Nat} {z : Int} {xs : List Ent} (h : RowE w g xs) (hT : w.cell? ⟨T, 0, none⟩ = some (.int .i64 z)) (hk : ∀ b o, b ≠ T → w'.cell? ⟨b, o, none⟩ = w.cell? ⟨b, o, none⟩) (hs : w.heap.size ≤ w'.heap.size) : RowE w' g xs := by
  refine ⟨Nat.lt_of_lt_of_le h.1 hs, fun i hi => ?_⟩
  have hg : g ≠ T := by
    intro e
    subst e
    have := (h.2 0 (by omega)).1
    rw [Nat.zero_mul, hT] at this
    cases this
  obtain ⟨a, b, c, d⟩ := h.2 i hi
  exact ⟨(hk g _ hg).trans a, (hk g _ hg).trans b, (hk g _ hg).trans c, (hk g _ hg).trans d⟩
theorem El.only {w w' : World} {ao : Option Addr} {n T : Nat} {z : Int} {xs : List Ent} (h : El w ao n xs) (hT : w.cell? ⟨T, 0, none⟩ = some (.int .i64 z)) (hk : ∀ b o, b ≠ T → w'.cell? ⟨b, o, none⟩ = w.cell? ⟨b, o, none⟩) (hs : w.heap.size ≤ w'.heap.size) : El w' ao n xs := by
  obtain ⟨h1, h2⟩ := h
  refine ⟨h1, ?_⟩
  rcases h2 with h2 | ⟨g, h2, h3⟩
  · exact .inl h2
  · exact .inr ⟨g, h2, h3.only hT hk hs⟩
/-- a table is returned -/
def OutT (W : World) (T : Tab) (e : Ending) (w' : World) : Prop := ∃ ao n cap, e = .returned (tabV T.seen (.slice ao n cap)) ∧ El w' ao n T.L ∧ Below W.heap.size W w'
/-- the table without anything -/
def zeroT : Value := .agg #[.int .i64 0, .int .i64 0, .int .i64 0, .int .i64 0, .int .i64 0, .int .i64 0, .int .i64 0, .int .i64 0, .slice none 0 0]
def zeroC : Array Value := #[.int .i64 0, .int .i64 0, .int .i64 0, .int .i64 0, .int .i64 0, .int .i64 0, .int .i64 0, .int .i64 0, .slice none 0 0]
theorem block3 (W : World) (a b c : Obj) : (((W.alloc a).alloc b).alloc c).heap[W.heap.size + 1 + 1]? = some c := by
  have := heap_alloc_new ((W.alloc a).alloc b) c
  rwa [World.size_alloc, World.size_alloc] at this
theorem below3 (W : World) (a b c : Obj) : Below W.heap.size W (((W.alloc a).alloc b).alloc c) := (below2 W a b).alloc (by simp; omega) _

set_option maxRecDepth 100000 in
set_option maxHeartbeats 4000000 in
theorem remove_any (s : Nat → Nat) (ao : Option Addr) (n cap : Nat) (xs : List Ent) (k : ByteArray) (W : World) (h : El W ao n xs) (hn : n ≤ 900000) :
    Calls Try.prog 53 #[tabV s (.slice ao n cap), .string k] W (OutT W (remT ⟨s, xs⟩ k)) := by
  obtain ⟨V, hV⟩ : ∃ V, V = ((W.alloc (.cells #[.int .i64 (s 0 : Int), .int .i64 (s 1 : Int), .int .i64 (s 2 : Int), .int .i64 (s 3 : Int), .int .i64 (s 4 : Int), .int .i64 (s 5 : Int), .int .i64 (s 6 : Int), .int .i64 (s 7 : Int), .slice ao n cap] 34)).alloc (.cells #[.string k] 9)).alloc (.cells #[.int .i64 0, .int .i64 0, .int .i64 0, .int .i64 0, .int .i64 0, .int .i64 0, .int .i64 0, .int .i64 0, .slice none 0 0] 34) := ⟨_, rfl⟩
  have hb0 : Below W.heap.size W V := by rw [hV]; exact below3 W _ _ _
  obtain ⟨r0, r1, r2, r3, r4, r5, r6, r7, r8⟩ := cell_nine (w := V) (T := W.heap.size) (ty := 34) (by rw [hV, Below.heap_alloc _ _ _ (by simp; omega)]; exact block1 W _ _)
  have hk : V.cell? ⟨W.heap.size + 1, 0, none⟩ = some (.string k) := by
    simp only [World.cell?]
    rw [hV, Below.heap_alloc _ _ _ (by simp), block2]
    simp
  have hR : V.heap[W.heap.size + 1 + 1]? = some (.cells #[.int .i64 0, .int .i64 0, .int .i64 0, .int .i64 0, .int .i64 0, .int .i64 0, .int .i64 0, .int .i64 0, .slice none 0 0] 34 (0, 0)) := by rw [hV]; exact block3 W _ _ _
  have egO : ∀ args w, (callFunc 76 args).run Try.prog w = .ok (.enter 76 args) w := enters_of Try.func76 (by kernel_rfl) rfl
  have OC : Hid (∀ w', Below V.heap.size V w' → Calls Try.prog 59 #[.agg #[.int .i64 (s 0 : Int), .int .i64 (s 1 : Int), .int .i64 (s 2 : Int), .int .i64 (s 3 : Int), .int .i64 (s 4 : Int), .int .i64 (s 5 : Int), .int .i64 (s 6 : Int), .int .i64 (s 7 : Int), .slice ao n cap], .func (.func 76) #[] #[.pointer (some ⟨W.heap.size + 1, 0, none⟩)]] w' (OutE w'.heap.size w' (xs.filter fun x => !(isKeyB k x)))) :=
    Lib.hid fun w' hb => only_any egO (rem1_any _ k w' (cell_later hb hk)) s ao n cap xs ((h.keep hb0).keep hb) hn
  have HB := Lib.hid hb0
  have HR := Lib.hid hR
  have HV := Lib.hid hV
  have hBV : W.heap.size + 1 + 1 < V.heap.size := (Array.getElem?_eq_some_iff.1 hR).1
  clear hV hb0 hk hR h
  unfold tabV
  go_enter Try.func53, Try.ntmps53
  go_upto_region 1 with fail
  rw [← HV.out]
  go_region_held3 (fun w' => w'.cell? ⟨W.heap.size, 0, none⟩ = some (.int .i64 (s 0 : Int)) ∧ w'.cell? ⟨W.heap.size, 1, none⟩ = some (.int .i64 (s 1 : Int)) ∧ w'.cell? ⟨W.heap.size, 2, none⟩ = some (.int .i64 (s 2 : Int)) ∧ w'.cell? ⟨W.heap.size, 3, none⟩ = some (.int .i64 (s 3 : Int)) ∧ w'.cell? ⟨W.heap.size, 4, none⟩ = some (.int .i64 (s 4 : Int)) ∧ w'.cell? ⟨W.heap.size, 5, none⟩ = some (.int .i64 (s 5 : Int)) ∧ w'.cell? ⟨W.heap.size, 6, none⟩ = some (.int .i64 (s 6 : Int)) ∧ w'.cell? ⟨W.heap.size, 7, none⟩ = some (.int .i64 (s 7 : Int)) ∧ w'.cell? ⟨W.heap.size, 8, none⟩ = some (.slice ao n cap)) (first | (go_keep; done) | ((try dsimp only); (repeat' apply And.intro) <;> (first | (go_keep; done) | (with_reducible exact (cell_set9 _ _ _ _ _ _ _ _ _ _ _ _ _ (by omega)).trans (by assumption)))))
    (first | (go_at_call 59; refine (OC.out _ (below_drewN (Below.refl _ _) 1)).mono ?_; rintro e w1 ⟨ao1, cap1, rfl, hel1, hb1⟩; have B1 := Lib.hid (below_then (below_drewN (Below.refl V.heap.size V) 1) hb1); have HE1 := Lib.hid hel1; have s0 := cell_later B1.out r0; have s1 := cell_later B1.out r1; have s2 := cell_later B1.out r2; have s3 := cell_later B1.out r3; have s4 := cell_later B1.out r4; have s5 := cell_later B1.out r5; have s6 := cell_later B1.out r6; have s7 := cell_later B1.out r7; have s8 := cell_later B1.out r8; have HR1 := Lib.hid (row_keep B1.out HR.out); obtain ⟨t0, t1, t2, t3, t4, t5, t6, t7, t8⟩ := cell_nine HR1.out; have f0 := free_nine HR1.out 0; have f1 := free_nine HR1.out 1; have f2 := free_nine HR1.out 2; have f3 := free_nine HR1.out 3; have f4 := free_nine HR1.out 4; have f5 := free_nine HR1.out 5; have f6 := free_nine HR1.out 6; have f7 := free_nine HR1.out 7; have f8 := free_nine HR1.out 8; clear hb1 hel1))
  go_wp2
  refine bodyPost_ret (v := tabV s (.slice ao1 _ cap1)) (results_cell_row Try.results53 _ _ (W.heap.size + 1 + 1) 34 (tabC s (.slice ao1 _ cap1)) (0, 0) _ rfl (set_nine HR1.out) Try.underlying34 (by kernel_rfl) (by kernel_rfl)) rfl ?_
  exact ⟨ao1, _, cap1, rfl, El.only HE1.out t0 (fun b o hb => cell_set9 _ _ _ _ _ _ _ _ _ _ _ _ _ hb) (by simp), below_set9 _ _ _ _ _ _ _ _ _ (HB.out.trans (B1.out.mono HB.out.size)) (by omega)⟩
end Go.Proofs.Ytpghehckojdgeaa

/- The program's saw, isSite, isKey, isValue, Seen, Entries. (By gen_saw.py.) -/
set_option linter.unusedVariables false
set_option linter.unusedSimpArgs false
namespace Go.Proofs.Ytpghehckojdgeaa
open Go.RowKit Go.Shelf Go.Sort

theorem eight_at {w : World} {T : Nat} {s : Nat → Nat} {ty : TypeId} (h : w.heap[T]? = some (.cells #[.int .i64 (s 0 : Int), .int .i64 (s 1 : Int), .int .i64 (s 2 : Int), .int .i64 (s 3 : Int), .int .i64 (s 4 : Int), .int .i64 (s 5 : Int), .int .i64 (s 6 : Int), .int .i64 (s 7 : Int)] ty (0, 0))) (i : Nat) (hi : i < 8) : w.cell? ⟨T, i, none⟩ = some (.int .i64 (s i : Int)) := by
  have : i = 0 ∨ i = 1 ∨ i = 2 ∨ i = 3 ∨ i = 4 ∨ i = 5 ∨ i = 6 ∨ i = 7 := by omega
  simp only [World.cell?]; rw [h]
  rcases this with rfl | rfl | rfl | rfl | rfl | rfl | rfl | rfl <;> simp
theorem nine_at {w : World} {T : Nat} {s : Nat → Nat} {sl : Value} {ty : TypeId} (h : w.heap[T]? = some (.cells #[.int .i64 (s 0 : Int), .int .i64 (s 1 : Int), .int .i64 (s 2 : Int), .int .i64 (s 3 : Int), .int .i64 (s 4 : Int), .int .i64 (s 5 : Int), .int .i64 (s 6 : Int), .int .i64 (s 7 : Int), sl] ty (0, 0))) (i : Nat) (hi : i < 8) : w.cell? ⟨T, i, none⟩ = some (.int .i64 (s i : Int)) := by
  have : i = 0 ∨ i = 1 ∨ i = 2 ∨ i = 3 ∨ i = 4 ∨ i = 5 ∨ i = 6 ∨ i = 7 := by omega
  simp only [World.cell?]; rw [h]
  rcases this with rfl | rfl | rfl | rfl | rfl | rfl | rfl | rfl <;> simp
theorem two_cells {w : World} {T : Nat} {a b : Value} {ty : TypeId} (h : w.heap[T]? = some (.cells #[a, b] ty (0, 0))) : w.cell? ⟨T, 0, none⟩ = some a ∧ w.cell? ⟨T, 1, none⟩ = some b := by
  constructor
  all_goals (simp only [World.cell?]; rw [h]; simp; done)

set_option maxRecDepth 100000 in
set_option maxHeartbeats 1000000 in
theorem saw_any (s : Nat → Nat) (e : Ent) (W : World) :
    Calls Try.prog 62 #[.agg #[.int .i64 (s 0 : Int), .int .i64 (s 1 : Int), .int .i64 (s 2 : Int), .int .i64 (s 3 : Int), .int .i64 (s 4 : Int), .int .i64 (s 5 : Int), .int .i64 (s 6 : Int), .int .i64 (s 7 : Int)], .agg #[.int .i64 (e.site : Int), .int .i64 (e.count : Int)]] W fun r w' => r = .returned (.bool (saw s e)) ∧ Below W.heap.size W w' := by
  obtain ⟨_, _, i, c, hi⟩ := e
  obtain ⟨V, hV⟩ : ∃ V, V = (W.alloc (.cells #[.int .i64 (s 0 : Int), .int .i64 (s 1 : Int), .int .i64 (s 2 : Int), .int .i64 (s 3 : Int), .int .i64 (s 4 : Int), .int .i64 (s 5 : Int), .int .i64 (s 6 : Int), .int .i64 (s 7 : Int)] 31)).alloc (.cells #[.int .i64 (i : Int), .int .i64 (c : Int)] 80) := ⟨_, rfl⟩
  have HB : Hid (Below W.heap.size W V) := Lib.hid (by rw [hV]; exact below2 W _ _)
  have h1 := eight_at (w := V) (T := W.heap.size) (s := s) (ty := 31) (by rw [hV]; exact block1 W _ _) i hi
  obtain ⟨d0, d1⟩ := two_cells (w := V) (T := W.heap.size + 1) (a := .int .i64 (i : Int)) (b := .int .i64 (c : Int)) (ty := 80) (by rw [hV]; exact block2 W _ _)
  have HV := Lib.hid hV
  have i0 : (0 : Int) ≤ (i : Int) := by omega
  have i8 : (i : Int) < 8 := by omega
  clear hV
  show Calls _ _ _ _ (fun r w' => r = .returned (.bool (decide (c ≤ s i))) ∧ Below W.heap.size W w')
  generalize hx : s i = x at h1 ⊢
  have HX := Lib.hid hx
  clear hx
  by_cases hc : c ≤ x
  · have hq : decide ((c : Int) ≤ (x : Int)) = true := by simpa using hc
    have hn : decide (c ≤ x) = true := by simpa using hc
    rw [hn]
    clear hn
    go_enter Try.func62, Try.ntmps62
    go_upto_region 1 with fail
    rw [← HV.out]
    go_quiet (fail)
    go_wp2
    go_ret
    exact ⟨rfl, below_drewN HB.out _⟩
  · have hq : decide ((c : Int) ≤ (x : Int)) = false := by simpa using hc
    have hn : decide (c ≤ x) = false := by simpa using hc
    rw [hn]
    clear hn
    go_enter Try.func62, Try.ntmps62
    go_upto_region 1 with fail
    rw [← HV.out]
    go_quiet (fail)
    go_wp2
    go_ret
    exact ⟨rfl, below_drewN HB.out _⟩

theorem isSite_any (i : Int) (W : World) : Calls Try.prog 49 #[.int .i64 i] W fun r w' => r = .returned (.bool (decide (0 ≤ i) && decide (i < 8))) ∧ W = w' := by
  by_cases h0 : 0 ≤ i
  · have hd : decide (0 ≤ i) = true := by simpa using h0
    go_enter Try.func49, Try.ntmps49
    go_wp2
    go_ret
    exact ⟨by simp [h0], rfl⟩
  · have hd : decide (0 ≤ i) = false := by simpa using h0
    go_enter Try.func49, Try.ntmps49
    go_wp2
    go_ret
    exact ⟨by simp [h0], rfl⟩
theorem isKey_any (k : ByteArray) (W : World) : Calls Try.prog 50 #[.string k] W fun r w' => r = .returned (.bool (decide (1 ≤ k.size) && decide (k.size ≤ 64))) ∧ W = w' := by
  by_cases h0 : 1 ≤ k.size
  · by_cases h1 : k.size ≤ 64
    · have e : (decide (1 ≤ k.size) && decide (k.size ≤ 64)) = true := by simp [h0, h1]
      rw [e]
      have d1 : decide ((1 : Int) ≤ (k.size : Int)) = true := by simp; omega
      have d2 : decide ((k.size : Int) ≤ 64) = true := by simp; omega
      clear e
      go_enter Try.func50, Try.ntmps50
      go_wp2
      go_ret
      exact ⟨rfl, rfl⟩
    · have e : (decide (1 ≤ k.size) && decide (k.size ≤ 64)) = false := by simp [h0, h1]
      rw [e]
      have d1 : decide ((1 : Int) ≤ (k.size : Int)) = true := by simp; omega
      have d2 : decide ((k.size : Int) ≤ 64) = false := by simp; omega
      clear e
      go_enter Try.func50, Try.ntmps50
      go_wp2
      go_ret
      exact ⟨rfl, rfl⟩
  · have e : (decide (1 ≤ k.size) && decide (k.size ≤ 64)) = false := by simp [h0]
    rw [e]
    have d1 : decide ((1 : Int) ≤ (k.size : Int)) = false := by simp; omega
    clear e
    go_enter Try.func50, Try.ntmps50
    go_wp2
    go_ret
    exact ⟨rfl, rfl⟩
theorem isValue_any (k : ByteArray) (W : World) : Calls Try.prog 51 #[.string k] W fun r w' => r = .returned (.bool (decide (k.size ≤ 64))) ∧ W = w' := by
  go_enter Try.func51, Try.ntmps51
  go_wp2
  go_ret
  exact ⟨by simp; omega, rfl⟩

theorem clone_out (ao : Option Addr) (n cap : Nat) (xs : List Ent) (W : World) (h : El W ao n xs) (hn : n ≤ 900000) :
    Calls Try.prog 65 #[.slice ao n cap] W (OutE W.heap.size W xs) :=
  (clone_any ao n cap xs W h hn).mono fun e w' ⟨hb, hh⟩ => by
    rcases hh with ⟨h1, ao', cap', he, hel⟩ | ⟨g, cap', he, _, ho⟩
    · subst h1; exact ⟨ao', cap', he, hel, hb⟩
    · exact ⟨_, cap', he, ⟨rfl, .inr ⟨g, rfl, ho.row.1⟩⟩, hb⟩
set_option maxRecDepth 100000 in
set_option maxHeartbeats 1000000 in
theorem entries_any (s : Nat → Nat) (ao : Option Addr) (n cap : Nat) (xs : List Ent) (W : World) (h : El W ao n xs) (hn : n ≤ 900000) :
    Calls Try.prog 26 #[tabV s (.slice ao n cap)] W (OutE W.heap.size W xs) := by
  unfold tabV
  have HB := Lib.hid (box_below W (.cells #[.int .i64 (s 0 : Int), .int .i64 (s 1 : Int), .int .i64 (s 2 : Int), .int .i64 (s 3 : Int), .int .i64 (s 4 : Int), .int .i64 (s 5 : Int), .int .i64 (s 6 : Int), .int .i64 (s 7 : Int), .slice ao n cap] 34))
  have hc := clone_out ao n cap xs _ (h.keep HB.out) hn
  have r8 := (nine_cells (s := s) (sl := .slice ao n cap) (heap_alloc_new W (.cells #[.int .i64 (s 0 : Int), .int .i64 (s 1 : Int), .int .i64 (s 2 : Int), .int .i64 (s 3 : Int), .int .i64 (s 4 : Int), .int .i64 (s 5 : Int), .int .i64 (s 6 : Int), .int .i64 (s 7 : Int), .slice ao n cap] 34))).2.2.2.2.2.2.2.2
  have HC := Lib.hid hc
  clear h hc
  go_enter Try.func26, Try.ntmps26
  go_wp2_with (go_at_call 65; refine HC.out.mono ?_; rintro e w1 ⟨ao', cap', rfl, hel, hb⟩; have HE := Lib.hid hel; have HB1 := Lib.hid hb; clear hel hb)
  go_ret
  exact ⟨ao', cap', rfl, HE.out, HB.out.trans (HB1.out.mono HB.out.size)⟩
set_option maxRecDepth 100000 in
set_option maxHeartbeats 1000000 in
theorem seen_in (s : Nat → Nat) (sl : Value) (hsl : sl.oneCell' = true) (i : Nat) (hi : i < 8) (W : World) :
    Calls Try.prog 30 #[tabV s sl, .int .i64 (i : Int)] W fun r w' => r = .returned (.int .i64 (s i : Int)) ∧ Below W.heap.size W w' := by
  unfold tabV
  have HB := Lib.hid (box_below W (.cells #[.int .i64 (s 0 : Int), .int .i64 (s 1 : Int), .int .i64 (s 2 : Int), .int .i64 (s 3 : Int), .int .i64 (s 4 : Int), .int .i64 (s 5 : Int), .int .i64 (s 6 : Int), .int .i64 (s 7 : Int), sl] 34))
  have h1 := nine_at (s := s) (sl := sl) (heap_alloc_new W (.cells #[.int .i64 (s 0 : Int), .int .i64 (s 1 : Int), .int .i64 (s 2 : Int), .int .i64 (s 3 : Int), .int .i64 (s 4 : Int), .int .i64 (s 5 : Int), .int .i64 (s 6 : Int), .int .i64 (s 7 : Int), sl] 34)) i hi
  have i0 : (0 : Int) ≤ (i : Int) := by omega
  have i8 : (i : Int) < 8 := by omega
  have hs : (decide (0 ≤ (i : Int)) && decide ((i : Int) < 8)) = true := by simp; omega
  go_enter Try.func30, Try.ntmps30
  go_wp2_with (go_at_call 49; refine (isSite_any i _).mono ?_; rintro e w1 ⟨rfl, rfl⟩)
  go_ret
  exact ⟨rfl, HB.out⟩
theorem seen_out (s : Nat → Nat) (sl : Value) (hsl : sl.oneCell' = true) (i : Int) (hi : i < 0 ∨ 8 ≤ i) (W : World) :
    Calls Try.prog 30 #[tabV s sl, .int .i64 i] W fun r w' => r = .returned (.int .i64 0) ∧ Below W.heap.size W w' := by
  unfold tabV
  have HB := Lib.hid (box_below W (.cells #[.int .i64 (s 0 : Int), .int .i64 (s 1 : Int), .int .i64 (s 2 : Int), .int .i64 (s 3 : Int), .int .i64 (s 4 : Int), .int .i64 (s 5 : Int), .int .i64 (s 6 : Int), .int .i64 (s 7 : Int), sl] 34))
  have hs : (decide (0 ≤ i) && decide (i < 8)) = false := by simp; omega
  go_enter Try.func30, Try.ntmps30
  go_wp2_with (go_at_call 49; refine (isSite_any i _).mono ?_; rintro e w1 ⟨rfl, rfl⟩)
  go_ret
  exact ⟨rfl, HB.out⟩
end Go.Proofs.Ytpghehckojdgeaa

/- slices.BinarySearchFunc over sorted entries; the program's has. -/
set_option linter.unusedVariables false
set_option linter.unusedSimpArgs false
namespace Go.Proofs.Ytpghehckojdgeaa
open Go.RowKit Go.Shelf Go.Sort

theorem byKey_below (x y : Ent) (w : World) : Calls Try.prog 56 #[.agg #[.string x.key, .string x.val, .int .i64 (x.site : Int), .int .i64 (x.count : Int)], .agg #[.string y.key, .string y.val, .int .i64 (y.site : Int), .int .i64 (y.count : Int)]] w (fun e w' => e = .returned (.int .i64 (cfE x y)) ∧ Below w.heap.size w w') :=
  (byKey_any x y w).mono fun e w' ⟨he, q, os, hw⟩ => ⟨he, by rw [hw]; exact below_grown w q os⟩

theorem Sorted.lt_at {xs : List Ent} (h : Sorted xs) {a b : Nat} (hab : a < b) (hb : b < xs.length) : ltE xs[a]! xs[b]! = true := by
  rw [getElem!_pos xs a (by omega), getElem!_pos xs b hb]
  exact List.pairwise_iff_getElem.1 h a b (by omega) hb hab
theorem ltE_of_cf {x y : Ent} : cfE x y < 0 ↔ ltE x y = true := by unfold ltE; simp
theorem ltE_zero {x y : Ent} (h : cfE x y = 0) : ltE x y = false := by unfold ltE; rw [h]; rfl
theorem ltE_not {x y : Ent} (h : ¬ cfE x y < 0) : ltE x y = false := by unfold ltE; exact decide_eq_false h
/-- below the place of x all are less, from it on none is -/
def Edge (xs : List Ent) (x : Ent) (lo hi : Nat) : Prop := (∀ t, t < lo → ltE xs[t]! x = true) ∧ (∀ t, hi ≤ t → t < xs.length → ltE xs[t]! x = false)
theorem Edge.up {xs : List Ent} {x : Ent} {lo hi h : Nat} (hs : Sorted xs) (e : Edge xs x lo hi) (hh : h < xs.length) (hl : ltE xs[h]! x = true) : Edge xs x (h + 1) hi :=
  ⟨fun t ht => by
    by_cases q : t = h
    · rw [q]; exact hl
    · exact ltE_trans (hs.lt_at (by omega) hh) hl, e.2⟩
theorem Edge.down {xs : List Ent} {x : Ent} {lo hi h : Nat} (hs : Sorted xs) (e : Edge xs x lo hi) (hl : ltE xs[h]! x = false) : Edge xs x lo h :=
  ⟨e.1, fun t ht htn => by
    by_cases q : t = h
    · rw [q]; exact hl
    · cases k : ltE xs[t]! x
      · rfl
      · have := ltE_trans (hs.lt_at (by omega : h < t) htn) k
        rw [hl] at this; cases this⟩
def BinOut (W : World) (xs : List Ent) (x : Ent) (e : Ending) (w' : World) : Prop :=
  ∃ (k : Nat) (r : Bool), e = .returned (.tuple #[.int .i64 (k : Int), .bool r]) ∧ Below W.heap.size W w' ∧ ((r = true ∧ k < xs.length ∧ cfE xs[k]! x = 0) ∨ (r = false ∧ ∀ e ∈ xs, cfE e x ≠ 0))
theorem Edge.none {xs : List Ent} {x : Ent} {k : Nat} (hs : Sorted xs) (e : Edge xs x k k) (h : k < xs.length → cfE xs[k]! x ≠ 0) : ∀ e ∈ xs, cfE e x ≠ 0 := by
  intro y hy h0
  obtain ⟨i, hi, rfl⟩ := List.mem_iff_getElem.1 hy
  rw [← getElem!_pos xs i hi] at h0
  have hl : ltE xs[i]! x = false := ltE_zero h0
  by_cases hik : i < k
  · rw [e.1 i hik] at hl; cases hl
  · by_cases q : i = k
    · subst q; exact h hi h0
    · have h1 := hs.lt_at (by omega : k < i) hi
      have h2 := e.2 k (Nat.le_refl _) (by omega)
      rw [← ltE_congr' h0, h1] at h2; cases h2

set_option maxRecDepth 100000 in
set_option maxHeartbeats 4000000 in
theorem bsearch_any (g n cap : Nat) (xs : List Ent) (hnx : xs.length = n) (x : Ent) (W : World) (hr : RowE W g xs) (hs : Sorted xs) (hn : n ≤ 900000) :
    Calls Try.prog 85 #[.slice (some ⟨g, 0, none⟩) n cap, .agg #[.string x.key, .string x.val, .int .i64 (x.site : Int), .int .i64 (x.count : Int)], .func (.func 56) #[] #[]] W (BinOut W xs x) := by
  have eg : ∀ args w, (callFunc 56 args).run Try.prog w = .ok (.enter 56 args) w := enters_of Try.func56 (by kernel_rfl) rfl
  obtain ⟨V, hV⟩ : ∃ V, V = W.alloc (.cells #[.string x.key, .string x.val, .int .i64 (x.site : Int), .int .i64 (x.count : Int)] 82) := ⟨_, rfl⟩
  have HB : Hid (Below W.heap.size W V) := Lib.hid (by rw [hV]; exact box_below _ _)
  have HX4 := Lib.hid (four_cells (w := V) (T := W.heap.size) (a := .string x.key) (b := .string x.val) (c := .int .i64 (x.site : Int)) (d := .int .i64 (x.count : Int)) (ty := 82) (by rw [hV]; exact heap_alloc_new _ _))
  have HR := Lib.hid (hr.keep HB.out)
  have HS := Lib.hid hs
  have HN := Lib.hid hnx
  have HV := Lib.hid hV
  have hVs : W.heap.size < V.heap.size := by rw [hV]; simp
  clear hV hr hs hnx
  go_enter Try.func85, Try.ntmps85
  go_upto_region 1 with fail
  rw [← HV.out]
  go_wp2
  go_loopg [9, 10] n (fun kx s9 s10 wr => ∃ lo hi : Nat, s9 = .int .i64 lo ∧ s10 = .int .i64 hi ∧ lo ≤ hi ∧ hi ≤ n ∧ hi - lo ≤ kx ∧ Hid (Below V.heap.size V wr) ∧ Hid (Edge xs x lo hi))
  case atStart => exact ⟨0, n, rfl, rfl, Nat.zero_le _, Nat.le_refl _, by omega, Lib.hid (Below.refl _ _), Lib.hid ⟨fun t ht => absurd ht (Nat.not_lt_zero _), fun t h1 h2 => by rw [HN.out] at h2; omega⟩⟩
  case round =>
    obtain ⟨lo, hi, rfl, rfl, hlh, hin, hgx, HBr, HE⟩ := hrel
    have x0 := cell_later HBr.out HX4.out.1
    have x1 := cell_later HBr.out HX4.out.2.1
    have x2 := cell_later HBr.out HX4.out.2.2.1
    have x3 := cell_later HBr.out HX4.out.2.2.2
    by_cases hlt : lo < hi
    · obtain ⟨c0, c1, c2, c3⟩ := (HR.out.keep HBr.out).2 ((lo + hi) / 2) (by rw [HN.out]; omega)
      obtain ⟨y, hy⟩ : ∃ y, y = xs[(lo + hi) / 2]! := ⟨_, rfl⟩
      rw [← hy] at c0 c1 c2 c3
      have HY := Lib.hid hy
      clear hy
      have eh : (lo + hi) / 2 = (((lo : Int) + (hi : Int)) / 2).toNat := by omega
      rw [eh] at c0 c1 c2 c3
      clear eh
      have hc := fun w => byKey_below y x w
      have cy := @ltE_of_cf y x
      have HE2 : Hid ((cfE y x < 0 → Edge xs x ((lo + hi) / 2 + 1) hi) ∧ (¬ cfE y x < 0 → Edge xs x lo ((lo + hi) / 2))) := Lib.hid ⟨fun h => HE.out.up HS.out (by rw [HN.out]; omega) (by rw [← HY.out]; exact cy.1 h), fun h => HE.out.down HS.out (by rw [← HY.out]; exact ltE_not h)⟩
      generalize cfE y x = r at hc HE2 cy
      clear cy HE
      by_cases hyx : r < 0
      · have HE3 := Lib.hid (HE2.out.1 hyx)
        clear HE2
        go_upto_region 5 with fail
        have b3 : ((lo : Int) + (hi : Int)) / 2 < (n : Int) := by omega
        have b4 : (0 : Int) ≤ ((lo : Int) + (hi : Int)) / 2 := by omega
        go_region_held3 (fun w' => w'.cell? ⟨W.heap.size, 0, none⟩ = some (.string x.key) ∧ w'.cell? ⟨W.heap.size, 1, none⟩ = some (.string x.val) ∧ w'.cell? ⟨W.heap.size, 2, none⟩ = some (.int .i64 (x.site : Int)) ∧ w'.cell? ⟨W.heap.size, 3, none⟩ = some (.int .i64 (x.count : Int)) ∧ w'.cell? ⟨g, (((lo : Int) + (hi : Int)) / 2).toNat * 4, none⟩ = some (.string y.key) ∧ w'.cell? ⟨g, (((lo : Int) + (hi : Int)) / 2).toNat * 4 + 1, none⟩ = some (.string y.val) ∧ w'.cell? ⟨g, (((lo : Int) + (hi : Int)) / 2).toNat * 4 + 2, none⟩ = some (.int .i64 (y.site : Int)) ∧ w'.cell? ⟨g, (((lo : Int) + (hi : Int)) / 2).toNat * 4 + 3, none⟩ = some (.int .i64 (y.count : Int))) (go_keep)
          (first | (go_at_fn 56; refine (hc _).mono ?_; rintro e w' ⟨rfl, hb'⟩; have HB' := Lib.hid ((below_drewN (Below.refl wr.heap.size wr) 1).trans (hb'.mono (Nat.le_refl _))); have x0 := cell_later HB'.out x0; have x1 := cell_later HB'.out x1; have x2 := cell_later HB'.out x2; have x3 := cell_later HB'.out x3; have c0 := cell_later HB'.out c0; have c1 := cell_later HB'.out c1; have c2 := cell_later HB'.out c2; have c3 := cell_later HB'.out c3; clear hb'))
        go_wp2
        go_roundg (hi - ((lo + hi) / 2 + 1))
        case measure => omega
        case rel =>
          exact ⟨(lo + hi) / 2 + 1, hi, by rw [show ((lo : Int) + (hi : Int)) / 2 + 1 = (((lo + hi) / 2 + 1 : Nat) : Int) by omega], rfl, by omega, hin, Nat.le_refl _, Lib.hid (HBr.out.trans (HB'.out.mono HBr.out.size)), HE3⟩
      · have HE3 := Lib.hid (HE2.out.2 hyx)
        clear HE2
        go_upto_region 5 with fail
        have b3 : ((lo : Int) + (hi : Int)) / 2 < (n : Int) := by omega
        have b4 : (0 : Int) ≤ ((lo : Int) + (hi : Int)) / 2 := by omega
        go_region_held3 (fun w' => w'.cell? ⟨W.heap.size, 0, none⟩ = some (.string x.key) ∧ w'.cell? ⟨W.heap.size, 1, none⟩ = some (.string x.val) ∧ w'.cell? ⟨W.heap.size, 2, none⟩ = some (.int .i64 (x.site : Int)) ∧ w'.cell? ⟨W.heap.size, 3, none⟩ = some (.int .i64 (x.count : Int)) ∧ w'.cell? ⟨g, (((lo : Int) + (hi : Int)) / 2).toNat * 4, none⟩ = some (.string y.key) ∧ w'.cell? ⟨g, (((lo : Int) + (hi : Int)) / 2).toNat * 4 + 1, none⟩ = some (.string y.val) ∧ w'.cell? ⟨g, (((lo : Int) + (hi : Int)) / 2).toNat * 4 + 2, none⟩ = some (.int .i64 (y.site : Int)) ∧ w'.cell? ⟨g, (((lo : Int) + (hi : Int)) / 2).toNat * 4 + 3, none⟩ = some (.int .i64 (y.count : Int))) (go_keep)
          (first | (go_at_fn 56; refine (hc _).mono ?_; rintro e w' ⟨rfl, hb'⟩; have HB' := Lib.hid ((below_drewN (Below.refl wr.heap.size wr) 1).trans (hb'.mono (Nat.le_refl _))); have x0 := cell_later HB'.out x0; have x1 := cell_later HB'.out x1; have x2 := cell_later HB'.out x2; have x3 := cell_later HB'.out x3; have c0 := cell_later HB'.out c0; have c1 := cell_later HB'.out c1; have c2 := cell_later HB'.out c2; have c3 := cell_later HB'.out c3; clear hb'))
        go_wp2
        go_roundg ((lo + hi) / 2 - lo)
        case measure => omega
        case rel =>
          exact ⟨lo, (lo + hi) / 2, rfl, by rw [show ((lo : Int) + (hi : Int)) / 2 = (((lo + hi) / 2 : Nat) : Int) by omega], by omega, by omega, Nat.le_refl _, Lib.hid (HBr.out.trans (HB'.out.mono HBr.out.size)), HE3⟩
    · have hn0 : ¬ lo < hi := hlt
      obtain rfl : hi = lo := by omega
      have d0 : decide ((hi : Int) < (hi : Int)) = false := by simp
      by_cases hln : hi < n
      · obtain ⟨c0, c1, c2, c3⟩ := (HR.out.keep HBr.out).2 hi (by rw [HN.out]; omega)
        obtain ⟨y, hy⟩ : ∃ y, y = xs[hi]! := ⟨_, rfl⟩
        rw [← hy] at c0 c1 c2 c3
        have HY := Lib.hid hy
        clear hy
        have hc := fun w => byKey_below y x w
        have dl : decide ((hi : Int) < (n : Int)) = true := by simp; omega
        have bl : (hi : Int) < (n : Int) := by omega
        have bl0 : (0 : Int) ≤ (hi : Int) := by omega
        by_cases hyx : cfE y x = 0
        · have HF : Hid (∀ w', Below W.heap.size W w' → BinOut W xs x (.returned (.tuple #[.int .i64 (hi : Int), .bool true])) w') := Lib.hid fun w' hb => ⟨hi, true, rfl, hb, .inl ⟨rfl, by rw [HN.out]; exact hln, by rw [← HY.out]; exact hyx⟩⟩
          rw [hyx] at hc
          clear hyx HE hlt hn0
          go_wp2_with fail
          go_region_held3 (fun w' => w'.cell? ⟨W.heap.size, 0, none⟩ = some (.string x.key) ∧ w'.cell? ⟨W.heap.size, 1, none⟩ = some (.string x.val) ∧ w'.cell? ⟨W.heap.size, 2, none⟩ = some (.int .i64 (x.site : Int)) ∧ w'.cell? ⟨W.heap.size, 3, none⟩ = some (.int .i64 (x.count : Int)) ∧ w'.cell? ⟨g, hi * 4, none⟩ = some (.string y.key) ∧ w'.cell? ⟨g, hi * 4 + 1, none⟩ = some (.string y.val) ∧ w'.cell? ⟨g, hi * 4 + 2, none⟩ = some (.int .i64 (y.site : Int)) ∧ w'.cell? ⟨g, hi * 4 + 3, none⟩ = some (.int .i64 (y.count : Int))) (go_keep)
            (first | (go_at_fn 56; refine (hc _).mono ?_; rintro e w' ⟨rfl, hb'⟩; have HB' := Lib.hid ((below_drewN (Below.refl wr.heap.size wr) 1).trans (hb'.mono (Nat.le_refl _))); have x0 := cell_later HB'.out x0; have x1 := cell_later HB'.out x1; have x2 := cell_later HB'.out x2; have x3 := cell_later HB'.out x3; have c0 := cell_later HB'.out c0; have c1 := cell_later HB'.out c1; have c2 := cell_later HB'.out c2; have c3 := cell_later HB'.out c3; clear hb'))
          go_wp2
          go_ret2
          exact HF.out _ (HB.out.trans ((HBr.out.trans (HB'.out.mono HBr.out.size)).mono HB.out.size))
        · have HF : Hid (∀ w', Below W.heap.size W w' → BinOut W xs x (.returned (.tuple #[.int .i64 (hi : Int), .bool false])) w') := Lib.hid fun w' hb => ⟨hi, false, rfl, hb, .inr ⟨rfl, HE.out.none HS.out (fun _ => by rw [← HY.out]; exact hyx)⟩⟩
          generalize cfE y x = r at hc hyx
          have hr0 : (r == 0) = false := beq_eq_false_iff_ne.2 hyx
          clear hyx HE hlt hn0
          go_wp2_with fail
          go_region_held3 (fun w' => w'.cell? ⟨W.heap.size, 0, none⟩ = some (.string x.key) ∧ w'.cell? ⟨W.heap.size, 1, none⟩ = some (.string x.val) ∧ w'.cell? ⟨W.heap.size, 2, none⟩ = some (.int .i64 (x.site : Int)) ∧ w'.cell? ⟨W.heap.size, 3, none⟩ = some (.int .i64 (x.count : Int)) ∧ w'.cell? ⟨g, hi * 4, none⟩ = some (.string y.key) ∧ w'.cell? ⟨g, hi * 4 + 1, none⟩ = some (.string y.val) ∧ w'.cell? ⟨g, hi * 4 + 2, none⟩ = some (.int .i64 (y.site : Int)) ∧ w'.cell? ⟨g, hi * 4 + 3, none⟩ = some (.int .i64 (y.count : Int))) (go_keep)
            (first | (go_at_fn 56; refine (hc _).mono ?_; rintro e w' ⟨rfl, hb'⟩; have HB' := Lib.hid ((below_drewN (Below.refl wr.heap.size wr) 1).trans (hb'.mono (Nat.le_refl _))); have x0 := cell_later HB'.out x0; have x1 := cell_later HB'.out x1; have x2 := cell_later HB'.out x2; have x3 := cell_later HB'.out x3; have c0 := cell_later HB'.out c0; have c1 := cell_later HB'.out c1; have c2 := cell_later HB'.out c2; have c3 := cell_later HB'.out c3; clear hb'))
          go_wp2
          go_ret2
          exact HF.out _ (HB.out.trans ((HBr.out.trans (HB'.out.mono HBr.out.size)).mono HB.out.size))
      · obtain rfl : hi = n := by omega
        have dl : decide ((hi : Int) < (hi : Int)) = false := by simp
        have HF : Hid (∀ w', Below W.heap.size W w' → BinOut W xs x (.returned (.tuple #[.int .i64 (hi : Int), .bool false])) w') := Lib.hid fun w' hb => ⟨hi, false, rfl, hb, .inr ⟨rfl, HE.out.none HS.out (fun h => by rw [HN.out] at h; omega)⟩⟩
        clear HE hlt hn0
        go_wp2_with fail
        go_quiet (fail)
        go_wp2
        go_ret2
        exact HF.out _ (below_drewN (HB.out.trans (HBr.out.mono HB.out.size)) _)
end Go.Proofs.Ytpghehckojdgeaa

/- How the model compares entries and arrays of numbers; slices.Equal of entries. -/
set_option linter.unusedVariables false
set_option linter.unusedSimpArgs false
namespace Go.Proofs.Ytpghehckojdgeaa
open Go.RowKit Go.Shelf Go.Sort

open Classical in
noncomputable def sameE (x y : Ent) : Bool := decide (x = y)
theorem sameE_iff (x y : Ent) : sameE x y = ((x.key.toList == y.key.toList && x.val.toList == y.val.toList) && (((x.site : Int) == (y.site : Int)) && ((x.count : Int) == (y.count : Int)))) := by
  unfold sameE
  rw [Bool.eq_iff_iff]
  simp only [decide_eq_true_iff, Bool.and_eq_true, beq_iff_eq]
  constructor
  · rintro rfl; exact ⟨⟨rfl, rfl⟩, rfl, rfl⟩
  · rintro ⟨⟨h1, h2⟩, h3, h4⟩
    rw [ByteArray.toList_eq, ByteArray.toList_eq] at h1 h2
    exact Ent.same (bytes_ext h1) (bytes_ext h2) (by omega) (by omega)

theorem eqIn_dot (d : Nat) (l f a b : Int) (w : World) :
    (Op.equalIn (d + 1 + 1) 80 (.agg #[.int .i64 l, .int .i64 f]) (.agg #[.int .i64 a, .int .i64 b])).run Try.prog w = .ok (l == a && f == b) w := by
  have u3 := Try.underlying3
  rw [run_equalIn_agg w (d + 1) 80 _ _ (by kernel_rfl) (by kernel_rfl)]
  simp only [Program.fieldsOf, Try.underlying80, Op.eqFields]
  simp [part, run_equalIn_int, u3, Result.andThen]
  by_cases h1 : l = a <;> by_cases h2 : f = b <;> simp [h1, h2]
set_option maxHeartbeats 1000000 in
theorem eqIn_ent (d : Nat) (k v k' v' : ByteArray) (l f a b : Int) (w : World) :
    (Op.equalIn (d + 1 + 1 + 1) 82 (.agg #[.string k, .string v, .int .i64 l, .int .i64 f]) (.agg #[.string k', .string v', .int .i64 a, .int .i64 b])).run Try.prog w = .ok ((k.toList == k'.toList && v.toList == v'.toList) && (l == a && f == b)) w := by
  have u9 := Try.underlying9
  have hd := eqIn_dot d l f a b w
  rw [run_equalIn_agg w (d + 1 + 1) 82 _ _ (by kernel_rfl) (by kernel_rfl)]
  simp only [Program.fieldsOf, Try.underlying82, Op.eqFields]
  have e1 : (part 9 #[.string k, .string v, .int .i64 l, .int .i64 f] 0).run Try.prog w = .ok (.string k) w := by kernel_rfl
  have e2 : (part 9 #[.string k, .string v, .int .i64 l, .int .i64 f] 1).run Try.prog w = .ok (.string v) w := by kernel_rfl
  have e3 : (part 80 #[.string k, .string v, .int .i64 l, .int .i64 f] 2).run Try.prog w = .ok (.agg #[.int .i64 l, .int .i64 f]) w := by kernel_rfl
  have f1 : (part 9 #[.string k', .string v', .int .i64 a, .int .i64 b] 0).run Try.prog w = .ok (.string k') w := by kernel_rfl
  have f2 : (part 9 #[.string k', .string v', .int .i64 a, .int .i64 b] 1).run Try.prog w = .ok (.string v') w := by kernel_rfl
  have f3 : (part 80 #[.string k', .string v', .int .i64 a, .int .i64 b] 2).run Try.prog w = .ok (.agg #[.int .i64 a, .int .i64 b]) w := by kernel_rfl
  have s1 : (Op.equalIn (d + 1 + 1) 9 (.string k) (.string k')).run Try.prog w = .ok (k.toList == k'.toList) w := run_equalIn_string w (d + 1) 9 k k' u9
  have s2 : (Op.equalIn (d + 1 + 1) 9 (.string v) (.string v')).run Try.prog w = .ok (v.toList == v'.toList) w := run_equalIn_string w (d + 1) 9 v v' u9
  clear u9
  generalize (k.toList == k'.toList) = b1 at s1
  generalize (v.toList == v'.toList) = b2 at s2
  generalize (l == a && f == b) = b3 at hd
  cases b1 <;> cases b2 <;> cases b3 <;> simp [e1, e2, e3, f1, f2, f3, s1, s2, hd, Result.andThen]
theorem run_eql_ent (x y : Ent) (w : World) :
    (binOp .eql 82 (.agg #[.string x.key, .string x.val, .int .i64 (x.site : Int), .int .i64 (x.count : Int)]) (.agg #[.string y.key, .string y.val, .int .i64 (y.site : Int), .int .i64 (y.count : Int)])).run Try.prog w = .ok (.bool (sameE x y)) w := by
  rw [run_eql_struct, show (10000 : Nat) = 9997 + 1 + 1 + 1 from rfl, eqIn_ent, sameE_iff]
  rfl
theorem run_neq_ent (x y : Ent) (w : World) :
    (binOp .neq 82 (.agg #[.string x.key, .string x.val, .int .i64 (x.site : Int), .int .i64 (x.count : Int)]) (.agg #[.string y.key, .string y.val, .int .i64 (y.site : Int), .int .i64 (y.count : Int)])).run Try.prog w = .ok (.bool (!(sameE x y))) w := by
  rw [run_neq_struct, show (10000 : Nat) = 9997 + 1 + 1 + 1 from rfl, eqIn_ent, sameE_iff]
  rfl
theorem guard_ent (op : BinOp) (a b : Operand) (xs ys : Array Value) (w : World) : (eqGuard op 82 a b (.agg xs) (.agg ys)).run Try.prog w = .ok () w := run_eqGuard_agg w op 82 a b xs ys (by kernel_rfl)
theorem neqAt_ent : NeqAt Try.prog 82 (fun x => .agg (encE x).toArray) sameE := ⟨fun x y w => run_neq_ent x y w, GuardAt.agg _ (by kernel_rfl)⟩

/-- two lists of numbers -/
def sameN (s t : Nat → Nat) : Bool := decide (s 0 = t 0 ∧ s 1 = t 1 ∧ s 2 = t 2 ∧ s 3 = t 3 ∧ s 4 = t 4 ∧ s 5 = t 5 ∧ s 6 = t 6 ∧ s 7 = t 7)
theorem sameN_iff {s t : Nat → Nat} : sameN s t = true ↔ ∀ i, i < 8 → s i = t i := by
  unfold sameN
  rw [decide_eq_true_iff]
  constructor
  · rintro ⟨h0, h1, h2, h3, h4, h5, h6, h7⟩ i hi
    have : i = 0 ∨ i = 1 ∨ i = 2 ∨ i = 3 ∨ i = 4 ∨ i = 5 ∨ i = 6 ∨ i = 7 := by omega
    rcases this with rfl | rfl | rfl | rfl | rfl | rfl | rfl | rfl <;> assumption
  · intro h
    exact ⟨h 0 (by omega), h 1 (by omega), h 2 (by omega), h 3 (by omega), h 4 (by omega), h 5 (by omega), h 6 (by omega), h 7 (by omega)⟩
theorem part_num (xs : Array Value) (i : Nat) (z : Int) (h : xs[i]? = some (.int .i64 z)) (w : World) : (part 3 xs i).run Try.prog w = .ok (.int .i64 z) w := by
  have a3 := Try.isAgg3
  simp [part, h, a3, Result.andThen]
theorem run_items (d : Nat) (xs ys : Array Value) (s t : Nat → Nat) (w : World) : ∀ is : List Nat, (∀ i ∈ is, xs[i]? = some (.int .i64 (s i : Int)) ∧ ys[i]? = some (.int .i64 (t i : Int))) →
    (Op.eqItems (d + 1) 3 1 xs ys is).run Try.prog w = .ok (is.all fun i => s i == t i) w
  | [], _ => by simp [Op.eqItems]
  | i :: is, h => by
    have hi := h i List.mem_cons_self
    have ih := run_items d xs ys s t w is (fun j hj => h j (List.mem_cons_of_mem _ hj))
    have p1 := part_num xs (i * 1) (s i : Int) (by rw [Nat.mul_one]; exact hi.1) w
    have p2 := part_num ys (i * 1) (t i : Int) (by rw [Nat.mul_one]; exact hi.2) w
    have q := run_equalIn_int (P := Try.prog) w d 3 .i64 .i64 (s i : Int) (t i : Int) Try.underlying3
    have e : ((s i : Int) == (t i : Int)) = (s i == t i) := by rw [Bool.eq_iff_iff, beq_iff_eq, beq_iff_eq]; constructor <;> intro h <;> omega
    rw [e] at q
    simp only [Op.eqItems, Sem.run_bind, p1, p2, q, Result.andThen_ok]
    rw [List.all_cons]
    cases s i == t i
    · simp
    · simpa using ih
set_option maxRecDepth 100000 in
set_option maxHeartbeats 1000000 in
theorem eqIn_nums (d : Nat) (T : TypeId) (hT : Try.prog.underlying T = some (.array 8 3)) (s t : Nat → Nat) (w : World) :
    (Op.equalIn (d + 1 + 1) T (.agg #[.int .i64 (s 0 : Int), .int .i64 (s 1 : Int), .int .i64 (s 2 : Int), .int .i64 (s 3 : Int), .int .i64 (s 4 : Int), .int .i64 (s 5 : Int), .int .i64 (s 6 : Int), .int .i64 (s 7 : Int)]) (.agg #[.int .i64 (t 0 : Int), .int .i64 (t 1 : Int), .int .i64 (t 2 : Int), .int .i64 (t 3 : Int), .int .i64 (t 4 : Int), .int .i64 (t 5 : Int), .int .i64 (t 6 : Int), .int .i64 (t 7 : Int)])).run Try.prog w = .ok (sameN s t) w := by
  obtain ⟨i0, hi, hz0, hz1, hz2⟩ := info_parts (P := Try.prog) (e := 3) (show (Try.prog.info? 3).map (fun i => (i.zero, i.size, i.bytes)) = some (some (.int .i64 0), 1, 8) by kernel_rfl)
  rw [run_equalIn_array w (d + 1) _ _ hT hi]
  have hc : Try.prog.cellsOf 3 = 1 := by kernel_rfl
  rw [hc, run_items d _ _ s t w (List.range 8) (fun i hi => by
    have : i = 0 ∨ i = 1 ∨ i = 2 ∨ i = 3 ∨ i = 4 ∨ i = 5 ∨ i = 6 ∨ i = 7 := by simp at hi; omega
    rcases this with rfl | rfl | rfl | rfl | rfl | rfl | rfl | rfl <;> exact ⟨rfl, rfl⟩)]
  congr 1
  rw [Bool.eq_iff_iff, sameN_iff]
  simp
theorem run_eql_nums (T : TypeId) (hT : Try.prog.underlying T = some (.array 8 3)) (s t : Nat → Nat) (w : World) :
    (binOp .eql T (.agg #[.int .i64 (s 0 : Int), .int .i64 (s 1 : Int), .int .i64 (s 2 : Int), .int .i64 (s 3 : Int), .int .i64 (s 4 : Int), .int .i64 (s 5 : Int), .int .i64 (s 6 : Int), .int .i64 (s 7 : Int)]) (.agg #[.int .i64 (t 0 : Int), .int .i64 (t 1 : Int), .int .i64 (t 2 : Int), .int .i64 (t 3 : Int), .int .i64 (t 4 : Int), .int .i64 (t 5 : Int), .int .i64 (t 6 : Int), .int .i64 (t 7 : Int)])).run Try.prog w = .ok (.bool (sameN s t)) w := by
  rw [run_eql_struct, show (10000 : Nat) = 9998 + 1 + 1 from rfl, eqIn_nums 9998 T hT]
  rfl

/-- slices.Equal of entries -/
theorem equal_rows (g n c g' m c' : Nat) (xs ys : List Ent) (W : World) (hx : xs.length = n) (hy : ys.length = m) (h1 : RowE W g xs) (h2 : RowE W g' ys) (hn : n ≤ 900000) (hm : m ≤ 900000) :
    Calls Try.prog 32 #[.slice (some ⟨g, 0, none⟩) n c, .slice (some ⟨g', 0, none⟩) m c'] W fun e w' => e = .returned (.bool (Lib.allEq sameE xs ys)) ∧ ∃ q, w' = W.drewN q := by
  have h := AnyQ.slices_Equal Try.equalE 4 Try.isAgg82 Try.sizeOf82 encE encE_len sameE neqAt_ent g 0 n c g' 0 m c' xs ys W (by omega) (by omega) (by omega) (by omega) (rowE_cells h1) (rowE_cells h2)
  change Calls Try.prog 32 _ _ _ at h
  rwa [List.take_of_length_le (by omega), List.take_of_length_le (by omega)] at h
end Go.Proofs.Ytpghehckojdgeaa

/- slices.Equal of entries in general; the program's Equal. (By gen_equal.py.) -/
set_option linter.unusedVariables false
set_option linter.unusedSimpArgs false
namespace Go.Proofs.Ytpghehckojdgeaa
open Go.RowKit Go.Shelf Go.Sort

open Classical in
noncomputable def eqL (xs ys : List Ent) : Bool := decide (xs = ys)
theorem allEq_eqL : ∀ xs ys : List Ent, Lib.allEq sameE xs ys = eqL xs ys
  | [], [] => by simp [Lib.allEq, eqL]
  | [], _ :: _ => by simp [Lib.allEq, eqL]
  | _ :: _, [] => by simp [Lib.allEq, eqL]
  | x :: xs, y :: ys => by
    have ih := allEq_eqL xs ys
    unfold eqL sameE at *
    rw [Bool.eq_iff_iff] at *
    simp [Lib.allEq] at *
    intro _
    exact ih
theorem equal_len (ao ao' : Option Addr) (n c m c' : Nat) (W : World) (h : n ≠ m) :
    Calls Try.prog 32 #[.slice ao n c, .slice ao' m c'] W fun e w' => e = .returned (.bool false) ∧ W = w' := by
  have hn : ¬ (n : Int) = (m : Int) := by omega
  go_enter Try.func32, Try.ntmps32
  go_wp2
  go_ret
  exact ⟨rfl, rfl⟩
theorem equal_zero (ao ao' : Option Addr) (c c' : Nat) (W : World) :
    Calls Try.prog 32 #[.slice ao 0 c, .slice ao' 0 c'] W fun e w' => e = .returned (.bool true) ∧ W = w' := by
  go_enter Try.func32, Try.ntmps32
  go_wp2
  refine wp_loop_rounds 1 ?_
  rw [rounds_succ]
  go_wp2
  go_ret
  exact ⟨rfl, rfl⟩
theorem equal_any (ao ao' : Option Addr) (n c m c' : Nat) (xs ys : List Ent) (W : World) (h1 : El W ao n xs) (h2 : El W ao' m ys) (hn : n ≤ 900000) (hm : m ≤ 900000) :
    Calls Try.prog 32 #[.slice ao n c, .slice ao' m c'] W fun e w' => e = .returned (.bool (eqL xs ys)) ∧ Below W.heap.size W w' := by
  by_cases hnm : n = m
  · by_cases h0 : n = 0
    · have hm0 : m = 0 := by omega
      have e1 : xs = [] := List.eq_nil_of_length_eq_zero (by rw [h1.1, h0])
      have e2 : ys = [] := List.eq_nil_of_length_eq_zero (by rw [h2.1, hm0])
      subst h0 e1 e2 hm0
      have e3 : eqL [] [] = true := by simp [eqL]
      rw [e3]
      exact (equal_zero ao ao' c c' W).mono fun e w' ⟨he, hw⟩ => ⟨he, by rw [← hw]; exact Below.refl _ _⟩
    · obtain ⟨hx, h1⟩ := h1
      obtain ⟨hy, h2⟩ := h2
      rcases h1 with ⟨_, h1⟩ | ⟨g, rfl, r1⟩
      · omega
      · rcases h2 with ⟨_, h2⟩ | ⟨g', rfl, r2⟩
        · omega
        · refine (equal_rows g n c g' m c' xs ys W hx hy r1 r2 hn hm).mono fun e w' ⟨he, q, hw⟩ => ?_
          rw [allEq_eqL] at he
          exact ⟨he, by rw [hw]; exact below_drewN (Below.refl _ _) q⟩
  · have e3 : eqL xs ys = false := by
      unfold eqL
      rw [decide_eq_false_iff_not]
      intro h
      exact hnm (by rw [← h1.1, ← h2.1, h])
    rw [e3]
    exact (equal_len ao ao' n c m c' W hnm).mono fun e w' ⟨he, hw⟩ => ⟨he, by rw [← hw]; exact Below.refl _ _⟩

set_option maxRecDepth 100000 in
set_option maxHeartbeats 4000000 in
/-- the program's Equal -/
theorem Equal_any (s t : Nat → Nat) (ao ao' : Option Addr) (n c m c' : Nat) (xs ys : List Ent) (W : World) (h1 : El W ao n xs) (h2 : El W ao' m ys) (hn : n ≤ 900000) (hm : m ≤ 900000) :
    Calls Try.prog 14 #[tabV s (.slice ao n c), tabV t (.slice ao' m c')] W fun e w' => e = .returned (.bool (sameN s t && eqL xs ys)) ∧ Below W.heap.size W w' := by
  have hq := fun w => run_eql_nums 31 (by kernel_rfl) s t w
  obtain ⟨V, hV⟩ : ∃ V, V = (W.alloc (.cells #[.int .i64 (s 0 : Int), .int .i64 (s 1 : Int), .int .i64 (s 2 : Int), .int .i64 (s 3 : Int), .int .i64 (s 4 : Int), .int .i64 (s 5 : Int), .int .i64 (s 6 : Int), .int .i64 (s 7 : Int), .slice ao n c] 34)).alloc (.cells #[.int .i64 (t 0 : Int), .int .i64 (t 1 : Int), .int .i64 (t 2 : Int), .int .i64 (t 3 : Int), .int .i64 (t 4 : Int), .int .i64 (t 5 : Int), .int .i64 (t 6 : Int), .int .i64 (t 7 : Int), .slice ao' m c'] 34) := ⟨_, rfl⟩
  have HB : Hid (Below W.heap.size W V) := Lib.hid (by rw [hV]; exact below2 W _ _)
  have hc := equal_any ao ao' n c m c' xs ys V (h1.keep HB.out) (h2.keep HB.out) hn hm
  obtain ⟨r0, r1, r2, r3, r4, r5, r6, r7, r8⟩ := cell_nine (w := V) (T := W.heap.size) (ty := 34) (by rw [hV]; exact block1 W _ _)
  obtain ⟨u0, u1, u2, u3, u4, u5, u6, u7, u8⟩ := cell_nine (w := V) (T := W.heap.size + 1) (ty := 34) (by rw [hV]; exact block2 W _ _)
  have HV := Lib.hid hV
  clear hV h1 h2
  unfold tabV
  generalize eqL xs ys = b at hc ⊢
  cases hb : sameN s t
  · rw [hb] at hq
    clear hb hc
    go_enter Try.func14, Try.ntmps14
    go_upto_region 1 with fail
    rw [← HV.out]
    go_wp2
    go_ret
    exact ⟨rfl, HB.out⟩
  · rw [hb] at hq
    have HC := Lib.hid hc
    clear hb hc
    go_enter Try.func14, Try.ntmps14
    go_upto_region 1 with fail
    rw [← HV.out]
    go_wp2_with (go_at_call 32; refine HC.out.mono ?_; rintro e w1 ⟨rfl, hb1⟩; have HB1 := Lib.hid hb1; clear hb1)
    go_ret
    exact ⟨by simp, HB.out.trans (HB1.out.mono HB.out.size)⟩
end Go.Proofs.Ytpghehckojdgeaa
