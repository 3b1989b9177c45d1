/- Part 12 of the contracts: RMadeP. -/
import Derived.Test.YtpghehckojdgeaaPart11

/- The document's tables as a law calls them; the regions of the law's made that hold calls. (By gen_rmadep.py.) -/
set_option linter.unusedVariables false
set_option linter.unusedSimpArgs false
namespace Go.Proofs.Ytpghehckojdgeaa
open Go.RowKit Go.Shelf Go.Sort Go.Proofs


/-- the slice (ao, n, c) holds the entries of the document's table T, which was made with at most m writes -/
structure HeldR (w : World) (m : Nat) (T : Tab) (ao : Option Addr) (n c : Nat) : Prop where
  el : El w ao n T.L
  ok : T.Ok m
  nc : n ≤ c
  cm : c ≤ maxLen
theorem HeldR.keep {w w' : World} {m : Nat} {T : Tab} {ao : Option Addr} {n c : Nat} (h : HeldR w m T ao n c) (hb : Below w.heap.size w w') : HeldR w' m T ao n c := ⟨h.el.keep hb, h.ok, h.nc, h.cm⟩
theorem HeldR.more {w : World} {m q : Nat} {T : Tab} {ao : Option Addr} {n c : Nat} (h : HeldR w m T ao n c) (hq : m ≤ q) : HeldR w q T ao n c := ⟨h.el, h.ok.more hq, h.nc, h.cm⟩
theorem HeldR.len {w : World} {m : Nat} {T : Tab} {ao : Option Addr} {n c : Nat} (h : HeldR w m T ao n c) : n ≤ 8 * m := by rw [← h.el.1]; exact h.ok.len
theorem HeldR.none (w : World) : HeldR w 0 Tab.none none 0 0 := ⟨El.nil w, Tab.none_ok, Nat.le_refl _, Nat.zero_le _⟩
theorem refremA {W : World} {m : Nat} {T : Tab} {ao : Option Addr} {n c : Nat} (h : HeldR W m T ao n c) (hm : m ≤ 10000) (k : ByteArray) :
    Calls Try.prog 58 #[.agg #[.int .i64 (T.seen 0 : Int), .int .i64 (T.seen 1 : Int), .int .i64 (T.seen 2 : Int), .int .i64 (T.seen 3 : Int), .int .i64 (T.seen 4 : Int), .int .i64 (T.seen 5 : Int), .int .i64 (T.seen 6 : Int), .int .i64 (T.seen 7 : Int), .slice ao n c], .string k] W fun e w' => ∃ b o l c, e = .returned (.agg #[.int .i64 (b.seen 0 : Int), .int .i64 (b.seen 1 : Int), .int .i64 (b.seen 2 : Int), .int .i64 (b.seen 3 : Int), .int .i64 (b.seen 4 : Int), .int .i64 (b.seen 5 : Int), .int .i64 (b.seen 6 : Int), .int .i64 (b.seen 7 : Int), .slice o l c]) ∧ Hid (b = remT T k) ∧ HeldR w' m b o l c ∧ Below W.heap.size W w' := by
  have hl := h.len
  refine (refrem_any T.seen ao n c T.L k W h.el (by omega)).mono ?_
  rintro e w' ⟨ao', n', c', he, hel, h1, h2, hb⟩
  exact ⟨_, ao', n', c', he, Lib.hid rfl, ⟨hel, rem_ok h.ok k, h1, h2⟩, hb⟩
theorem refmerA {W : World} {m : Nat} {T U : Tab} {ao ao' : Option Addr} {n c n' c' : Nat} (h : HeldR W m T ao n c) (h' : HeldR W m U ao' n' c') (hm : m ≤ 10000) :
    Calls Try.prog 17 #[.agg #[.int .i64 (T.seen 0 : Int), .int .i64 (T.seen 1 : Int), .int .i64 (T.seen 2 : Int), .int .i64 (T.seen 3 : Int), .int .i64 (T.seen 4 : Int), .int .i64 (T.seen 5 : Int), .int .i64 (T.seen 6 : Int), .int .i64 (T.seen 7 : Int), .slice ao n c], .agg #[.int .i64 (U.seen 0 : Int), .int .i64 (U.seen 1 : Int), .int .i64 (U.seen 2 : Int), .int .i64 (U.seen 3 : Int), .int .i64 (U.seen 4 : Int), .int .i64 (U.seen 5 : Int), .int .i64 (U.seen 6 : Int), .int .i64 (U.seen 7 : Int), .slice ao' n' c']] W fun e w' => ∃ b o l c, e = .returned (.agg #[.int .i64 (b.seen 0 : Int), .int .i64 (b.seen 1 : Int), .int .i64 (b.seen 2 : Int), .int .i64 (b.seen 3 : Int), .int .i64 (b.seen 4 : Int), .int .i64 (b.seen 5 : Int), .int .i64 (b.seen 6 : Int), .int .i64 (b.seen 7 : Int), .slice o l c]) ∧ Hid (b = merT T U) ∧ HeldR w' m b o l c ∧ Below W.heap.size W w' := by
  have hl := h.len
  have hl' := h'.len
  refine (refmer_any m m T.seen U.seen ao ao' n c n' c' T.L U.L W h.el h'.el (by omega) (by omega) h.ok).mono ?_
  rintro e w' ⟨ao', n', c', he, hel, h1, h2, hb⟩
  exact ⟨_, ao', n', c', he, Lib.hid rfl, ⟨hel, mer_ok h.ok h'.ok (Nat.le_refl _) (Nat.le_refl _), h1, h2⟩, hb⟩
theorem refgetA {W : World} {m : Nat} {T : Tab} {ao : Option Addr} {n c : Nat} (h : HeldR W m T ao n c) (hm : m ≤ 10000) (k : ByteArray) :
    Calls Try.prog 13 #[.agg #[.int .i64 (T.seen 0 : Int), .int .i64 (T.seen 1 : Int), .int .i64 (T.seen 2 : Int), .int .i64 (T.seen 3 : Int), .int .i64 (T.seen 4 : Int), .int .i64 (T.seen 5 : Int), .int .i64 (T.seen 6 : Int), .int .i64 (T.seen 7 : Int), .slice ao n c], .string k] W fun e w' => ∃ ao' c', e = .returned (.slice ao' (getL T.L k).length c') ∧ Sl w' ao' (getL T.L k).length (getL T.L k) ∧ Below W.heap.size W w' := by
  have hl := h.len
  exact refget_any T.seen ao n c T.L k W h.el (by omega)
theorem sameA {W : World} {m : Nat} {T : Tab} {ao ao' : Option Addr} {n n' : Nat} (c c' : Nat) (h : Held W m T ao n) (h' : HeldR W m T ao' n' c') (hm : m ≤ 10000) :
    Calls Try.prog 10 #[.agg #[.int .i64 (T.seen 0 : Int), .int .i64 (T.seen 1 : Int), .int .i64 (T.seen 2 : Int), .int .i64 (T.seen 3 : Int), .int .i64 (T.seen 4 : Int), .int .i64 (T.seen 5 : Int), .int .i64 (T.seen 6 : Int), .int .i64 (T.seen 7 : Int), .slice ao n c], .agg #[.int .i64 (T.seen 0 : Int), .int .i64 (T.seen 1 : Int), .int .i64 (T.seen 2 : Int), .int .i64 (T.seen 3 : Int), .int .i64 (T.seen 4 : Int), .int .i64 (T.seen 5 : Int), .int .i64 (T.seen 6 : Int), .int .i64 (T.seen 7 : Int), .slice ao' n' c']] W fun e w' => e = .returned (.bool true) ∧ Below W.heap.size W w' := by
  have hl := h.len
  exact same_both T.seen ao ao' n c n' c' T.L W h.el h'.el (by omega)
/-- Put in both forms, whatever it is given -/
theorem putBoth {m : Nat} (T : Tab) (hok : T.Ok m) (hm : m ≤ 10000) (z : Int) (k v : ByteArray) :
    ∃ (er : Int) (U : Tab), U.Ok (m + 1) ∧ (er = 0 → ∃ i : Nat, ∃ hi : i < 8, z = (i : Int) ∧ U = putT T i hi k v ∧ (1 ≤ k.size ∧ k.size ≤ 64) ∧ v.size ≤ 64 ∧ room T.L k = true) ∧ (er ≠ 0 → U = Tab.none) ∧
    (∀ (w : World) (ao : Option Addr) (n c : Nat), Held w m T ao n → Calls Try.prog 23 #[.agg #[.int .i64 (T.seen 0 : Int), .int .i64 (T.seen 1 : Int), .int .i64 (T.seen 2 : Int), .int .i64 (T.seen 3 : Int), .int .i64 (T.seen 4 : Int), .int .i64 (T.seen 5 : Int), .int .i64 (T.seen 6 : Int), .int .i64 (T.seen 7 : Int), .slice ao n c], .int .i64 z, .string k, .string v] w fun e w' => ∃ b o l c, e = .returned (.tuple #[.agg #[.int .i64 (b.seen 0 : Int), .int .i64 (b.seen 1 : Int), .int .i64 (b.seen 2 : Int), .int .i64 (b.seen 3 : Int), .int .i64 (b.seen 4 : Int), .int .i64 (b.seen 5 : Int), .int .i64 (b.seen 6 : Int), .int .i64 (b.seen 7 : Int), .slice o l c], .int .i64 er]) ∧ Hid (b = U) ∧ Held w' (m + 1) b o l ∧ Below w.heap.size w w') ∧
    (∀ (w : World) (ao : Option Addr) (n c : Nat), HeldR w m T ao n c → Calls Try.prog 24 #[.agg #[.int .i64 (T.seen 0 : Int), .int .i64 (T.seen 1 : Int), .int .i64 (T.seen 2 : Int), .int .i64 (T.seen 3 : Int), .int .i64 (T.seen 4 : Int), .int .i64 (T.seen 5 : Int), .int .i64 (T.seen 6 : Int), .int .i64 (T.seen 7 : Int), .slice ao n c], .int .i64 z, .string k, .string v] w fun e w' => ∃ b o l c, e = .returned (.tuple #[.agg #[.int .i64 (b.seen 0 : Int), .int .i64 (b.seen 1 : Int), .int .i64 (b.seen 2 : Int), .int .i64 (b.seen 3 : Int), .int .i64 (b.seen 4 : Int), .int .i64 (b.seen 5 : Int), .int .i64 (b.seen 6 : Int), .int .i64 (b.seen 7 : Int), .slice o l c], .int .i64 er]) ∧ Hid (b = U) ∧ HeldR w' (m + 1) b o l c ∧ Below w.heap.size w w') := by
  have hne : ∀ e ∈ T.L, 1 ≤ e.key.size := fun e he => (hok.txt e he).1
  by_cases hs : z < 0 ∨ 8 ≤ z
  · exact ⟨80, Tab.none, Tab.none_ok.more (Nat.zero_le _), (fun e => absurd e (by decide)), (fun _ => rfl), fun w ao n c h => (put_site T.seen ao n c z k v w hs).mono fun e w' ⟨he, hb⟩ => ⟨Tab.none, none, 0, 0, he, Lib.hid rfl, (Held.none w').more (Nat.zero_le _), hb⟩,
      fun w ao n c h => ((refput_err T.seen ao n c z k v w).1 hs).mono fun e w' ⟨he, hb⟩ => ⟨Tab.none, none, 0, 0, he, Lib.hid rfl, (HeldR.none w').more (Nat.zero_le _), hb⟩⟩
  · by_cases hk : (1 ≤ k.size ∧ k.size ≤ 64) ∧ v.size ≤ 64
    · obtain ⟨i, rfl⟩ := Int.eq_ofNat_of_zero_le (show 0 ≤ z by omega)
      have hi : i < 8 := by omega
      have hfew := hok.few i
      cases hr : room T.L k
      · exact ⟨5, Tab.none, Tab.none_ok.more (Nat.zero_le _), (fun e => absurd e (by decide)), (fun _ => rfl), fun w ao n c h => (putA_full c h (by omega) i hi k v hk.1 hk.2 hr).mono fun e w' ⟨he, hb⟩ => ⟨Tab.none, none, 0, 0, he, Lib.hid rfl, (Held.none w').more (Nat.zero_le _), hb⟩,
          fun w ao n c h => (refput_full T.seen ao n c T.L i k v w h.el (by have := h.len; omega) hi hk.1 hk.2 (by omega) hne hr).mono fun e w' ⟨he, hb⟩ => ⟨Tab.none, none, 0, 0, he, Lib.hid rfl, (HeldR.none w').more (Nat.zero_le _), hb⟩⟩
      · exact ⟨0, putT T i hi k v, put_ok hok hi hk.1 hk.2, fun _ => ⟨i, hi, rfl, rfl, hk.1, hk.2, rfl⟩, (fun e => absurd rfl e), fun w ao n c h => putA c h (by omega) i hi k v hk.1 hk.2 hr,
          fun w ao n c h => (refput_ok T.seen ao n c T.L i k v w h.el (by have := h.len; omega) hi hk.1 hk.2 (by omega) hne hr).mono fun e w' ⟨ao', n', c', he, hel, h1, h2, hb⟩ => ⟨_, ao', n', c', he, Lib.hid rfl, ⟨hel, put_ok hok hi hk.1 hk.2, h1, h2⟩, hb⟩⟩
    · exact ⟨2, Tab.none, Tab.none_ok.more (Nat.zero_le _), (fun e => absurd e (by decide)), (fun _ => rfl), fun w ao n c h => (put_arg T.seen ao n c z k v w (by omega) hk).mono fun e w' ⟨he, hb⟩ => ⟨Tab.none, none, 0, 0, he, Lib.hid rfl, (Held.none w').more (Nat.zero_le _), hb⟩,
        fun w ao n c h => ((refput_err T.seen ao n c z k v w).2 (by omega) hk).mono fun e w' ⟨he, hb⟩ => ⟨Tab.none, none, 0, 0, he, Lib.hid rfl, (HeldR.none w').more (Nat.zero_le _), hb⟩⟩

def IsR (U : Tab) (m : Nat) (v : Value) (w : World) : Prop := ∃ b o l c, v = .agg #[.int .i64 (b.seen 0 : Int), .int .i64 (b.seen 1 : Int), .int .i64 (b.seen 2 : Int), .int .i64 (b.seen 3 : Int), .int .i64 (b.seen 4 : Int), .int .i64 (b.seen 5 : Int), .int .i64 (b.seen 6 : Int), .int .i64 (b.seen 7 : Int), .slice o l c] ∧ b = U ∧ HeldR w m b o l c
def IsTE (U : Tab) (m : Nat) (er : Int) (v : Value) (w : World) : Prop := ∃ b o l c, v = .tuple #[.agg #[.int .i64 (b.seen 0 : Int), .int .i64 (b.seen 1 : Int), .int .i64 (b.seen 2 : Int), .int .i64 (b.seen 3 : Int), .int .i64 (b.seen 4 : Int), .int .i64 (b.seen 5 : Int), .int .i64 (b.seen 6 : Int), .int .i64 (b.seen 7 : Int), .slice o l c], .int .i64 er] ∧ b = U ∧ Held w m b o l
def IsRE (U : Tab) (m : Nat) (er : Int) (v : Value) (w : World) : Prop := ∃ b o l c, v = .tuple #[.agg #[.int .i64 (b.seen 0 : Int), .int .i64 (b.seen 1 : Int), .int .i64 (b.seen 2 : Int), .int .i64 (b.seen 3 : Int), .int .i64 (b.seen 4 : Int), .int .i64 (b.seen 5 : Int), .int .i64 (b.seen 6 : Int), .int .i64 (b.seen 7 : Int), .slice o l c], .int .i64 er] ∧ b = U ∧ HeldR w m b o l c
theorem Stable.heldR (base m : Nat) (T : Tab) (ao : Option Addr) (n c : Nat) : Stable base (fun w => HeldR w m T ao n c) :=
  ⟨fun w w' h hb => h.keep hb, fun w g ty cc us h hg hb hc => ⟨((Stable.held base m T ao n).2 w g ty cc us ⟨h.el, h.ok⟩ hg hb hc).el, h.ok, h.nc, h.cm⟩⟩
theorem Stable.isR (base : Nat) (U : Tab) (m : Nat) (v : Value) : Stable base (IsR U m v) :=
  Stable.ex fun b => Stable.ex fun o => Stable.ex fun l => Stable.ex fun c => (Stable.const base _).and ((Stable.const base _).and (Stable.heldR base m b o l c))
theorem Stable.isTE (base : Nat) (U : Tab) (m : Nat) (er : Int) (v : Value) : Stable base (IsTE U m er v) :=
  Stable.ex fun b => Stable.ex fun o => Stable.ex fun l => Stable.ex fun c => (Stable.const base _).and ((Stable.const base _).and (Stable.held base m b o l))
theorem Stable.isRE (base : Nat) (U : Tab) (m : Nat) (er : Int) (v : Value) : Stable base (IsRE U m er v) :=
  Stable.ex fun b => Stable.ex fun o => Stable.ex fun l => Stable.ex fun c => (Stable.const base _).and ((Stable.const base _).and (Stable.heldR base m b o l c))
theorem outR {W w' : World} {U : Tab} {m : Nat} {e : Ending} (h : ∃ b o l c, e = .returned (.agg #[.int .i64 (b.seen 0 : Int), .int .i64 (b.seen 1 : Int), .int .i64 (b.seen 2 : Int), .int .i64 (b.seen 3 : Int), .int .i64 (b.seen 4 : Int), .int .i64 (b.seen 5 : Int), .int .i64 (b.seen 6 : Int), .int .i64 (b.seen 7 : Int), .slice o l c]) ∧ Hid (b = U) ∧ HeldR w' m b o l c ∧ Below W.heap.size W w') : ∃ v, e = .returned v ∧ IsR U m v w' ∧ Below W.heap.size W w' := by
  obtain ⟨b, o, l, c, he, h1, h2, h3⟩ := h
  exact ⟨_, he, ⟨b, o, l, c, rfl, h1.out, h2⟩, h3⟩
theorem outTE {W w' : World} {U : Tab} {m : Nat} {er : Int} {e : Ending} (h : ∃ b o l c, e = .returned (.tuple #[.agg #[.int .i64 (b.seen 0 : Int), .int .i64 (b.seen 1 : Int), .int .i64 (b.seen 2 : Int), .int .i64 (b.seen 3 : Int), .int .i64 (b.seen 4 : Int), .int .i64 (b.seen 5 : Int), .int .i64 (b.seen 6 : Int), .int .i64 (b.seen 7 : Int), .slice o l c], .int .i64 er]) ∧ Hid (b = U) ∧ Held w' m b o l ∧ Below W.heap.size W w') : ∃ v, e = .returned v ∧ IsTE U m er v w' ∧ Below W.heap.size W w' := by
  obtain ⟨b, o, l, c, he, h1, h2, h3⟩ := h
  exact ⟨_, he, ⟨b, o, l, c, rfl, h1.out, h2⟩, h3⟩
theorem outRE {W w' : World} {U : Tab} {m : Nat} {er : Int} {e : Ending} (h : ∃ b o l c, e = .returned (.tuple #[.agg #[.int .i64 (b.seen 0 : Int), .int .i64 (b.seen 1 : Int), .int .i64 (b.seen 2 : Int), .int .i64 (b.seen 3 : Int), .int .i64 (b.seen 4 : Int), .int .i64 (b.seen 5 : Int), .int .i64 (b.seen 6 : Int), .int .i64 (b.seen 7 : Int), .slice o l c], .int .i64 er]) ∧ Hid (b = U) ∧ HeldR w' m b o l c ∧ Below W.heap.size W w') : ∃ v, e = .returned v ∧ IsRE U m er v w' ∧ Below W.heap.size W w' := by
  obtain ⟨b, o, l, c, he, h1, h2, h3⟩ := h
  exact ⟨_, he, ⟨b, o, l, c, rfl, h1.out, h2⟩, h3⟩
theorem at_runT (i n g cap : Nat) (hi : i < n) (hn : n ≤ 1000) (w : World) : (Instr.indexAt 25 (.slice (some ⟨g, 0, none⟩) n cap) (.int .i64 (i : Int))).run Try.prog w = .ok (.pointer (some ⟨g, i * 9, none⟩)) w := by
  refine (run_indexAt_slice (P := Try.prog) (w := w) 25 ⟨g, 0, none⟩ n cap .i64 (i : Int) (by kernel_rfl)).trans ?_
  rw [if_pos ⟨by omega, by omega⟩, show Try.prog.elem 25 = 34 from by kernel_rfl, Try.sizeOf34]
  simp [Result.andThen, Addr.add]
  try (intro h; omega)
theorem at_runR (i n g cap : Nat) (hi : i < n) (hn : n ≤ 1000) (w : World) : (Instr.indexAt 26 (.slice (some ⟨g, 0, none⟩) n cap) (.int .i64 (i : Int))).run Try.prog w = .ok (.pointer (some ⟨g, i * 9, none⟩)) w := by
  refine (run_indexAt_slice (P := Try.prog) (w := w) 26 ⟨g, 0, none⟩ n cap .i64 (i : Int) (by kernel_rfl)).trans ?_
  rw [if_pos ⟨by omega, by omega⟩, show Try.prog.elem 26 = 36 from by kernel_rfl, Try.sizeOf36]
  simp [Result.andThen, Addr.add]
  try (intro h; omega)

def made_remS : Shape where
  f := fun i => match i with | 0 => 36 | 1 => 37 | 2 => 38 | 3 => 39 | 4 => 40 | 5 => 41 | 6 => 42 | 7 => 43 | 8 => 44 | 9 => 45 | 10 => 46 | 11 => 47 | 12 => 48 | 13 => 49 | 14 => 11 | 15 => 12 | _ => 0
  kd := fun i => match i with | 14 => .box 34 #[.int .i64 0, .int .i64 0, .int .i64 0, .int .i64 0, .int .i64 0, .int .i64 0, .int .i64 0, .int .i64 0, .slice none 0 0] | 15 => .box 36 #[.int .i64 0, .int .i64 0, .int .i64 0, .int .i64 0, .int .i64 0, .int .i64 0, .int .i64 0, .int .i64 0, .slice none 0 0] | 16 => .put 14 6 | 17 => .put 15 13 | _ => .val
  need := fun i => match i with | 2 => [0, 1] | 3 => [2] | 5 => [4] | 6 => [3, 5] | 9 => [7, 8] | 10 => [9] | 12 => [11] | 13 => [10, 12] | 16 => [14, 6] | 17 => [15, 13] | _ => []
  st := fun i => match i with | 14 => 16 | 15 => 17 | _ => 0
  src := fun i => match i with | 14 => 6 | 15 => 13 | _ => 0

set_option maxRecDepth 4000 in
set_option maxHeartbeats 16000000 in
/-- two removals -/
theorem made_rem {Q : Exit → Act → World → Prop} {id : Nat} {a0 : Act} {W : World} {o0 o1 o2 o3 o4 o5 o6 o7 o8 o9 o10 o11 o12 o13 o14 o15 o16 o17 : Oper} (x : ActD) (ta ra : Slot) (m nn cp cq pa : Nat) (gA : Nat) (gT : Nat) (gR : Nat) (ts6 : Array TypeId) (ts13 : Array TypeId)
    (hok : made_remS.ok #[o0, o1, o2, o3, o4, o5, o6, o7, o8, o9, o10, o11, o12, o13, o14, o15, o16, o17] a0.tmps.size = true)
    (h0 : o0.op = .move (.tmp 0)) (h1 : o1.op = .move (.tmp 9)) (h2 : o2.op = .indexAddr 25 (.tmp 36) (.tmp 37)) (h3 : o3.op = .load 34 (.tmp 38)) (h4 : o4.op = .fieldAddr 74 (.tmp 5) 4) (h5 : o5.op = .load 9 (.tmp 40)) (h6 : o6.op = .call { callee := .value (.func 53), args := #[.tmp 39, .tmp 41], argTypes := ts6 }) (h7 : o7.op = .move (.tmp 1)) (h8 : o8.op = .move (.tmp 9)) (h9 : o9.op = .indexAddr 26 (.tmp 43) (.tmp 44)) (h10 : o10.op = .load 36 (.tmp 45)) (h11 : o11.op = .fieldAddr 74 (.tmp 5) 4) (h12 : o12.op = .load 9 (.tmp 47)) (h13 : o13.op = .call { callee := .value (.func 58), args := #[.tmp 46, .tmp 48], argTypes := ts13 }) (h14 : o14.op = .alloc 34) (h15 : o15.op = .alloc 36) (h16 : o16.op = .store 34 (.tmp 11) (.tmp 42)) (h17 : o17.op = .store 36 (.tmp 12) (.tmp 49))
    (hrA : a0.eval (.tmp 5) = .pointer (some ⟨gA, 0, none⟩)) (hgA : gA < W.heap.size) (cA_0 : W.cell? ⟨gA, 0, none⟩ = some (.int .u8 (x.kind : Int))) (cA_1 : W.cell? ⟨gA, 1, none⟩ = some (.int .u8 (x.a : Int))) (cA_2 : W.cell? ⟨gA, 2, none⟩ = some (.int .u8 (x.b : Int))) (cA_3 : W.cell? ⟨gA, 3, none⟩ = some (.int .i64 x.site)) (cA_4 : W.cell? ⟨gA, 4, none⟩ = some (.string x.key)) (cA_5 : W.cell? ⟨gA, 5, none⟩ = some (.string x.val))
    (hgP : gT < W.heap.size) (cP_0 : W.cell? ⟨gT, pa * 9, none⟩ = some (.int .i64 (ta.T.seen 0 : Int))) (cP_1 : W.cell? ⟨gT, pa * 9 + 1, none⟩ = some (.int .i64 (ta.T.seen 1 : Int))) (cP_2 : W.cell? ⟨gT, pa * 9 + 2, none⟩ = some (.int .i64 (ta.T.seen 2 : Int))) (cP_3 : W.cell? ⟨gT, pa * 9 + 3, none⟩ = some (.int .i64 (ta.T.seen 3 : Int))) (cP_4 : W.cell? ⟨gT, pa * 9 + 4, none⟩ = some (.int .i64 (ta.T.seen 4 : Int))) (cP_5 : W.cell? ⟨gT, pa * 9 + 5, none⟩ = some (.int .i64 (ta.T.seen 5 : Int))) (cP_6 : W.cell? ⟨gT, pa * 9 + 6, none⟩ = some (.int .i64 (ta.T.seen 6 : Int))) (cP_7 : W.cell? ⟨gT, pa * 9 + 7, none⟩ = some (.int .i64 (ta.T.seen 7 : Int))) (cP_8 : W.cell? ⟨gT, pa * 9 + 8, none⟩ = some (.slice ta.ao ta.n ta.c))
    (hgR : gR < W.heap.size) (cR_0 : W.cell? ⟨gR, pa * 9, none⟩ = some (.int .i64 (ta.T.seen 0 : Int))) (cR_1 : W.cell? ⟨gR, pa * 9 + 1, none⟩ = some (.int .i64 (ta.T.seen 1 : Int))) (cR_2 : W.cell? ⟨gR, pa * 9 + 2, none⟩ = some (.int .i64 (ta.T.seen 2 : Int))) (cR_3 : W.cell? ⟨gR, pa * 9 + 3, none⟩ = some (.int .i64 (ta.T.seen 3 : Int))) (cR_4 : W.cell? ⟨gR, pa * 9 + 4, none⟩ = some (.int .i64 (ta.T.seen 4 : Int))) (cR_5 : W.cell? ⟨gR, pa * 9 + 5, none⟩ = some (.int .i64 (ta.T.seen 5 : Int))) (cR_6 : W.cell? ⟨gR, pa * 9 + 6, none⟩ = some (.int .i64 (ta.T.seen 6 : Int))) (cR_7 : W.cell? ⟨gR, pa * 9 + 7, none⟩ = some (.int .i64 (ta.T.seen 7 : Int))) (cR_8 : W.cell? ⟨gR, pa * 9 + 8, none⟩ = some (.slice ra.ao ra.n ra.c))
    (hmS : a0.eval (.tmp 0) = .slice (some ⟨gT, 0, none⟩) nn cp)
    (hmU : a0.eval (.tmp 1) = .slice (some ⟨gR, 0, none⟩) nn cq)
    (hmI : a0.eval (.tmp 9) = .int .i64 (pa : Int))
    (hpa : pa < nn) (hnn : nn ≤ 1000) (hm : m ≤ 10000)
    (tA : Held W m ta.T ta.ao ta.n) (rA : HeldR W m ta.T ra.ao ra.n ra.c)
    (hend : ∀ w b14 b15 b6 o6 l6 c6 b13 o13 l13 c13 , Below W.heap.size W w → W.heap.size ≤ b14 → Box w b14 34 #[.int .i64 (b6.seen 0 : Int), .int .i64 (b6.seen 1 : Int), .int .i64 (b6.seen 2 : Int), .int .i64 (b6.seen 3 : Int), .int .i64 (b6.seen 4 : Int), .int .i64 (b6.seen 5 : Int), .int .i64 (b6.seen 6 : Int), .int .i64 (b6.seen 7 : Int), .slice o6 l6 c6] → W.heap.size ≤ b15 → Box w b15 36 #[.int .i64 (b13.seen 0 : Int), .int .i64 (b13.seen 1 : Int), .int .i64 (b13.seen 2 : Int), .int .i64 (b13.seen 3 : Int), .int .i64 (b13.seen 4 : Int), .int .i64 (b13.seen 5 : Int), .int .i64 (b13.seen 6 : Int), .int .i64 (b13.seen 7 : Int), .slice o13 l13 c13] → b14 ≠ b15 → b6 = (remT ta.T x.key) → Held w (m) b6 o6 l6 → b13 = (remT ta.T x.key) → HeldR w (m) b13 o13 l13 c13 → 
      Q .normal (puts a0 [(36, .slice (some ⟨gT, 0, none⟩) nn cp), (37, .int .i64 (pa : Int)), (38, .pointer (some ⟨gT, pa * 9, none⟩)), (39, .agg #[.int .i64 (ta.T.seen 0 : Int), .int .i64 (ta.T.seen 1 : Int), .int .i64 (ta.T.seen 2 : Int), .int .i64 (ta.T.seen 3 : Int), .int .i64 (ta.T.seen 4 : Int), .int .i64 (ta.T.seen 5 : Int), .int .i64 (ta.T.seen 6 : Int), .int .i64 (ta.T.seen 7 : Int), .slice ta.ao ta.n ta.c]), (40, .pointer (some ⟨gA, 4, none⟩)), (41, .string x.key), (42, .agg #[.int .i64 (b6.seen 0 : Int), .int .i64 (b6.seen 1 : Int), .int .i64 (b6.seen 2 : Int), .int .i64 (b6.seen 3 : Int), .int .i64 (b6.seen 4 : Int), .int .i64 (b6.seen 5 : Int), .int .i64 (b6.seen 6 : Int), .int .i64 (b6.seen 7 : Int), .slice o6 l6 c6]), (43, .slice (some ⟨gR, 0, none⟩) nn cq), (44, .int .i64 (pa : Int)), (45, .pointer (some ⟨gR, pa * 9, none⟩)), (46, .agg #[.int .i64 (ta.T.seen 0 : Int), .int .i64 (ta.T.seen 1 : Int), .int .i64 (ta.T.seen 2 : Int), .int .i64 (ta.T.seen 3 : Int), .int .i64 (ta.T.seen 4 : Int), .int .i64 (ta.T.seen 5 : Int), .int .i64 (ta.T.seen 6 : Int), .int .i64 (ta.T.seen 7 : Int), .slice ra.ao ra.n ra.c]), (47, .pointer (some ⟨gA, 4, none⟩)), (48, .string x.key), (49, .agg #[.int .i64 (b13.seen 0 : Int), .int .i64 (b13.seen 1 : Int), .int .i64 (b13.seen 2 : Int), .int .i64 (b13.seen 3 : Int), .int .i64 (b13.seen 4 : Int), .int .i64 (b13.seen 5 : Int), .int .i64 (b13.seen 6 : Int), .int .i64 (b13.seen 7 : Int), .slice o13 l13 c13]), (11, .pointer (some ⟨b14, 0, none⟩)), (12, .pointer (some ⟨b15, 0, none⟩))]) w) :
    (Code.region id #[o0, o1, o2, o3, o4, o5, o6, o7, o8, o9, o10, o11, o12, o13, o14, o15, o16, o17] true).wp Try.prog Q a0 W := by
  refine Shape.region made_remS (fun i v w => (fun (v : Value) => (match i with | 0 => v = .slice (some ⟨gT, 0, none⟩) nn cp | 1 => v = .int .i64 (pa : Int) | 2 => v = .pointer (some ⟨gT, pa * 9, none⟩) | 3 => v = .agg #[.int .i64 (ta.T.seen 0 : Int), .int .i64 (ta.T.seen 1 : Int), .int .i64 (ta.T.seen 2 : Int), .int .i64 (ta.T.seen 3 : Int), .int .i64 (ta.T.seen 4 : Int), .int .i64 (ta.T.seen 5 : Int), .int .i64 (ta.T.seen 6 : Int), .int .i64 (ta.T.seen 7 : Int), .slice ta.ao ta.n ta.c] | 4 => v = .pointer (some ⟨gA, 4, none⟩) | 5 => v = .string x.key | 6 => IsT (remT ta.T x.key) (m) v w | 7 => v = .slice (some ⟨gR, 0, none⟩) nn cq | 8 => v = .int .i64 (pa : Int) | 9 => v = .pointer (some ⟨gR, pa * 9, none⟩) | 10 => v = .agg #[.int .i64 (ta.T.seen 0 : Int), .int .i64 (ta.T.seen 1 : Int), .int .i64 (ta.T.seen 2 : Int), .int .i64 (ta.T.seen 3 : Int), .int .i64 (ta.T.seen 4 : Int), .int .i64 (ta.T.seen 5 : Int), .int .i64 (ta.T.seen 6 : Int), .int .i64 (ta.T.seen 7 : Int), .slice ra.ao ra.n ra.c] | 11 => v = .pointer (some ⟨gA, 4, none⟩) | 12 => v = .string x.key | 13 => IsR (remT ta.T x.key) (m) v w | _ => True : Prop)) (v i)) (by kernel_rfl) hok
    (fun i v v' w _ hj hΦ => by rw [← hj i (.inl rfl)]; exact hΦ) ?stab ?val ?box ?put rfl ?fin
  case stab =>
    intro i v hi
    match i with
    | 0 => exact Stable.const _ _
    | 1 => exact Stable.const _ _
    | 2 => exact Stable.const _ _
    | 3 => exact Stable.const _ _
    | 4 => exact Stable.const _ _
    | 5 => exact Stable.const _ _
    | 6 => exact Stable.isT _ _ _ _
    | 7 => exact Stable.const _ _
    | 8 => exact Stable.const _ _
    | 9 => exact Stable.const _ _
    | 10 => exact Stable.const _ _
    | 11 => exact Stable.const _ _
    | 12 => exact Stable.const _ _
    | 13 => exact Stable.isR _ _ _ _
    | 14 => exact Stable.const _ _
    | 15 => exact Stable.const _ _
    | 16 => exact Stable.const _ _
    | 17 => exact Stable.const _ _
    | i + 18 => exact Stable.const _ _
  case val =>
    intro i o ho hv a w hA hb hz hn K' hK
    have hw := below_undrew hb
    have erA : a.eval (.tmp 5) = .pointer (some ⟨gA, 0, none⟩) := (hA.eval (show 5 ∉ made_remS.slots 18 by decide)).trans hrA
    have kA_0 := (hb.cell (p := ⟨gA, 0, none⟩) hgA).trans cA_0
    have kA_1 := (hb.cell (p := ⟨gA, 1, none⟩) hgA).trans cA_1
    have kA_2 := (hb.cell (p := ⟨gA, 2, none⟩) hgA).trans cA_2
    have kA_3 := (hb.cell (p := ⟨gA, 3, none⟩) hgA).trans cA_3
    have kA_4 := (hb.cell (p := ⟨gA, 4, none⟩) hgA).trans cA_4
    have kA_5 := (hb.cell (p := ⟨gA, 5, none⟩) hgA).trans cA_5
    have kP_0 := (hb.cell (p := ⟨gT, pa * 9, none⟩) hgP).trans cP_0
    have kP_1 := (hb.cell (p := ⟨gT, pa * 9 + 1, none⟩) hgP).trans cP_1
    have kP_2 := (hb.cell (p := ⟨gT, pa * 9 + 2, none⟩) hgP).trans cP_2
    have kP_3 := (hb.cell (p := ⟨gT, pa * 9 + 3, none⟩) hgP).trans cP_3
    have kP_4 := (hb.cell (p := ⟨gT, pa * 9 + 4, none⟩) hgP).trans cP_4
    have kP_5 := (hb.cell (p := ⟨gT, pa * 9 + 5, none⟩) hgP).trans cP_5
    have kP_6 := (hb.cell (p := ⟨gT, pa * 9 + 6, none⟩) hgP).trans cP_6
    have kP_7 := (hb.cell (p := ⟨gT, pa * 9 + 7, none⟩) hgP).trans cP_7
    have kP_8 := (hb.cell (p := ⟨gT, pa * 9 + 8, none⟩) hgP).trans cP_8
    have kR_0 := (hb.cell (p := ⟨gR, pa * 9, none⟩) hgR).trans cR_0
    have kR_1 := (hb.cell (p := ⟨gR, pa * 9 + 1, none⟩) hgR).trans cR_1
    have kR_2 := (hb.cell (p := ⟨gR, pa * 9 + 2, none⟩) hgR).trans cR_2
    have kR_3 := (hb.cell (p := ⟨gR, pa * 9 + 3, none⟩) hgR).trans cR_3
    have kR_4 := (hb.cell (p := ⟨gR, pa * 9 + 4, none⟩) hgR).trans cR_4
    have kR_5 := (hb.cell (p := ⟨gR, pa * 9 + 5, none⟩) hgR).trans cR_5
    have kR_6 := (hb.cell (p := ⟨gR, pa * 9 + 6, none⟩) hgR).trans cR_6
    have kR_7 := (hb.cell (p := ⟨gR, pa * 9 + 7, none⟩) hgR).trans cR_7
    have kR_8 := (hb.cell (p := ⟨gR, pa * 9 + 8, none⟩) hgR).trans cR_8
    have emS : a.eval (.tmp 0) = .slice (some ⟨gT, 0, none⟩) nn cp := (hA.eval (show 0 ∉ made_remS.slots 18 by decide)).trans hmS
    have emU : a.eval (.tmp 1) = .slice (some ⟨gR, 0, none⟩) nn cq := (hA.eval (show 1 ∉ made_remS.slots 18 by decide)).trans hmU
    have emI : a.eval (.tmp 9) = .int .i64 (pa : Int) := (hA.eval (show 9 ∉ made_remS.slots 18 by decide)).trans hmI
    match i, ho, hv with
    | 0, ho, _ =>
      have ho' : o0 = o := by simpa using ho
      subst ho'
      exact wp_value (run_move h0 a w) (hK _ _ (Below.refl _ _) (by simp [updV, emS]))
    | 1, ho, _ =>
      have ho' : o1 = o := by simpa using ho
      subst ho'
      exact wp_value (run_move h1 a w) (hK _ _ (Below.refl _ _) (by simp [updV, emI]))
    | 2, ho, _ =>
      have ho' : o2 = o := by simpa using ho
      subst ho'
      have e1 : a.eval (.tmp 36) = .slice (some ⟨gT, 0, none⟩) nn cp := hn 0 (by simp [made_remS]) rfl
      have e2 : a.eval (.tmp 37) = .int .i64 (pa : Int) := hn 1 (by simp [made_remS]) rfl
      refine wp_value (v := .pointer (some ⟨gT, pa * 9, none⟩)) (w' := w) ?_ (hK _ _ (Below.refl _ _) (by simp [updV]))
      unfold execOp
      rw [h2]
      dsimp only
      rw [e1, e2]
      simp [go_sem, at_runT pa nn gT cp hpa hnn w]
    | 3, ho, _ =>
      have ho' : o3 = o := by simpa using ho
      subst ho'
      have e : a.eval (.tmp 38) = .pointer (some ⟨gT, pa * 9, none⟩) := hn 2 (by simp [made_remS]) rfl
      refine wp_value (v := .agg #[.int .i64 (ta.T.seen 0 : Int), .int .i64 (ta.T.seen 1 : Int), .int .i64 (ta.T.seen 2 : Int), .int .i64 (ta.T.seen 3 : Int), .int .i64 (ta.T.seen 4 : Int), .int .i64 (ta.T.seen 5 : Int), .int .i64 (ta.T.seen 6 : Int), .int .i64 (ta.T.seen 7 : Int), .slice ta.ao ta.n ta.c]) (w' := w) ?_ (hK _ _ (Below.refl _ _) (by simp [updV]))
      unfold execOp
      rw [h3]
      dsimp only
      rw [e]
      simp [go_sem, kP_0, kP_1, kP_2, kP_3, kP_4, kP_5, kP_6, kP_7, kP_8]
    | 4, ho, _ =>
      have ho' : o4 = o := by simpa using ho
      subst ho'
      refine wp_value (v := .pointer (some ⟨gA, 4, none⟩)) (w' := w) ?_ (hK _ _ (Below.refl _ _) (by simp [updV]))
      unfold execOp
      rw [h4]
      dsimp only
      rw [erA]
      simp [go_sem]
    | 5, ho, _ =>
      have ho' : o5 = o := by simpa using ho
      subst ho'
      have e : a.eval (.tmp 40) = .pointer (some ⟨gA, 4, none⟩) := hn 4 (by simp [made_remS]) rfl
      refine wp_value (v := .string x.key) (w' := w) ?_ (hK _ _ (Below.refl _ _) (by simp [updV]))
      unfold execOp
      rw [h5]
      dsimp only
      rw [e]
      simp [go_sem, kA_0, kA_1, kA_2, kA_3, kA_4, kA_5]
    | 6, ho, _ =>
      have ho' : o6 = o := by simpa using ho
      subst ho'
      have e3 : a.eval (.tmp 39) = .agg #[.int .i64 (ta.T.seen 0 : Int), .int .i64 (ta.T.seen 1 : Int), .int .i64 (ta.T.seen 2 : Int), .int .i64 (ta.T.seen 3 : Int), .int .i64 (ta.T.seen 4 : Int), .int .i64 (ta.T.seen 5 : Int), .int .i64 (ta.T.seen 6 : Int), .int .i64 (ta.T.seen 7 : Int), .slice ta.ao ta.n ta.c] := hn 3 (by simp [made_remS]) rfl
      have e5 : a.eval (.tmp 41) = .string x.key := hn 5 (by simp [made_remS]) rfl
      refine wp_call (run_call Try.func53 (by kernel_rfl) rfl h6 a w) ?_ (fun v w' hb' hφ => hK v w' hb' (by simpa [updV] using hφ))
      have em : Array.map a.eval #[Operand.tmp 39, Operand.tmp 41] = #[a.eval (.tmp 39), a.eval (.tmp 41)] := by first | (simp only [List.map_toArray, List.map_cons, List.map_nil]; done) | (simp only [List.map_toArray, List.map_cons, List.map_nil]; rfl) | rfl
      rw [em, e3, e5]
      exact (removeA ta.c (tA.keep hw) (by omega) x.key).mono fun e w h => outT h
    | 7, ho, _ =>
      have ho' : o7 = o := by simpa using ho
      subst ho'
      exact wp_value (run_move h7 a w) (hK _ _ (Below.refl _ _) (by simp [updV, emU]))
    | 8, ho, _ =>
      have ho' : o8 = o := by simpa using ho
      subst ho'
      exact wp_value (run_move h8 a w) (hK _ _ (Below.refl _ _) (by simp [updV, emI]))
    | 9, ho, _ =>
      have ho' : o9 = o := by simpa using ho
      subst ho'
      have e1 : a.eval (.tmp 43) = .slice (some ⟨gR, 0, none⟩) nn cq := hn 7 (by simp [made_remS]) rfl
      have e2 : a.eval (.tmp 44) = .int .i64 (pa : Int) := hn 8 (by simp [made_remS]) rfl
      refine wp_value (v := .pointer (some ⟨gR, pa * 9, none⟩)) (w' := w) ?_ (hK _ _ (Below.refl _ _) (by simp [updV]))
      unfold execOp
      rw [h9]
      dsimp only
      rw [e1, e2]
      simp [go_sem, at_runR pa nn gR cq hpa hnn w]
    | 10, ho, _ =>
      have ho' : o10 = o := by simpa using ho
      subst ho'
      have e : a.eval (.tmp 45) = .pointer (some ⟨gR, pa * 9, none⟩) := hn 9 (by simp [made_remS]) rfl
      refine wp_value (v := .agg #[.int .i64 (ta.T.seen 0 : Int), .int .i64 (ta.T.seen 1 : Int), .int .i64 (ta.T.seen 2 : Int), .int .i64 (ta.T.seen 3 : Int), .int .i64 (ta.T.seen 4 : Int), .int .i64 (ta.T.seen 5 : Int), .int .i64 (ta.T.seen 6 : Int), .int .i64 (ta.T.seen 7 : Int), .slice ra.ao ra.n ra.c]) (w' := w) ?_ (hK _ _ (Below.refl _ _) (by simp [updV]))
      unfold execOp
      rw [h10]
      dsimp only
      rw [e]
      simp [go_sem, kR_0, kR_1, kR_2, kR_3, kR_4, kR_5, kR_6, kR_7, kR_8]
    | 11, ho, _ =>
      have ho' : o11 = o := by simpa using ho
      subst ho'
      refine wp_value (v := .pointer (some ⟨gA, 4, none⟩)) (w' := w) ?_ (hK _ _ (Below.refl _ _) (by simp [updV]))
      unfold execOp
      rw [h11]
      dsimp only
      rw [erA]
      simp [go_sem]
    | 12, ho, _ =>
      have ho' : o12 = o := by simpa using ho
      subst ho'
      have e : a.eval (.tmp 47) = .pointer (some ⟨gA, 4, none⟩) := hn 11 (by simp [made_remS]) rfl
      refine wp_value (v := .string x.key) (w' := w) ?_ (hK _ _ (Below.refl _ _) (by simp [updV]))
      unfold execOp
      rw [h12]
      dsimp only
      rw [e]
      simp [go_sem, kA_0, kA_1, kA_2, kA_3, kA_4, kA_5]
    | 13, ho, _ =>
      have ho' : o13 = o := by simpa using ho
      subst ho'
      have e10 : a.eval (.tmp 46) = .agg #[.int .i64 (ta.T.seen 0 : Int), .int .i64 (ta.T.seen 1 : Int), .int .i64 (ta.T.seen 2 : Int), .int .i64 (ta.T.seen 3 : Int), .int .i64 (ta.T.seen 4 : Int), .int .i64 (ta.T.seen 5 : Int), .int .i64 (ta.T.seen 6 : Int), .int .i64 (ta.T.seen 7 : Int), .slice ra.ao ra.n ra.c] := hn 10 (by simp [made_remS]) rfl
      have e12 : a.eval (.tmp 48) = .string x.key := hn 12 (by simp [made_remS]) rfl
      refine wp_call (run_call Try.func58 (by kernel_rfl) rfl h13 a w) ?_ (fun v w' hb' hφ => hK v w' hb' (by simpa [updV] using hφ))
      have em : Array.map a.eval #[Operand.tmp 46, Operand.tmp 48] = #[a.eval (.tmp 46), a.eval (.tmp 48)] := by first | (simp only [List.map_toArray, List.map_cons, List.map_nil]; done) | (simp only [List.map_toArray, List.map_cons, List.map_nil]; rfl) | rfl
      rw [em, e10, e12]
      exact (refremA (rA.keep hw) hm x.key).mono fun e w h => outR h
    | 14, _, hv => cases hv
    | 15, _, hv => cases hv
    | 16, _, hv => cases hv
    | 17, _, hv => cases hv
    | i + 18, ho, _ => simp at ho
  case box =>
    intro i o T z ho hk a w
    match i, ho, hk with
    | 0, _, hk => cases hk
    | 1, _, hk => cases hk
    | 2, _, hk => cases hk
    | 3, _, hk => cases hk
    | 4, _, hk => cases hk
    | 5, _, hk => cases hk
    | 6, _, hk => cases hk
    | 7, _, hk => cases hk
    | 8, _, hk => cases hk
    | 9, _, hk => cases hk
    | 10, _, hk => cases hk
    | 11, _, hk => cases hk
    | 12, _, hk => cases hk
    | 13, _, hk => cases hk
    | 14, ho, hk =>
      have ho' : o14 = o := by simpa using ho
      subst ho'; cases hk; unfold execOp; rw [h14]; simp [go_sem]
    | 15, ho, hk =>
      have ho' : o15 = o := by simpa using ho
      subst ho'; cases hk; unfold execOp; rw [h15]; simp [go_sem]
    | 16, _, hk => cases hk
    | 17, _, hk => cases hk
    | i + 18, ho, _ => simp at ho
  case put =>
    intro i o p' s' T z ho hk hp a w b hva hφ hbx
    match i, ho, hk with
    | 0, _, hk => cases hk
    | 1, _, hk => cases hk
    | 2, _, hk => cases hk
    | 3, _, hk => cases hk
    | 4, _, hk => cases hk
    | 5, _, hk => cases hk
    | 6, _, hk => cases hk
    | 7, _, hk => cases hk
    | 8, _, hk => cases hk
    | 9, _, hk => cases hk
    | 10, _, hk => cases hk
    | 11, _, hk => cases hk
    | 12, _, hk => cases hk
    | 13, _, hk => cases hk
    | 14, _, hk => cases hk
    | 15, _, hk => cases hk
    | 16, ho, hk =>
      have ho' : o16 = o := by simpa using ho
      subst ho'; cases hk; cases hp
      obtain ⟨b6, o6, l6, c6, e6, x6, y6⟩ := hφ
      have q1 : a.eval (.tmp 42) = .agg #[.int .i64 (b6.seen 0 : Int), .int .i64 (b6.seen 1 : Int), .int .i64 (b6.seen 2 : Int), .int .i64 (b6.seen 3 : Int), .int .i64 (b6.seen 4 : Int), .int .i64 (b6.seen 5 : Int), .int .i64 (b6.seen 6 : Int), .int .i64 (b6.seen 7 : Int), .slice o6 l6 c6] := e6
      have q2 : a.eval (.tmp 11) = .pointer (some ⟨b, 0, none⟩) := hva
      have u0 := hbx.cell 0
      have f0 := hbx.frozen 0
      have u1 := hbx.cell 1
      have f1 := hbx.frozen 1
      have u2 := hbx.cell 2
      have f2 := hbx.frozen 2
      have u3 := hbx.cell 3
      have f3 := hbx.frozen 3
      have u4 := hbx.cell 4
      have f4 := hbx.frozen 4
      have u5 := hbx.cell 5
      have f5 := hbx.frozen 5
      have u6 := hbx.cell 6
      have f6 := hbx.frozen 6
      have u7 := hbx.cell 7
      have f7 := hbx.frozen 7
      have u8 := hbx.cell 8
      have f8 := hbx.frozen 8
      refine ⟨[.int .i64 (b6.seen 0 : Int), .int .i64 (b6.seen 1 : Int), .int .i64 (b6.seen 2 : Int), .int .i64 (b6.seen 3 : Int), .int .i64 (b6.seen 4 : Int), .int .i64 (b6.seen 5 : Int), .int .i64 (b6.seen 6 : Int), .int .i64 (b6.seen 7 : Int), .slice o6 l6 c6], e6, rfl, by simp [isInt], ?_⟩
      unfold execOp; rw [h16]
      dsimp only
      rw [q1, q2]
      simp [go_sem, u0, f0, u1, f1, u2, f2, u3, f3, u4, f4, u5, f5, u6, f6, u7, f7, u8, f8, setFrom]
    | 17, ho, hk =>
      have ho' : o17 = o := by simpa using ho
      subst ho'; cases hk; cases hp
      obtain ⟨b13, o13, l13, c13, e13, x13, y13⟩ := hφ
      have q1 : a.eval (.tmp 49) = .agg #[.int .i64 (b13.seen 0 : Int), .int .i64 (b13.seen 1 : Int), .int .i64 (b13.seen 2 : Int), .int .i64 (b13.seen 3 : Int), .int .i64 (b13.seen 4 : Int), .int .i64 (b13.seen 5 : Int), .int .i64 (b13.seen 6 : Int), .int .i64 (b13.seen 7 : Int), .slice o13 l13 c13] := e13
      have q2 : a.eval (.tmp 12) = .pointer (some ⟨b, 0, none⟩) := hva
      have u0 := hbx.cell 0
      have f0 := hbx.frozen 0
      have u1 := hbx.cell 1
      have f1 := hbx.frozen 1
      have u2 := hbx.cell 2
      have f2 := hbx.frozen 2
      have u3 := hbx.cell 3
      have f3 := hbx.frozen 3
      have u4 := hbx.cell 4
      have f4 := hbx.frozen 4
      have u5 := hbx.cell 5
      have f5 := hbx.frozen 5
      have u6 := hbx.cell 6
      have f6 := hbx.frozen 6
      have u7 := hbx.cell 7
      have f7 := hbx.frozen 7
      have u8 := hbx.cell 8
      have f8 := hbx.frozen 8
      refine ⟨[.int .i64 (b13.seen 0 : Int), .int .i64 (b13.seen 1 : Int), .int .i64 (b13.seen 2 : Int), .int .i64 (b13.seen 3 : Int), .int .i64 (b13.seen 4 : Int), .int .i64 (b13.seen 5 : Int), .int .i64 (b13.seen 6 : Int), .int .i64 (b13.seen 7 : Int), .slice o13 l13 c13], e13, rfl, by simp [isInt], ?_⟩
      unfold execOp; rw [h17]
      dsimp only
      rw [q1, q2]
      simp [go_sem, u0, f0, u1, f1, u2, f2, u3, f3, u4, f4, u5, f5, u6, f6, u7, f7, u8, f8, setFrom]
    | i + 18, ho, _ => simp at ho
  case fin =>
    intro a w blk hI
    have n8 : (#[o0, o1, o2, o3, o4, o5, o6, o7, o8, o9, o10, o11, o12, o13, o14, o15, o16, o17] : Array Oper).size = 18 := rfl
    rw [n8] at hI
    have hf := hI.agree.form
    have e0 : a.eval (.tmp 36) = .slice (some ⟨gT, 0, none⟩) nn cp := hI.vals 0 (by decide) (by decide) rfl
    have e1 : a.eval (.tmp 37) = .int .i64 (pa : Int) := hI.vals 1 (by decide) (by decide) rfl
    have e2 : a.eval (.tmp 38) = .pointer (some ⟨gT, pa * 9, none⟩) := hI.vals 2 (by decide) (by decide) rfl
    have e3 : a.eval (.tmp 39) = .agg #[.int .i64 (ta.T.seen 0 : Int), .int .i64 (ta.T.seen 1 : Int), .int .i64 (ta.T.seen 2 : Int), .int .i64 (ta.T.seen 3 : Int), .int .i64 (ta.T.seen 4 : Int), .int .i64 (ta.T.seen 5 : Int), .int .i64 (ta.T.seen 6 : Int), .int .i64 (ta.T.seen 7 : Int), .slice ta.ao ta.n ta.c] := hI.vals 3 (by decide) (by decide) rfl
    have e4 : a.eval (.tmp 40) = .pointer (some ⟨gA, 4, none⟩) := hI.vals 4 (by decide) (by decide) rfl
    have e5 : a.eval (.tmp 41) = .string x.key := hI.vals 5 (by decide) (by decide) rfl
    obtain ⟨b6, o6, l6, c6, e6, x6, y6⟩ : IsT (remT ta.T x.key) (m) (a.eval (.tmp 42)) w := hI.vals 6 (by decide) (by decide) rfl
    have e7 : a.eval (.tmp 43) = .slice (some ⟨gR, 0, none⟩) nn cq := hI.vals 7 (by decide) (by decide) rfl
    have e8 : a.eval (.tmp 44) = .int .i64 (pa : Int) := hI.vals 8 (by decide) (by decide) rfl
    have e9 : a.eval (.tmp 45) = .pointer (some ⟨gR, pa * 9, none⟩) := hI.vals 9 (by decide) (by decide) rfl
    have e10 : a.eval (.tmp 46) = .agg #[.int .i64 (ta.T.seen 0 : Int), .int .i64 (ta.T.seen 1 : Int), .int .i64 (ta.T.seen 2 : Int), .int .i64 (ta.T.seen 3 : Int), .int .i64 (ta.T.seen 4 : Int), .int .i64 (ta.T.seen 5 : Int), .int .i64 (ta.T.seen 6 : Int), .int .i64 (ta.T.seen 7 : Int), .slice ra.ao ra.n ra.c] := hI.vals 10 (by decide) (by decide) rfl
    have e11 : a.eval (.tmp 47) = .pointer (some ⟨gA, 4, none⟩) := hI.vals 11 (by decide) (by decide) rfl
    have e12 : a.eval (.tmp 48) = .string x.key := hI.vals 12 (by decide) (by decide) rfl
    obtain ⟨b13, o13, l13, c13, e13, x13, y13⟩ : IsR (remT ta.T x.key) (m) (a.eval (.tmp 49)) w := hI.vals 13 (by decide) (by decide) rfl
    obtain ⟨p14, r14, _, k14⟩ := hI.boxes 14 34 #[.int .i64 0, .int .i64 0, .int .i64 0, .int .i64 0, .int .i64 0, .int .i64 0, .int .i64 0, .int .i64 0, .slice none 0 0] (by decide) (by decide) rfl
    obtain ⟨us14, i14, _, _, j14⟩ := k14 (show (16 : Nat) < 18 by decide)
    have y_14 : a.eval (.tmp 42) = .agg us14.toArray := i14
    rw [e6] at y_14
    cases y_14
    have e14 : a.eval (.tmp 11) = .pointer (some ⟨blk 14, 0, none⟩) := p14
    obtain ⟨p15, r15, _, k15⟩ := hI.boxes 15 36 #[.int .i64 0, .int .i64 0, .int .i64 0, .int .i64 0, .int .i64 0, .int .i64 0, .int .i64 0, .int .i64 0, .slice none 0 0] (by decide) (by decide) rfl
    obtain ⟨us15, i15, _, _, j15⟩ := k15 (show (17 : Nat) < 18 by decide)
    have y_15 : a.eval (.tmp 49) = .agg us15.toArray := i15
    rw [e13] at y_15
    cases y_15
    have e15 : a.eval (.tmp 12) = .pointer (some ⟨blk 15, 0, none⟩) := p15
    have hsl : made_remS.slots 18 = [36, 37, 38, 39, 40, 41, 42, 43, 44, 45, 46, 47, 48, 49, 11, 12] := rfl
    rw [hsl] at hf
    simp only [List.map_cons, List.map_nil, e0, e1, e2, e3, e4, e5, e6, e7, e8, e9, e10, e11, e12, e13, e14, e15] at hf
    rw [hf]
    exact hend w (blk 14) (blk 15) b6 o6 l6 c6 b13 o13 l13 c13  (below_undrew hI.below) r14 j14 r15 j15 (hI.apart 14 15 _ _ _ _ (by decide) (by decide) (by decide) (by decide) rfl rfl (by decide)) x6 y6 x13 y13
def made_merS : Shape where
  f := fun i => match i with | 0 => 57 | 1 => 58 | 2 => 59 | 3 => 60 | 4 => 61 | 5 => 62 | 6 => 63 | 7 => 64 | 8 => 65 | 9 => 66 | 10 => 67 | 11 => 68 | 12 => 69 | 13 => 70 | 14 => 71 | 15 => 72 | 16 => 73 | 17 => 74 | 18 => 13 | 19 => 14 | _ => 0
  kd := fun i => match i with | 18 => .box 34 #[.int .i64 0, .int .i64 0, .int .i64 0, .int .i64 0, .int .i64 0, .int .i64 0, .int .i64 0, .int .i64 0, .slice none 0 0] | 19 => .box 36 #[.int .i64 0, .int .i64 0, .int .i64 0, .int .i64 0, .int .i64 0, .int .i64 0, .int .i64 0, .int .i64 0, .slice none 0 0] | 20 => .put 18 8 | 21 => .put 19 17 | _ => .val
  need := fun i => match i with | 2 => [0, 1] | 3 => [2] | 6 => [4, 5] | 7 => [6] | 8 => [3, 7] | 11 => [9, 10] | 12 => [11] | 15 => [13, 14] | 16 => [15] | 17 => [12, 16] | 20 => [18, 8] | 21 => [19, 17] | _ => []
  st := fun i => match i with | 18 => 20 | 19 => 21 | _ => 0
  src := fun i => match i with | 18 => 8 | 19 => 17 | _ => 0

set_option maxRecDepth 4000 in
set_option maxHeartbeats 16000000 in
/-- two merges -/
theorem made_mer {Q : Exit → Act → World → Prop} {id : Nat} {a0 : Act} {W : World} {o0 o1 o2 o3 o4 o5 o6 o7 o8 o9 o10 o11 o12 o13 o14 o15 o16 o17 o18 o19 o20 o21 : Oper} (ta tb ra rb : Slot) (m nn cp cq pa pb : Nat) (gT : Nat) (gR : Nat) (ts8 : Array TypeId) (ts17 : Array TypeId)
    (hok : made_merS.ok #[o0, o1, o2, o3, o4, o5, o6, o7, o8, o9, o10, o11, o12, o13, o14, o15, o16, o17, o18, o19, o20, o21] a0.tmps.size = true)
    (h0 : o0.op = .move (.tmp 0)) (h1 : o1.op = .move (.tmp 9)) (h2 : o2.op = .indexAddr 25 (.tmp 57) (.tmp 58)) (h3 : o3.op = .load 34 (.tmp 59)) (h4 : o4.op = .move (.tmp 0)) (h5 : o5.op = .move (.tmp 10)) (h6 : o6.op = .indexAddr 25 (.tmp 61) (.tmp 62)) (h7 : o7.op = .load 34 (.tmp 63)) (h8 : o8.op = .call { callee := .value (.func 25), args := #[.tmp 60, .tmp 64], argTypes := ts8 }) (h9 : o9.op = .move (.tmp 1)) (h10 : o10.op = .move (.tmp 9)) (h11 : o11.op = .indexAddr 26 (.tmp 66) (.tmp 67)) (h12 : o12.op = .load 36 (.tmp 68)) (h13 : o13.op = .move (.tmp 1)) (h14 : o14.op = .move (.tmp 10)) (h15 : o15.op = .indexAddr 26 (.tmp 70) (.tmp 71)) (h16 : o16.op = .load 36 (.tmp 72)) (h17 : o17.op = .call { callee := .value (.func 17), args := #[.tmp 69, .tmp 73], argTypes := ts17 }) (h18 : o18.op = .alloc 34) (h19 : o19.op = .alloc 36) (h20 : o20.op = .store 34 (.tmp 13) (.tmp 65)) (h21 : o21.op = .store 36 (.tmp 14) (.tmp 74))
    (hgP : gT < W.heap.size) (cP_0 : W.cell? ⟨gT, pa * 9, none⟩ = some (.int .i64 (ta.T.seen 0 : Int))) (cP_1 : W.cell? ⟨gT, pa * 9 + 1, none⟩ = some (.int .i64 (ta.T.seen 1 : Int))) (cP_2 : W.cell? ⟨gT, pa * 9 + 2, none⟩ = some (.int .i64 (ta.T.seen 2 : Int))) (cP_3 : W.cell? ⟨gT, pa * 9 + 3, none⟩ = some (.int .i64 (ta.T.seen 3 : Int))) (cP_4 : W.cell? ⟨gT, pa * 9 + 4, none⟩ = some (.int .i64 (ta.T.seen 4 : Int))) (cP_5 : W.cell? ⟨gT, pa * 9 + 5, none⟩ = some (.int .i64 (ta.T.seen 5 : Int))) (cP_6 : W.cell? ⟨gT, pa * 9 + 6, none⟩ = some (.int .i64 (ta.T.seen 6 : Int))) (cP_7 : W.cell? ⟨gT, pa * 9 + 7, none⟩ = some (.int .i64 (ta.T.seen 7 : Int))) (cP_8 : W.cell? ⟨gT, pa * 9 + 8, none⟩ = some (.slice ta.ao ta.n ta.c))
    (hgP2 : gT < W.heap.size) (cP2_0 : W.cell? ⟨gT, pb * 9, none⟩ = some (.int .i64 (tb.T.seen 0 : Int))) (cP2_1 : W.cell? ⟨gT, pb * 9 + 1, none⟩ = some (.int .i64 (tb.T.seen 1 : Int))) (cP2_2 : W.cell? ⟨gT, pb * 9 + 2, none⟩ = some (.int .i64 (tb.T.seen 2 : Int))) (cP2_3 : W.cell? ⟨gT, pb * 9 + 3, none⟩ = some (.int .i64 (tb.T.seen 3 : Int))) (cP2_4 : W.cell? ⟨gT, pb * 9 + 4, none⟩ = some (.int .i64 (tb.T.seen 4 : Int))) (cP2_5 : W.cell? ⟨gT, pb * 9 + 5, none⟩ = some (.int .i64 (tb.T.seen 5 : Int))) (cP2_6 : W.cell? ⟨gT, pb * 9 + 6, none⟩ = some (.int .i64 (tb.T.seen 6 : Int))) (cP2_7 : W.cell? ⟨gT, pb * 9 + 7, none⟩ = some (.int .i64 (tb.T.seen 7 : Int))) (cP2_8 : W.cell? ⟨gT, pb * 9 + 8, none⟩ = some (.slice tb.ao tb.n tb.c))
    (hgR : gR < W.heap.size) (cR_0 : W.cell? ⟨gR, pa * 9, none⟩ = some (.int .i64 (ta.T.seen 0 : Int))) (cR_1 : W.cell? ⟨gR, pa * 9 + 1, none⟩ = some (.int .i64 (ta.T.seen 1 : Int))) (cR_2 : W.cell? ⟨gR, pa * 9 + 2, none⟩ = some (.int .i64 (ta.T.seen 2 : Int))) (cR_3 : W.cell? ⟨gR, pa * 9 + 3, none⟩ = some (.int .i64 (ta.T.seen 3 : Int))) (cR_4 : W.cell? ⟨gR, pa * 9 + 4, none⟩ = some (.int .i64 (ta.T.seen 4 : Int))) (cR_5 : W.cell? ⟨gR, pa * 9 + 5, none⟩ = some (.int .i64 (ta.T.seen 5 : Int))) (cR_6 : W.cell? ⟨gR, pa * 9 + 6, none⟩ = some (.int .i64 (ta.T.seen 6 : Int))) (cR_7 : W.cell? ⟨gR, pa * 9 + 7, none⟩ = some (.int .i64 (ta.T.seen 7 : Int))) (cR_8 : W.cell? ⟨gR, pa * 9 + 8, none⟩ = some (.slice ra.ao ra.n ra.c))
    (hgR2 : gR < W.heap.size) (cR2_0 : W.cell? ⟨gR, pb * 9, none⟩ = some (.int .i64 (tb.T.seen 0 : Int))) (cR2_1 : W.cell? ⟨gR, pb * 9 + 1, none⟩ = some (.int .i64 (tb.T.seen 1 : Int))) (cR2_2 : W.cell? ⟨gR, pb * 9 + 2, none⟩ = some (.int .i64 (tb.T.seen 2 : Int))) (cR2_3 : W.cell? ⟨gR, pb * 9 + 3, none⟩ = some (.int .i64 (tb.T.seen 3 : Int))) (cR2_4 : W.cell? ⟨gR, pb * 9 + 4, none⟩ = some (.int .i64 (tb.T.seen 4 : Int))) (cR2_5 : W.cell? ⟨gR, pb * 9 + 5, none⟩ = some (.int .i64 (tb.T.seen 5 : Int))) (cR2_6 : W.cell? ⟨gR, pb * 9 + 6, none⟩ = some (.int .i64 (tb.T.seen 6 : Int))) (cR2_7 : W.cell? ⟨gR, pb * 9 + 7, none⟩ = some (.int .i64 (tb.T.seen 7 : Int))) (cR2_8 : W.cell? ⟨gR, pb * 9 + 8, none⟩ = some (.slice rb.ao rb.n rb.c))
    (hmS : a0.eval (.tmp 0) = .slice (some ⟨gT, 0, none⟩) nn cp)
    (hmU : a0.eval (.tmp 1) = .slice (some ⟨gR, 0, none⟩) nn cq)
    (hmI : a0.eval (.tmp 9) = .int .i64 (pa : Int))
    (hmK : a0.eval (.tmp 10) = .int .i64 (pb : Int))
    (hpa : pa < nn) (hnn : nn ≤ 1000) (hm : m ≤ 10000)
    (tA : Held W m ta.T ta.ao ta.n) (rA : HeldR W m ta.T ra.ao ra.n ra.c)
    (hpb : pb < nn) (tB : Held W m tb.T tb.ao tb.n) (rB : HeldR W m tb.T rb.ao rb.n rb.c)
    (hend : ∀ w b18 b19 b8 o8 l8 c8 b17 o17 l17 c17 , Below W.heap.size W w → W.heap.size ≤ b18 → Box w b18 34 #[.int .i64 (b8.seen 0 : Int), .int .i64 (b8.seen 1 : Int), .int .i64 (b8.seen 2 : Int), .int .i64 (b8.seen 3 : Int), .int .i64 (b8.seen 4 : Int), .int .i64 (b8.seen 5 : Int), .int .i64 (b8.seen 6 : Int), .int .i64 (b8.seen 7 : Int), .slice o8 l8 c8] → W.heap.size ≤ b19 → Box w b19 36 #[.int .i64 (b17.seen 0 : Int), .int .i64 (b17.seen 1 : Int), .int .i64 (b17.seen 2 : Int), .int .i64 (b17.seen 3 : Int), .int .i64 (b17.seen 4 : Int), .int .i64 (b17.seen 5 : Int), .int .i64 (b17.seen 6 : Int), .int .i64 (b17.seen 7 : Int), .slice o17 l17 c17] → b18 ≠ b19 → b8 = (merT ta.T tb.T) → Held w (m) b8 o8 l8 → b17 = (merT ta.T tb.T) → HeldR w (m) b17 o17 l17 c17 → 
      Q .normal (puts a0 [(57, .slice (some ⟨gT, 0, none⟩) nn cp), (58, .int .i64 (pa : Int)), (59, .pointer (some ⟨gT, pa * 9, none⟩)), (60, .agg #[.int .i64 (ta.T.seen 0 : Int), .int .i64 (ta.T.seen 1 : Int), .int .i64 (ta.T.seen 2 : Int), .int .i64 (ta.T.seen 3 : Int), .int .i64 (ta.T.seen 4 : Int), .int .i64 (ta.T.seen 5 : Int), .int .i64 (ta.T.seen 6 : Int), .int .i64 (ta.T.seen 7 : Int), .slice ta.ao ta.n ta.c]), (61, .slice (some ⟨gT, 0, none⟩) nn cp), (62, .int .i64 (pb : Int)), (63, .pointer (some ⟨gT, pb * 9, none⟩)), (64, .agg #[.int .i64 (tb.T.seen 0 : Int), .int .i64 (tb.T.seen 1 : Int), .int .i64 (tb.T.seen 2 : Int), .int .i64 (tb.T.seen 3 : Int), .int .i64 (tb.T.seen 4 : Int), .int .i64 (tb.T.seen 5 : Int), .int .i64 (tb.T.seen 6 : Int), .int .i64 (tb.T.seen 7 : Int), .slice tb.ao tb.n tb.c]), (65, .agg #[.int .i64 (b8.seen 0 : Int), .int .i64 (b8.seen 1 : Int), .int .i64 (b8.seen 2 : Int), .int .i64 (b8.seen 3 : Int), .int .i64 (b8.seen 4 : Int), .int .i64 (b8.seen 5 : Int), .int .i64 (b8.seen 6 : Int), .int .i64 (b8.seen 7 : Int), .slice o8 l8 c8]), (66, .slice (some ⟨gR, 0, none⟩) nn cq), (67, .int .i64 (pa : Int)), (68, .pointer (some ⟨gR, pa * 9, none⟩)), (69, .agg #[.int .i64 (ta.T.seen 0 : Int), .int .i64 (ta.T.seen 1 : Int), .int .i64 (ta.T.seen 2 : Int), .int .i64 (ta.T.seen 3 : Int), .int .i64 (ta.T.seen 4 : Int), .int .i64 (ta.T.seen 5 : Int), .int .i64 (ta.T.seen 6 : Int), .int .i64 (ta.T.seen 7 : Int), .slice ra.ao ra.n ra.c]), (70, .slice (some ⟨gR, 0, none⟩) nn cq), (71, .int .i64 (pb : Int)), (72, .pointer (some ⟨gR, pb * 9, none⟩)), (73, .agg #[.int .i64 (tb.T.seen 0 : Int), .int .i64 (tb.T.seen 1 : Int), .int .i64 (tb.T.seen 2 : Int), .int .i64 (tb.T.seen 3 : Int), .int .i64 (tb.T.seen 4 : Int), .int .i64 (tb.T.seen 5 : Int), .int .i64 (tb.T.seen 6 : Int), .int .i64 (tb.T.seen 7 : Int), .slice rb.ao rb.n rb.c]), (74, .agg #[.int .i64 (b17.seen 0 : Int), .int .i64 (b17.seen 1 : Int), .int .i64 (b17.seen 2 : Int), .int .i64 (b17.seen 3 : Int), .int .i64 (b17.seen 4 : Int), .int .i64 (b17.seen 5 : Int), .int .i64 (b17.seen 6 : Int), .int .i64 (b17.seen 7 : Int), .slice o17 l17 c17]), (13, .pointer (some ⟨b18, 0, none⟩)), (14, .pointer (some ⟨b19, 0, none⟩))]) w) :
    (Code.region id #[o0, o1, o2, o3, o4, o5, o6, o7, o8, o9, o10, o11, o12, o13, o14, o15, o16, o17, o18, o19, o20, o21] true).wp Try.prog Q a0 W := by
  refine Shape.region made_merS (fun i v w => (fun (v : Value) => (match i with | 0 => v = .slice (some ⟨gT, 0, none⟩) nn cp | 1 => v = .int .i64 (pa : Int) | 2 => v = .pointer (some ⟨gT, pa * 9, none⟩) | 3 => v = .agg #[.int .i64 (ta.T.seen 0 : Int), .int .i64 (ta.T.seen 1 : Int), .int .i64 (ta.T.seen 2 : Int), .int .i64 (ta.T.seen 3 : Int), .int .i64 (ta.T.seen 4 : Int), .int .i64 (ta.T.seen 5 : Int), .int .i64 (ta.T.seen 6 : Int), .int .i64 (ta.T.seen 7 : Int), .slice ta.ao ta.n ta.c] | 4 => v = .slice (some ⟨gT, 0, none⟩) nn cp | 5 => v = .int .i64 (pb : Int) | 6 => v = .pointer (some ⟨gT, pb * 9, none⟩) | 7 => v = .agg #[.int .i64 (tb.T.seen 0 : Int), .int .i64 (tb.T.seen 1 : Int), .int .i64 (tb.T.seen 2 : Int), .int .i64 (tb.T.seen 3 : Int), .int .i64 (tb.T.seen 4 : Int), .int .i64 (tb.T.seen 5 : Int), .int .i64 (tb.T.seen 6 : Int), .int .i64 (tb.T.seen 7 : Int), .slice tb.ao tb.n tb.c] | 8 => IsT (merT ta.T tb.T) (m) v w | 9 => v = .slice (some ⟨gR, 0, none⟩) nn cq | 10 => v = .int .i64 (pa : Int) | 11 => v = .pointer (some ⟨gR, pa * 9, none⟩) | 12 => v = .agg #[.int .i64 (ta.T.seen 0 : Int), .int .i64 (ta.T.seen 1 : Int), .int .i64 (ta.T.seen 2 : Int), .int .i64 (ta.T.seen 3 : Int), .int .i64 (ta.T.seen 4 : Int), .int .i64 (ta.T.seen 5 : Int), .int .i64 (ta.T.seen 6 : Int), .int .i64 (ta.T.seen 7 : Int), .slice ra.ao ra.n ra.c] | 13 => v = .slice (some ⟨gR, 0, none⟩) nn cq | 14 => v = .int .i64 (pb : Int) | 15 => v = .pointer (some ⟨gR, pb * 9, none⟩) | 16 => v = .agg #[.int .i64 (tb.T.seen 0 : Int), .int .i64 (tb.T.seen 1 : Int), .int .i64 (tb.T.seen 2 : Int), .int .i64 (tb.T.seen 3 : Int), .int .i64 (tb.T.seen 4 : Int), .int .i64 (tb.T.seen 5 : Int), .int .i64 (tb.T.seen 6 : Int), .int .i64 (tb.T.seen 7 : Int), .slice rb.ao rb.n rb.c] | 17 => IsR (merT ta.T tb.T) (m) v w | _ => True : Prop)) (v i)) (by kernel_rfl) hok
    (fun i v v' w _ hj hΦ => by rw [← hj i (.inl rfl)]; exact hΦ) ?stab ?val ?box ?put rfl ?fin
  case stab =>
    intro i v hi
    match i with
    | 0 => exact Stable.const _ _
    | 1 => exact Stable.const _ _
    | 2 => exact Stable.const _ _
    | 3 => exact Stable.const _ _
    | 4 => exact Stable.const _ _
    | 5 => exact Stable.const _ _
    | 6 => exact Stable.const _ _
    | 7 => exact Stable.const _ _
    | 8 => exact Stable.isT _ _ _ _
    | 9 => exact Stable.const _ _
    | 10 => exact Stable.const _ _
    | 11 => exact Stable.const _ _
    | 12 => exact Stable.const _ _
    | 13 => exact Stable.const _ _
    | 14 => exact Stable.const _ _
    | 15 => exact Stable.const _ _
    | 16 => exact Stable.const _ _
    | 17 => exact Stable.isR _ _ _ _
    | 18 => exact Stable.const _ _
    | 19 => exact Stable.const _ _
    | 20 => exact Stable.const _ _
    | 21 => exact Stable.const _ _
    | i + 22 => exact Stable.const _ _
  case val =>
    intro i o ho hv a w hA hb hz hn K' hK
    have hw := below_undrew hb
    have kP_0 := (hb.cell (p := ⟨gT, pa * 9, none⟩) hgP).trans cP_0
    have kP_1 := (hb.cell (p := ⟨gT, pa * 9 + 1, none⟩) hgP).trans cP_1
    have kP_2 := (hb.cell (p := ⟨gT, pa * 9 + 2, none⟩) hgP).trans cP_2
    have kP_3 := (hb.cell (p := ⟨gT, pa * 9 + 3, none⟩) hgP).trans cP_3
    have kP_4 := (hb.cell (p := ⟨gT, pa * 9 + 4, none⟩) hgP).trans cP_4
    have kP_5 := (hb.cell (p := ⟨gT, pa * 9 + 5, none⟩) hgP).trans cP_5
    have kP_6 := (hb.cell (p := ⟨gT, pa * 9 + 6, none⟩) hgP).trans cP_6
    have kP_7 := (hb.cell (p := ⟨gT, pa * 9 + 7, none⟩) hgP).trans cP_7
    have kP_8 := (hb.cell (p := ⟨gT, pa * 9 + 8, none⟩) hgP).trans cP_8
    have kP2_0 := (hb.cell (p := ⟨gT, pb * 9, none⟩) hgP2).trans cP2_0
    have kP2_1 := (hb.cell (p := ⟨gT, pb * 9 + 1, none⟩) hgP2).trans cP2_1
    have kP2_2 := (hb.cell (p := ⟨gT, pb * 9 + 2, none⟩) hgP2).trans cP2_2
    have kP2_3 := (hb.cell (p := ⟨gT, pb * 9 + 3, none⟩) hgP2).trans cP2_3
    have kP2_4 := (hb.cell (p := ⟨gT, pb * 9 + 4, none⟩) hgP2).trans cP2_4
    have kP2_5 := (hb.cell (p := ⟨gT, pb * 9 + 5, none⟩) hgP2).trans cP2_5
    have kP2_6 := (hb.cell (p := ⟨gT, pb * 9 + 6, none⟩) hgP2).trans cP2_6
    have kP2_7 := (hb.cell (p := ⟨gT, pb * 9 + 7, none⟩) hgP2).trans cP2_7
    have kP2_8 := (hb.cell (p := ⟨gT, pb * 9 + 8, none⟩) hgP2).trans cP2_8
    have kR_0 := (hb.cell (p := ⟨gR, pa * 9, none⟩) hgR).trans cR_0
    have kR_1 := (hb.cell (p := ⟨gR, pa * 9 + 1, none⟩) hgR).trans cR_1
    have kR_2 := (hb.cell (p := ⟨gR, pa * 9 + 2, none⟩) hgR).trans cR_2
    have kR_3 := (hb.cell (p := ⟨gR, pa * 9 + 3, none⟩) hgR).trans cR_3
    have kR_4 := (hb.cell (p := ⟨gR, pa * 9 + 4, none⟩) hgR).trans cR_4
    have kR_5 := (hb.cell (p := ⟨gR, pa * 9 + 5, none⟩) hgR).trans cR_5
    have kR_6 := (hb.cell (p := ⟨gR, pa * 9 + 6, none⟩) hgR).trans cR_6
    have kR_7 := (hb.cell (p := ⟨gR, pa * 9 + 7, none⟩) hgR).trans cR_7
    have kR_8 := (hb.cell (p := ⟨gR, pa * 9 + 8, none⟩) hgR).trans cR_8
    have kR2_0 := (hb.cell (p := ⟨gR, pb * 9, none⟩) hgR2).trans cR2_0
    have kR2_1 := (hb.cell (p := ⟨gR, pb * 9 + 1, none⟩) hgR2).trans cR2_1
    have kR2_2 := (hb.cell (p := ⟨gR, pb * 9 + 2, none⟩) hgR2).trans cR2_2
    have kR2_3 := (hb.cell (p := ⟨gR, pb * 9 + 3, none⟩) hgR2).trans cR2_3
    have kR2_4 := (hb.cell (p := ⟨gR, pb * 9 + 4, none⟩) hgR2).trans cR2_4
    have kR2_5 := (hb.cell (p := ⟨gR, pb * 9 + 5, none⟩) hgR2).trans cR2_5
    have kR2_6 := (hb.cell (p := ⟨gR, pb * 9 + 6, none⟩) hgR2).trans cR2_6
    have kR2_7 := (hb.cell (p := ⟨gR, pb * 9 + 7, none⟩) hgR2).trans cR2_7
    have kR2_8 := (hb.cell (p := ⟨gR, pb * 9 + 8, none⟩) hgR2).trans cR2_8
    have emS : a.eval (.tmp 0) = .slice (some ⟨gT, 0, none⟩) nn cp := (hA.eval (show 0 ∉ made_merS.slots 22 by decide)).trans hmS
    have emU : a.eval (.tmp 1) = .slice (some ⟨gR, 0, none⟩) nn cq := (hA.eval (show 1 ∉ made_merS.slots 22 by decide)).trans hmU
    have emI : a.eval (.tmp 9) = .int .i64 (pa : Int) := (hA.eval (show 9 ∉ made_merS.slots 22 by decide)).trans hmI
    have emK : a.eval (.tmp 10) = .int .i64 (pb : Int) := (hA.eval (show 10 ∉ made_merS.slots 22 by decide)).trans hmK
    match i, ho, hv with
    | 0, ho, _ =>
      have ho' : o0 = o := by simpa using ho
      subst ho'
      exact wp_value (run_move h0 a w) (hK _ _ (Below.refl _ _) (by simp [updV, emS]))
    | 1, ho, _ =>
      have ho' : o1 = o := by simpa using ho
      subst ho'
      exact wp_value (run_move h1 a w) (hK _ _ (Below.refl _ _) (by simp [updV, emI]))
    | 2, ho, _ =>
      have ho' : o2 = o := by simpa using ho
      subst ho'
      have e1 : a.eval (.tmp 57) = .slice (some ⟨gT, 0, none⟩) nn cp := hn 0 (by simp [made_merS]) rfl
      have e2 : a.eval (.tmp 58) = .int .i64 (pa : Int) := hn 1 (by simp [made_merS]) rfl
      refine wp_value (v := .pointer (some ⟨gT, pa * 9, none⟩)) (w' := w) ?_ (hK _ _ (Below.refl _ _) (by simp [updV]))
      unfold execOp
      rw [h2]
      dsimp only
      rw [e1, e2]
      simp [go_sem, at_runT pa nn gT cp hpa hnn w]
    | 3, ho, _ =>
      have ho' : o3 = o := by simpa using ho
      subst ho'
      have e : a.eval (.tmp 59) = .pointer (some ⟨gT, pa * 9, none⟩) := hn 2 (by simp [made_merS]) rfl
      refine wp_value (v := .agg #[.int .i64 (ta.T.seen 0 : Int), .int .i64 (ta.T.seen 1 : Int), .int .i64 (ta.T.seen 2 : Int), .int .i64 (ta.T.seen 3 : Int), .int .i64 (ta.T.seen 4 : Int), .int .i64 (ta.T.seen 5 : Int), .int .i64 (ta.T.seen 6 : Int), .int .i64 (ta.T.seen 7 : Int), .slice ta.ao ta.n ta.c]) (w' := w) ?_ (hK _ _ (Below.refl _ _) (by simp [updV]))
      unfold execOp
      rw [h3]
      dsimp only
      rw [e]
      simp [go_sem, kP_0, kP_1, kP_2, kP_3, kP_4, kP_5, kP_6, kP_7, kP_8]
    | 4, ho, _ =>
      have ho' : o4 = o := by simpa using ho
      subst ho'
      exact wp_value (run_move h4 a w) (hK _ _ (Below.refl _ _) (by simp [updV, emS]))
    | 5, ho, _ =>
      have ho' : o5 = o := by simpa using ho
      subst ho'
      exact wp_value (run_move h5 a w) (hK _ _ (Below.refl _ _) (by simp [updV, emK]))
    | 6, ho, _ =>
      have ho' : o6 = o := by simpa using ho
      subst ho'
      have e1 : a.eval (.tmp 61) = .slice (some ⟨gT, 0, none⟩) nn cp := hn 4 (by simp [made_merS]) rfl
      have e2 : a.eval (.tmp 62) = .int .i64 (pb : Int) := hn 5 (by simp [made_merS]) rfl
      refine wp_value (v := .pointer (some ⟨gT, pb * 9, none⟩)) (w' := w) ?_ (hK _ _ (Below.refl _ _) (by simp [updV]))
      unfold execOp
      rw [h6]
      dsimp only
      rw [e1, e2]
      simp [go_sem, at_runT pb nn gT cp hpb hnn w]
    | 7, ho, _ =>
      have ho' : o7 = o := by simpa using ho
      subst ho'
      have e : a.eval (.tmp 63) = .pointer (some ⟨gT, pb * 9, none⟩) := hn 6 (by simp [made_merS]) rfl
      refine wp_value (v := .agg #[.int .i64 (tb.T.seen 0 : Int), .int .i64 (tb.T.seen 1 : Int), .int .i64 (tb.T.seen 2 : Int), .int .i64 (tb.T.seen 3 : Int), .int .i64 (tb.T.seen 4 : Int), .int .i64 (tb.T.seen 5 : Int), .int .i64 (tb.T.seen 6 : Int), .int .i64 (tb.T.seen 7 : Int), .slice tb.ao tb.n tb.c]) (w' := w) ?_ (hK _ _ (Below.refl _ _) (by simp [updV]))
      unfold execOp
      rw [h7]
      dsimp only
      rw [e]
      simp [go_sem, kP2_0, kP2_1, kP2_2, kP2_3, kP2_4, kP2_5, kP2_6, kP2_7, kP2_8]
    | 8, ho, _ =>
      have ho' : o8 = o := by simpa using ho
      subst ho'
      have e3 : a.eval (.tmp 60) = .agg #[.int .i64 (ta.T.seen 0 : Int), .int .i64 (ta.T.seen 1 : Int), .int .i64 (ta.T.seen 2 : Int), .int .i64 (ta.T.seen 3 : Int), .int .i64 (ta.T.seen 4 : Int), .int .i64 (ta.T.seen 5 : Int), .int .i64 (ta.T.seen 6 : Int), .int .i64 (ta.T.seen 7 : Int), .slice ta.ao ta.n ta.c] := hn 3 (by simp [made_merS]) rfl
      have e7 : a.eval (.tmp 64) = .agg #[.int .i64 (tb.T.seen 0 : Int), .int .i64 (tb.T.seen 1 : Int), .int .i64 (tb.T.seen 2 : Int), .int .i64 (tb.T.seen 3 : Int), .int .i64 (tb.T.seen 4 : Int), .int .i64 (tb.T.seen 5 : Int), .int .i64 (tb.T.seen 6 : Int), .int .i64 (tb.T.seen 7 : Int), .slice tb.ao tb.n tb.c] := hn 7 (by simp [made_merS]) rfl
      refine wp_call (run_call Try.func25 (by kernel_rfl) rfl h8 a w) ?_ (fun v w' hb' hφ => hK v w' hb' (by simpa [updV] using hφ))
      have em : Array.map a.eval #[Operand.tmp 60, Operand.tmp 64] = #[a.eval (.tmp 60), a.eval (.tmp 64)] := by first | (simp only [List.map_toArray, List.map_cons, List.map_nil]; done) | (simp only [List.map_toArray, List.map_cons, List.map_nil]; rfl) | rfl
      rw [em, e3, e7]
      exact (mergeA ta.c tb.c (tA.keep hw) (tB.keep hw) (by omega)).mono fun e w h => outT h
    | 9, ho, _ =>
      have ho' : o9 = o := by simpa using ho
      subst ho'
      exact wp_value (run_move h9 a w) (hK _ _ (Below.refl _ _) (by simp [updV, emU]))
    | 10, ho, _ =>
      have ho' : o10 = o := by simpa using ho
      subst ho'
      exact wp_value (run_move h10 a w) (hK _ _ (Below.refl _ _) (by simp [updV, emI]))
    | 11, ho, _ =>
      have ho' : o11 = o := by simpa using ho
      subst ho'
      have e1 : a.eval (.tmp 66) = .slice (some ⟨gR, 0, none⟩) nn cq := hn 9 (by simp [made_merS]) rfl
      have e2 : a.eval (.tmp 67) = .int .i64 (pa : Int) := hn 10 (by simp [made_merS]) rfl
      refine wp_value (v := .pointer (some ⟨gR, pa * 9, none⟩)) (w' := w) ?_ (hK _ _ (Below.refl _ _) (by simp [updV]))
      unfold execOp
      rw [h11]
      dsimp only
      rw [e1, e2]
      simp [go_sem, at_runR pa nn gR cq hpa hnn w]
    | 12, ho, _ =>
      have ho' : o12 = o := by simpa using ho
      subst ho'
      have e : a.eval (.tmp 68) = .pointer (some ⟨gR, pa * 9, none⟩) := hn 11 (by simp [made_merS]) rfl
      refine wp_value (v := .agg #[.int .i64 (ta.T.seen 0 : Int), .int .i64 (ta.T.seen 1 : Int), .int .i64 (ta.T.seen 2 : Int), .int .i64 (ta.T.seen 3 : Int), .int .i64 (ta.T.seen 4 : Int), .int .i64 (ta.T.seen 5 : Int), .int .i64 (ta.T.seen 6 : Int), .int .i64 (ta.T.seen 7 : Int), .slice ra.ao ra.n ra.c]) (w' := w) ?_ (hK _ _ (Below.refl _ _) (by simp [updV]))
      unfold execOp
      rw [h12]
      dsimp only
      rw [e]
      simp [go_sem, kR_0, kR_1, kR_2, kR_3, kR_4, kR_5, kR_6, kR_7, kR_8]
    | 13, ho, _ =>
      have ho' : o13 = o := by simpa using ho
      subst ho'
      exact wp_value (run_move h13 a w) (hK _ _ (Below.refl _ _) (by simp [updV, emU]))
    | 14, ho, _ =>
      have ho' : o14 = o := by simpa using ho
      subst ho'
      exact wp_value (run_move h14 a w) (hK _ _ (Below.refl _ _) (by simp [updV, emK]))
    | 15, ho, _ =>
      have ho' : o15 = o := by simpa using ho
      subst ho'
      have e1 : a.eval (.tmp 70) = .slice (some ⟨gR, 0, none⟩) nn cq := hn 13 (by simp [made_merS]) rfl
      have e2 : a.eval (.tmp 71) = .int .i64 (pb : Int) := hn 14 (by simp [made_merS]) rfl
      refine wp_value (v := .pointer (some ⟨gR, pb * 9, none⟩)) (w' := w) ?_ (hK _ _ (Below.refl _ _) (by simp [updV]))
      unfold execOp
      rw [h15]
      dsimp only
      rw [e1, e2]
      simp [go_sem, at_runR pb nn gR cq hpb hnn w]
    | 16, ho, _ =>
      have ho' : o16 = o := by simpa using ho
      subst ho'
      have e : a.eval (.tmp 72) = .pointer (some ⟨gR, pb * 9, none⟩) := hn 15 (by simp [made_merS]) rfl
      refine wp_value (v := .agg #[.int .i64 (tb.T.seen 0 : Int), .int .i64 (tb.T.seen 1 : Int), .int .i64 (tb.T.seen 2 : Int), .int .i64 (tb.T.seen 3 : Int), .int .i64 (tb.T.seen 4 : Int), .int .i64 (tb.T.seen 5 : Int), .int .i64 (tb.T.seen 6 : Int), .int .i64 (tb.T.seen 7 : Int), .slice rb.ao rb.n rb.c]) (w' := w) ?_ (hK _ _ (Below.refl _ _) (by simp [updV]))
      unfold execOp
      rw [h16]
      dsimp only
      rw [e]
      simp [go_sem, kR2_0, kR2_1, kR2_2, kR2_3, kR2_4, kR2_5, kR2_6, kR2_7, kR2_8]
    | 17, ho, _ =>
      have ho' : o17 = o := by simpa using ho
      subst ho'
      have e12 : a.eval (.tmp 69) = .agg #[.int .i64 (ta.T.seen 0 : Int), .int .i64 (ta.T.seen 1 : Int), .int .i64 (ta.T.seen 2 : Int), .int .i64 (ta.T.seen 3 : Int), .int .i64 (ta.T.seen 4 : Int), .int .i64 (ta.T.seen 5 : Int), .int .i64 (ta.T.seen 6 : Int), .int .i64 (ta.T.seen 7 : Int), .slice ra.ao ra.n ra.c] := hn 12 (by simp [made_merS]) rfl
      have e16 : a.eval (.tmp 73) = .agg #[.int .i64 (tb.T.seen 0 : Int), .int .i64 (tb.T.seen 1 : Int), .int .i64 (tb.T.seen 2 : Int), .int .i64 (tb.T.seen 3 : Int), .int .i64 (tb.T.seen 4 : Int), .int .i64 (tb.T.seen 5 : Int), .int .i64 (tb.T.seen 6 : Int), .int .i64 (tb.T.seen 7 : Int), .slice rb.ao rb.n rb.c] := hn 16 (by simp [made_merS]) rfl
      refine wp_call (run_call Try.func17 (by kernel_rfl) rfl h17 a w) ?_ (fun v w' hb' hφ => hK v w' hb' (by simpa [updV] using hφ))
      have em : Array.map a.eval #[Operand.tmp 69, Operand.tmp 73] = #[a.eval (.tmp 69), a.eval (.tmp 73)] := by first | (simp only [List.map_toArray, List.map_cons, List.map_nil]; done) | (simp only [List.map_toArray, List.map_cons, List.map_nil]; rfl) | rfl
      rw [em, e12, e16]
      exact (refmerA (rA.keep hw) (rB.keep hw) hm).mono fun e w h => outR h
    | 18, _, hv => cases hv
    | 19, _, hv => cases hv
    | 20, _, hv => cases hv
    | 21, _, hv => cases hv
    | i + 22, ho, _ => simp at ho
  case box =>
    intro i o T z ho hk a w
    match i, ho, hk with
    | 0, _, hk => cases hk
    | 1, _, hk => cases hk
    | 2, _, hk => cases hk
    | 3, _, hk => cases hk
    | 4, _, hk => cases hk
    | 5, _, hk => cases hk
    | 6, _, hk => cases hk
    | 7, _, hk => cases hk
    | 8, _, hk => cases hk
    | 9, _, hk => cases hk
    | 10, _, hk => cases hk
    | 11, _, hk => cases hk
    | 12, _, hk => cases hk
    | 13, _, hk => cases hk
    | 14, _, hk => cases hk
    | 15, _, hk => cases hk
    | 16, _, hk => cases hk
    | 17, _, hk => cases hk
    | 18, ho, hk =>
      have ho' : o18 = o := by simpa using ho
      subst ho'; cases hk; unfold execOp; rw [h18]; simp [go_sem]
    | 19, ho, hk =>
      have ho' : o19 = o := by simpa using ho
      subst ho'; cases hk; unfold execOp; rw [h19]; simp [go_sem]
    | 20, _, hk => cases hk
    | 21, _, hk => cases hk
    | i + 22, ho, _ => simp at ho
  case put =>
    intro i o p' s' T z ho hk hp a w b hva hφ hbx
    match i, ho, hk with
    | 0, _, hk => cases hk
    | 1, _, hk => cases hk
    | 2, _, hk => cases hk
    | 3, _, hk => cases hk
    | 4, _, hk => cases hk
    | 5, _, hk => cases hk
    | 6, _, hk => cases hk
    | 7, _, hk => cases hk
    | 8, _, hk => cases hk
    | 9, _, hk => cases hk
    | 10, _, hk => cases hk
    | 11, _, hk => cases hk
    | 12, _, hk => cases hk
    | 13, _, hk => cases hk
    | 14, _, hk => cases hk
    | 15, _, hk => cases hk
    | 16, _, hk => cases hk
    | 17, _, hk => cases hk
    | 18, _, hk => cases hk
    | 19, _, hk => cases hk
    | 20, ho, hk =>
      have ho' : o20 = o := by simpa using ho
      subst ho'; cases hk; cases hp
      obtain ⟨b8, o8, l8, c8, e8, x8, y8⟩ := hφ
      have q1 : a.eval (.tmp 65) = .agg #[.int .i64 (b8.seen 0 : Int), .int .i64 (b8.seen 1 : Int), .int .i64 (b8.seen 2 : Int), .int .i64 (b8.seen 3 : Int), .int .i64 (b8.seen 4 : Int), .int .i64 (b8.seen 5 : Int), .int .i64 (b8.seen 6 : Int), .int .i64 (b8.seen 7 : Int), .slice o8 l8 c8] := e8
      have q2 : a.eval (.tmp 13) = .pointer (some ⟨b, 0, none⟩) := hva
      have u0 := hbx.cell 0
      have f0 := hbx.frozen 0
      have u1 := hbx.cell 1
      have f1 := hbx.frozen 1
      have u2 := hbx.cell 2
      have f2 := hbx.frozen 2
      have u3 := hbx.cell 3
      have f3 := hbx.frozen 3
      have u4 := hbx.cell 4
      have f4 := hbx.frozen 4
      have u5 := hbx.cell 5
      have f5 := hbx.frozen 5
      have u6 := hbx.cell 6
      have f6 := hbx.frozen 6
      have u7 := hbx.cell 7
      have f7 := hbx.frozen 7
      have u8 := hbx.cell 8
      have f8 := hbx.frozen 8
      refine ⟨[.int .i64 (b8.seen 0 : Int), .int .i64 (b8.seen 1 : Int), .int .i64 (b8.seen 2 : Int), .int .i64 (b8.seen 3 : Int), .int .i64 (b8.seen 4 : Int), .int .i64 (b8.seen 5 : Int), .int .i64 (b8.seen 6 : Int), .int .i64 (b8.seen 7 : Int), .slice o8 l8 c8], e8, rfl, by simp [isInt], ?_⟩
      unfold execOp; rw [h20]
      dsimp only
      rw [q1, q2]
      simp [go_sem, u0, f0, u1, f1, u2, f2, u3, f3, u4, f4, u5, f5, u6, f6, u7, f7, u8, f8, setFrom]
    | 21, ho, hk =>
      have ho' : o21 = o := by simpa using ho
      subst ho'; cases hk; cases hp
      obtain ⟨b17, o17, l17, c17, e17, x17, y17⟩ := hφ
      have q1 : a.eval (.tmp 74) = .agg #[.int .i64 (b17.seen 0 : Int), .int .i64 (b17.seen 1 : Int), .int .i64 (b17.seen 2 : Int), .int .i64 (b17.seen 3 : Int), .int .i64 (b17.seen 4 : Int), .int .i64 (b17.seen 5 : Int), .int .i64 (b17.seen 6 : Int), .int .i64 (b17.seen 7 : Int), .slice o17 l17 c17] := e17
      have q2 : a.eval (.tmp 14) = .pointer (some ⟨b, 0, none⟩) := hva
      have u0 := hbx.cell 0
      have f0 := hbx.frozen 0
      have u1 := hbx.cell 1
      have f1 := hbx.frozen 1
      have u2 := hbx.cell 2
      have f2 := hbx.frozen 2
      have u3 := hbx.cell 3
      have f3 := hbx.frozen 3
      have u4 := hbx.cell 4
      have f4 := hbx.frozen 4
      have u5 := hbx.cell 5
      have f5 := hbx.frozen 5
      have u6 := hbx.cell 6
      have f6 := hbx.frozen 6
      have u7 := hbx.cell 7
      have f7 := hbx.frozen 7
      have u8 := hbx.cell 8
      have f8 := hbx.frozen 8
      refine ⟨[.int .i64 (b17.seen 0 : Int), .int .i64 (b17.seen 1 : Int), .int .i64 (b17.seen 2 : Int), .int .i64 (b17.seen 3 : Int), .int .i64 (b17.seen 4 : Int), .int .i64 (b17.seen 5 : Int), .int .i64 (b17.seen 6 : Int), .int .i64 (b17.seen 7 : Int), .slice o17 l17 c17], e17, rfl, by simp [isInt], ?_⟩
      unfold execOp; rw [h21]
      dsimp only
      rw [q1, q2]
      simp [go_sem, u0, f0, u1, f1, u2, f2, u3, f3, u4, f4, u5, f5, u6, f6, u7, f7, u8, f8, setFrom]
    | i + 22, ho, _ => simp at ho
  case fin =>
    intro a w blk hI
    have n8 : (#[o0, o1, o2, o3, o4, o5, o6, o7, o8, o9, o10, o11, o12, o13, o14, o15, o16, o17, o18, o19, o20, o21] : Array Oper).size = 22 := rfl
    rw [n8] at hI
    have hf := hI.agree.form
    have e0 : a.eval (.tmp 57) = .slice (some ⟨gT, 0, none⟩) nn cp := hI.vals 0 (by decide) (by decide) rfl
    have e1 : a.eval (.tmp 58) = .int .i64 (pa : Int) := hI.vals 1 (by decide) (by decide) rfl
    have e2 : a.eval (.tmp 59) = .pointer (some ⟨gT, pa * 9, none⟩) := hI.vals 2 (by decide) (by decide) rfl
    have e3 : a.eval (.tmp 60) = .agg #[.int .i64 (ta.T.seen 0 : Int), .int .i64 (ta.T.seen 1 : Int), .int .i64 (ta.T.seen 2 : Int), .int .i64 (ta.T.seen 3 : Int), .int .i64 (ta.T.seen 4 : Int), .int .i64 (ta.T.seen 5 : Int), .int .i64 (ta.T.seen 6 : Int), .int .i64 (ta.T.seen 7 : Int), .slice ta.ao ta.n ta.c] := hI.vals 3 (by decide) (by decide) rfl
    have e4 : a.eval (.tmp 61) = .slice (some ⟨gT, 0, none⟩) nn cp := hI.vals 4 (by decide) (by decide) rfl
    have e5 : a.eval (.tmp 62) = .int .i64 (pb : Int) := hI.vals 5 (by decide) (by decide) rfl
    have e6 : a.eval (.tmp 63) = .pointer (some ⟨gT, pb * 9, none⟩) := hI.vals 6 (by decide) (by decide) rfl
    have e7 : a.eval (.tmp 64) = .agg #[.int .i64 (tb.T.seen 0 : Int), .int .i64 (tb.T.seen 1 : Int), .int .i64 (tb.T.seen 2 : Int), .int .i64 (tb.T.seen 3 : Int), .int .i64 (tb.T.seen 4 : Int), .int .i64 (tb.T.seen 5 : Int), .int .i64 (tb.T.seen 6 : Int), .int .i64 (tb.T.seen 7 : Int), .slice tb.ao tb.n tb.c] := hI.vals 7 (by decide) (by decide) rfl
    obtain ⟨b8, o8, l8, c8, e8, x8, y8⟩ : IsT (merT ta.T tb.T) (m) (a.eval (.tmp 65)) w := hI.vals 8 (by decide) (by decide) rfl
    have e9 : a.eval (.tmp 66) = .slice (some ⟨gR, 0, none⟩) nn cq := hI.vals 9 (by decide) (by decide) rfl
    have e10 : a.eval (.tmp 67) = .int .i64 (pa : Int) := hI.vals 10 (by decide) (by decide) rfl
    have e11 : a.eval (.tmp 68) = .pointer (some ⟨gR, pa * 9, none⟩) := hI.vals 11 (by decide) (by decide) rfl
    have e12 : a.eval (.tmp 69) = .agg #[.int .i64 (ta.T.seen 0 : Int), .int .i64 (ta.T.seen 1 : Int), .int .i64 (ta.T.seen 2 : Int), .int .i64 (ta.T.seen 3 : Int), .int .i64 (ta.T.seen 4 : Int), .int .i64 (ta.T.seen 5 : Int), .int .i64 (ta.T.seen 6 : Int), .int .i64 (ta.T.seen 7 : Int), .slice ra.ao ra.n ra.c] := hI.vals 12 (by decide) (by decide) rfl
    have e13 : a.eval (.tmp 70) = .slice (some ⟨gR, 0, none⟩) nn cq := hI.vals 13 (by decide) (by decide) rfl
    have e14 : a.eval (.tmp 71) = .int .i64 (pb : Int) := hI.vals 14 (by decide) (by decide) rfl
    have e15 : a.eval (.tmp 72) = .pointer (some ⟨gR, pb * 9, none⟩) := hI.vals 15 (by decide) (by decide) rfl
    have e16 : a.eval (.tmp 73) = .agg #[.int .i64 (tb.T.seen 0 : Int), .int .i64 (tb.T.seen 1 : Int), .int .i64 (tb.T.seen 2 : Int), .int .i64 (tb.T.seen 3 : Int), .int .i64 (tb.T.seen 4 : Int), .int .i64 (tb.T.seen 5 : Int), .int .i64 (tb.T.seen 6 : Int), .int .i64 (tb.T.seen 7 : Int), .slice rb.ao rb.n rb.c] := hI.vals 16 (by decide) (by decide) rfl
    obtain ⟨b17, o17, l17, c17, e17, x17, y17⟩ : IsR (merT ta.T tb.T) (m) (a.eval (.tmp 74)) w := hI.vals 17 (by decide) (by decide) rfl
    obtain ⟨p18, r18, _, k18⟩ := hI.boxes 18 34 #[.int .i64 0, .int .i64 0, .int .i64 0, .int .i64 0, .int .i64 0, .int .i64 0, .int .i64 0, .int .i64 0, .slice none 0 0] (by decide) (by decide) rfl
    obtain ⟨us18, i18, _, _, j18⟩ := k18 (show (20 : Nat) < 22 by decide)
    have y_18 : a.eval (.tmp 65) = .agg us18.toArray := i18
    rw [e8] at y_18
    cases y_18
    have e18 : a.eval (.tmp 13) = .pointer (some ⟨blk 18, 0, none⟩) := p18
    obtain ⟨p19, r19, _, k19⟩ := hI.boxes 19 36 #[.int .i64 0, .int .i64 0, .int .i64 0, .int .i64 0, .int .i64 0, .int .i64 0, .int .i64 0, .int .i64 0, .slice none 0 0] (by decide) (by decide) rfl
    obtain ⟨us19, i19, _, _, j19⟩ := k19 (show (21 : Nat) < 22 by decide)
    have y_19 : a.eval (.tmp 74) = .agg us19.toArray := i19
    rw [e17] at y_19
    cases y_19
    have e19 : a.eval (.tmp 14) = .pointer (some ⟨blk 19, 0, none⟩) := p19
    have hsl : made_merS.slots 22 = [57, 58, 59, 60, 61, 62, 63, 64, 65, 66, 67, 68, 69, 70, 71, 72, 73, 74, 13, 14] := rfl
    rw [hsl] at hf
    simp only [List.map_cons, List.map_nil, e0, e1, e2, e3, e4, e5, e6, e7, e8, e9, e10, e11, e12, e13, e14, e15, e16, e17, e18, e19] at hf
    rw [hf]
    exact hend w (blk 18) (blk 19) b8 o8 l8 c8 b17 o17 l17 c17  (below_undrew hI.below) r18 j18 r19 j19 (hI.apart 18 19 _ _ _ _ (by decide) (by decide) (by decide) (by decide) rfl rfl (by decide)) x8 y8 x17 y17
def made_putTS : Shape where
  f := fun i => match i with | 0 => 81 | 1 => 82 | 2 => 83 | 3 => 84 | 4 => 85 | 5 => 86 | 6 => 87 | 7 => 88 | 8 => 89 | 9 => 90 | 10 => 91 | 11 => 80 | 12 => 92 | 13 => 93 | 14 => 15 | 16 => 16 | _ => 0
  kd := fun i => match i with | 14 => .box 34 #[.int .i64 0, .int .i64 0, .int .i64 0, .int .i64 0, .int .i64 0, .int .i64 0, .int .i64 0, .int .i64 0, .slice none 0 0] | 15 => .put 14 12 | _ => .val
  need := fun i => match i with | 2 => [0, 1] | 3 => [2] | 5 => [4] | 7 => [6] | 9 => [8] | 10 => [3, 5, 7, 9] | 11 => [10] | 12 => [11] | 13 => [11] | 15 => [14, 12] | 16 => [13] | _ => []
  st := fun i => match i with | 14 => 15 | _ => 0
  src := fun i => match i with | 14 => 12 | _ => 0

set_option maxRecDepth 4000 in
set_option maxHeartbeats 16000000 in
/-- a Put -/
theorem made_putT {Q : Exit → Act → World → Prop} {id : Nat} {a0 : Act} {W : World} {o0 o1 o2 o3 o4 o5 o6 o7 o8 o9 o10 o11 o12 o13 o14 o15 o16 : Oper} (U : Tab) (er : Int) (x : ActD) (ta : Slot) (m nn cp pa : Nat) (gA : Nat) (gT : Nat) (ts10 : Array TypeId)
    (hok : made_putTS.ok #[o0, o1, o2, o3, o4, o5, o6, o7, o8, o9, o10, o11, o12, o13, o14, o15, o16] a0.tmps.size = true)
    (h0 : o0.op = .move (.tmp 0)) (h1 : o1.op = .move (.tmp 9)) (h2 : o2.op = .indexAddr 25 (.tmp 81) (.tmp 82)) (h3 : o3.op = .load 34 (.tmp 83)) (h4 : o4.op = .fieldAddr 74 (.tmp 5) 3) (h5 : o5.op = .load 3 (.tmp 85)) (h6 : o6.op = .fieldAddr 74 (.tmp 5) 4) (h7 : o7.op = .load 9 (.tmp 87)) (h8 : o8.op = .fieldAddr 74 (.tmp 5) 5) (h9 : o9.op = .load 9 (.tmp 89)) (h10 : o10.op = .call { callee := .value (.func 23), args := #[.tmp 84, .tmp 86, .tmp 88, .tmp 90], argTypes := ts10 }) (h11 : o11.op = .move (.tmp 91)) (h12 : o12.op = .extract (.tmp 80) 0) (h13 : o13.op = .extract (.tmp 80) 1) (h14 : o14.op = .alloc 34) (h15 : o15.op = .store 34 (.tmp 15) (.tmp 92)) (h16 : o16.op = .assign (.tmp 93))
    (hrA : a0.eval (.tmp 5) = .pointer (some ⟨gA, 0, none⟩)) (hgA : gA < W.heap.size) (cA_0 : W.cell? ⟨gA, 0, none⟩ = some (.int .u8 (x.kind : Int))) (cA_1 : W.cell? ⟨gA, 1, none⟩ = some (.int .u8 (x.a : Int))) (cA_2 : W.cell? ⟨gA, 2, none⟩ = some (.int .u8 (x.b : Int))) (cA_3 : W.cell? ⟨gA, 3, none⟩ = some (.int .i64 x.site)) (cA_4 : W.cell? ⟨gA, 4, none⟩ = some (.string x.key)) (cA_5 : W.cell? ⟨gA, 5, none⟩ = some (.string x.val))
    (hgP : gT < W.heap.size) (cP_0 : W.cell? ⟨gT, pa * 9, none⟩ = some (.int .i64 (ta.T.seen 0 : Int))) (cP_1 : W.cell? ⟨gT, pa * 9 + 1, none⟩ = some (.int .i64 (ta.T.seen 1 : Int))) (cP_2 : W.cell? ⟨gT, pa * 9 + 2, none⟩ = some (.int .i64 (ta.T.seen 2 : Int))) (cP_3 : W.cell? ⟨gT, pa * 9 + 3, none⟩ = some (.int .i64 (ta.T.seen 3 : Int))) (cP_4 : W.cell? ⟨gT, pa * 9 + 4, none⟩ = some (.int .i64 (ta.T.seen 4 : Int))) (cP_5 : W.cell? ⟨gT, pa * 9 + 5, none⟩ = some (.int .i64 (ta.T.seen 5 : Int))) (cP_6 : W.cell? ⟨gT, pa * 9 + 6, none⟩ = some (.int .i64 (ta.T.seen 6 : Int))) (cP_7 : W.cell? ⟨gT, pa * 9 + 7, none⟩ = some (.int .i64 (ta.T.seen 7 : Int))) (cP_8 : W.cell? ⟨gT, pa * 9 + 8, none⟩ = some (.slice ta.ao ta.n ta.c))
    (hmS : a0.eval (.tmp 0) = .slice (some ⟨gT, 0, none⟩) nn cp)
    (hmI : a0.eval (.tmp 9) = .int .i64 (pa : Int))
    (hpa : pa < nn) (hnn : nn ≤ 1000) (hm : m ≤ 10000)
    (tA : Held W m ta.T ta.ao ta.n)
    (HP : Hid (∀ w, Held w m ta.T ta.ao ta.n → Calls Try.prog 23 #[.agg #[.int .i64 (ta.T.seen 0 : Int), .int .i64 (ta.T.seen 1 : Int), .int .i64 (ta.T.seen 2 : Int), .int .i64 (ta.T.seen 3 : Int), .int .i64 (ta.T.seen 4 : Int), .int .i64 (ta.T.seen 5 : Int), .int .i64 (ta.T.seen 6 : Int), .int .i64 (ta.T.seen 7 : Int), .slice ta.ao ta.n ta.c], .int .i64 x.site, .string x.key, .string x.val] w fun e w' => ∃ b o l c, e = .returned (.tuple #[.agg #[.int .i64 (b.seen 0 : Int), .int .i64 (b.seen 1 : Int), .int .i64 (b.seen 2 : Int), .int .i64 (b.seen 3 : Int), .int .i64 (b.seen 4 : Int), .int .i64 (b.seen 5 : Int), .int .i64 (b.seen 6 : Int), .int .i64 (b.seen 7 : Int), .slice o l c], .int .i64 er]) ∧ Hid (b = U) ∧ Held w' (m + 1) b o l ∧ Below w.heap.size w w'))
    (hend : ∀ w b14 b12 o12 l12 c12 d10 d11, Below W.heap.size W w → W.heap.size ≤ b14 → Box w b14 34 #[.int .i64 (b12.seen 0 : Int), .int .i64 (b12.seen 1 : Int), .int .i64 (b12.seen 2 : Int), .int .i64 (b12.seen 3 : Int), .int .i64 (b12.seen 4 : Int), .int .i64 (b12.seen 5 : Int), .int .i64 (b12.seen 6 : Int), .int .i64 (b12.seen 7 : Int), .slice o12 l12 c12] → b12 = (U) → Held w (m + 1) b12 o12 l12 → 
      Q .normal (puts a0 [(81, .slice (some ⟨gT, 0, none⟩) nn cp), (82, .int .i64 (pa : Int)), (83, .pointer (some ⟨gT, pa * 9, none⟩)), (84, .agg #[.int .i64 (ta.T.seen 0 : Int), .int .i64 (ta.T.seen 1 : Int), .int .i64 (ta.T.seen 2 : Int), .int .i64 (ta.T.seen 3 : Int), .int .i64 (ta.T.seen 4 : Int), .int .i64 (ta.T.seen 5 : Int), .int .i64 (ta.T.seen 6 : Int), .int .i64 (ta.T.seen 7 : Int), .slice ta.ao ta.n ta.c]), (85, .pointer (some ⟨gA, 3, none⟩)), (86, .int .i64 x.site), (87, .pointer (some ⟨gA, 4, none⟩)), (88, .string x.key), (89, .pointer (some ⟨gA, 5, none⟩)), (90, .string x.val), (91, d10), (80, d11), (92, .agg #[.int .i64 (b12.seen 0 : Int), .int .i64 (b12.seen 1 : Int), .int .i64 (b12.seen 2 : Int), .int .i64 (b12.seen 3 : Int), .int .i64 (b12.seen 4 : Int), .int .i64 (b12.seen 5 : Int), .int .i64 (b12.seen 6 : Int), .int .i64 (b12.seen 7 : Int), .slice o12 l12 c12]), (93, .int .i64 er), (15, .pointer (some ⟨b14, 0, none⟩)), (16, .int .i64 er)]) w) :
    (Code.region id #[o0, o1, o2, o3, o4, o5, o6, o7, o8, o9, o10, o11, o12, o13, o14, o15, o16] true).wp Try.prog Q a0 W := by
  refine Shape.region made_putTS (fun i v w => (fun (v : Value) => (match i with | 0 => v = .slice (some ⟨gT, 0, none⟩) nn cp | 1 => v = .int .i64 (pa : Int) | 2 => v = .pointer (some ⟨gT, pa * 9, none⟩) | 3 => v = .agg #[.int .i64 (ta.T.seen 0 : Int), .int .i64 (ta.T.seen 1 : Int), .int .i64 (ta.T.seen 2 : Int), .int .i64 (ta.T.seen 3 : Int), .int .i64 (ta.T.seen 4 : Int), .int .i64 (ta.T.seen 5 : Int), .int .i64 (ta.T.seen 6 : Int), .int .i64 (ta.T.seen 7 : Int), .slice ta.ao ta.n ta.c] | 4 => v = .pointer (some ⟨gA, 3, none⟩) | 5 => v = .int .i64 x.site | 6 => v = .pointer (some ⟨gA, 4, none⟩) | 7 => v = .string x.key | 8 => v = .pointer (some ⟨gA, 5, none⟩) | 9 => v = .string x.val | 10 => IsTE (U) (m + 1) (er) v w | 11 => IsTE (U) (m + 1) (er) v w | 12 => IsT (U) (m + 1) v w | 13 => v = .int .i64 er | 16 => v = .int .i64 er | _ => True : Prop)) (v i)) (by kernel_rfl) hok
    (fun i v v' w _ hj hΦ => by rw [← hj i (.inl rfl)]; exact hΦ) ?stab ?val ?box ?put rfl ?fin
  case stab =>
    intro i v hi
    match i with
    | 0 => exact Stable.const _ _
    | 1 => exact Stable.const _ _
    | 2 => exact Stable.const _ _
    | 3 => exact Stable.const _ _
    | 4 => exact Stable.const _ _
    | 5 => exact Stable.const _ _
    | 6 => exact Stable.const _ _
    | 7 => exact Stable.const _ _
    | 8 => exact Stable.const _ _
    | 9 => exact Stable.const _ _
    | 10 => exact Stable.isTE _ _ _ _ _
    | 11 => exact Stable.isTE _ _ _ _ _
    | 12 => exact Stable.isT _ _ _ _
    | 13 => exact Stable.const _ _
    | 14 => exact Stable.const _ _
    | 15 => exact Stable.const _ _
    | 16 => exact Stable.const _ _
    | i + 17 => exact Stable.const _ _
  case val =>
    intro i o ho hv a w hA hb hz hn K' hK
    have hw := below_undrew hb
    have erA : a.eval (.tmp 5) = .pointer (some ⟨gA, 0, none⟩) := (hA.eval (show 5 ∉ made_putTS.slots 17 by decide)).trans hrA
    have kA_0 := (hb.cell (p := ⟨gA, 0, none⟩) hgA).trans cA_0
    have kA_1 := (hb.cell (p := ⟨gA, 1, none⟩) hgA).trans cA_1
    have kA_2 := (hb.cell (p := ⟨gA, 2, none⟩) hgA).trans cA_2
    have kA_3 := (hb.cell (p := ⟨gA, 3, none⟩) hgA).trans cA_3
    have kA_4 := (hb.cell (p := ⟨gA, 4, none⟩) hgA).trans cA_4
    have kA_5 := (hb.cell (p := ⟨gA, 5, none⟩) hgA).trans cA_5
    have kP_0 := (hb.cell (p := ⟨gT, pa * 9, none⟩) hgP).trans cP_0
    have kP_1 := (hb.cell (p := ⟨gT, pa * 9 + 1, none⟩) hgP).trans cP_1
    have kP_2 := (hb.cell (p := ⟨gT, pa * 9 + 2, none⟩) hgP).trans cP_2
    have kP_3 := (hb.cell (p := ⟨gT, pa * 9 + 3, none⟩) hgP).trans cP_3
    have kP_4 := (hb.cell (p := ⟨gT, pa * 9 + 4, none⟩) hgP).trans cP_4
    have kP_5 := (hb.cell (p := ⟨gT, pa * 9 + 5, none⟩) hgP).trans cP_5
    have kP_6 := (hb.cell (p := ⟨gT, pa * 9 + 6, none⟩) hgP).trans cP_6
    have kP_7 := (hb.cell (p := ⟨gT, pa * 9 + 7, none⟩) hgP).trans cP_7
    have kP_8 := (hb.cell (p := ⟨gT, pa * 9 + 8, none⟩) hgP).trans cP_8
    have emS : a.eval (.tmp 0) = .slice (some ⟨gT, 0, none⟩) nn cp := (hA.eval (show 0 ∉ made_putTS.slots 17 by decide)).trans hmS
    have emI : a.eval (.tmp 9) = .int .i64 (pa : Int) := (hA.eval (show 9 ∉ made_putTS.slots 17 by decide)).trans hmI
    match i, ho, hv with
    | 0, ho, _ =>
      have ho' : o0 = o := by simpa using ho
      subst ho'
      exact wp_value (run_move h0 a w) (hK _ _ (Below.refl _ _) (by simp [updV, emS]))
    | 1, ho, _ =>
      have ho' : o1 = o := by simpa using ho
      subst ho'
      exact wp_value (run_move h1 a w) (hK _ _ (Below.refl _ _) (by simp [updV, emI]))
    | 2, ho, _ =>
      have ho' : o2 = o := by simpa using ho
      subst ho'
      have e1 : a.eval (.tmp 81) = .slice (some ⟨gT, 0, none⟩) nn cp := hn 0 (by simp [made_putTS]) rfl
      have e2 : a.eval (.tmp 82) = .int .i64 (pa : Int) := hn 1 (by simp [made_putTS]) rfl
      refine wp_value (v := .pointer (some ⟨gT, pa * 9, none⟩)) (w' := w) ?_ (hK _ _ (Below.refl _ _) (by simp [updV]))
      unfold execOp
      rw [h2]
      dsimp only
      rw [e1, e2]
      simp [go_sem, at_runT pa nn gT cp hpa hnn w]
    | 3, ho, _ =>
      have ho' : o3 = o := by simpa using ho
      subst ho'
      have e : a.eval (.tmp 83) = .pointer (some ⟨gT, pa * 9, none⟩) := hn 2 (by simp [made_putTS]) rfl
      refine wp_value (v := .agg #[.int .i64 (ta.T.seen 0 : Int), .int .i64 (ta.T.seen 1 : Int), .int .i64 (ta.T.seen 2 : Int), .int .i64 (ta.T.seen 3 : Int), .int .i64 (ta.T.seen 4 : Int), .int .i64 (ta.T.seen 5 : Int), .int .i64 (ta.T.seen 6 : Int), .int .i64 (ta.T.seen 7 : Int), .slice ta.ao ta.n ta.c]) (w' := w) ?_ (hK _ _ (Below.refl _ _) (by simp [updV]))
      unfold execOp
      rw [h3]
      dsimp only
      rw [e]
      simp [go_sem, kP_0, kP_1, kP_2, kP_3, kP_4, kP_5, kP_6, kP_7, kP_8]
    | 4, ho, _ =>
      have ho' : o4 = o := by simpa using ho
      subst ho'
      refine wp_value (v := .pointer (some ⟨gA, 3, none⟩)) (w' := w) ?_ (hK _ _ (Below.refl _ _) (by simp [updV]))
      unfold execOp
      rw [h4]
      dsimp only
      rw [erA]
      simp [go_sem]
    | 5, ho, _ =>
      have ho' : o5 = o := by simpa using ho
      subst ho'
      have e : a.eval (.tmp 85) = .pointer (some ⟨gA, 3, none⟩) := hn 4 (by simp [made_putTS]) rfl
      refine wp_value (v := .int .i64 x.site) (w' := w) ?_ (hK _ _ (Below.refl _ _) (by simp [updV]))
      unfold execOp
      rw [h5]
      dsimp only
      rw [e]
      simp [go_sem, kA_0, kA_1, kA_2, kA_3, kA_4, kA_5]
    | 6, ho, _ =>
      have ho' : o6 = o := by simpa using ho
      subst ho'
      refine wp_value (v := .pointer (some ⟨gA, 4, none⟩)) (w' := w) ?_ (hK _ _ (Below.refl _ _) (by simp [updV]))
      unfold execOp
      rw [h6]
      dsimp only
      rw [erA]
      simp [go_sem]
    | 7, ho, _ =>
      have ho' : o7 = o := by simpa using ho
      subst ho'
      have e : a.eval (.tmp 87) = .pointer (some ⟨gA, 4, none⟩) := hn 6 (by simp [made_putTS]) rfl
      refine wp_value (v := .string x.key) (w' := w) ?_ (hK _ _ (Below.refl _ _) (by simp [updV]))
      unfold execOp
      rw [h7]
      dsimp only
      rw [e]
      simp [go_sem, kA_0, kA_1, kA_2, kA_3, kA_4, kA_5]
    | 8, ho, _ =>
      have ho' : o8 = o := by simpa using ho
      subst ho'
      refine wp_value (v := .pointer (some ⟨gA, 5, none⟩)) (w' := w) ?_ (hK _ _ (Below.refl _ _) (by simp [updV]))
      unfold execOp
      rw [h8]
      dsimp only
      rw [erA]
      simp [go_sem]
    | 9, ho, _ =>
      have ho' : o9 = o := by simpa using ho
      subst ho'
      have e : a.eval (.tmp 89) = .pointer (some ⟨gA, 5, none⟩) := hn 8 (by simp [made_putTS]) rfl
      refine wp_value (v := .string x.val) (w' := w) ?_ (hK _ _ (Below.refl _ _) (by simp [updV]))
      unfold execOp
      rw [h9]
      dsimp only
      rw [e]
      simp [go_sem, kA_0, kA_1, kA_2, kA_3, kA_4, kA_5]
    | 10, ho, _ =>
      have ho' : o10 = o := by simpa using ho
      subst ho'
      have e3 : a.eval (.tmp 84) = .agg #[.int .i64 (ta.T.seen 0 : Int), .int .i64 (ta.T.seen 1 : Int), .int .i64 (ta.T.seen 2 : Int), .int .i64 (ta.T.seen 3 : Int), .int .i64 (ta.T.seen 4 : Int), .int .i64 (ta.T.seen 5 : Int), .int .i64 (ta.T.seen 6 : Int), .int .i64 (ta.T.seen 7 : Int), .slice ta.ao ta.n ta.c] := hn 3 (by simp [made_putTS]) rfl
      have e5 : a.eval (.tmp 86) = .int .i64 x.site := hn 5 (by simp [made_putTS]) rfl
      have e7 : a.eval (.tmp 88) = .string x.key := hn 7 (by simp [made_putTS]) rfl
      have e9 : a.eval (.tmp 90) = .string x.val := hn 9 (by simp [made_putTS]) rfl
      refine wp_call (run_call Try.func23 (by kernel_rfl) rfl h10 a w) ?_ (fun v w' hb' hφ => hK v w' hb' (by simpa [updV] using hφ))
      have em : Array.map a.eval #[Operand.tmp 84, Operand.tmp 86, Operand.tmp 88, Operand.tmp 90] = #[a.eval (.tmp 84), a.eval (.tmp 86), a.eval (.tmp 88), a.eval (.tmp 90)] := by first | (simp only [List.map_toArray, List.map_cons, List.map_nil]; done) | (simp only [List.map_toArray, List.map_cons, List.map_nil]; rfl) | rfl
      rw [em, e3, e5, e7, e9]
      exact (HP.out _ (tA.keep hw)).mono fun e w h => outTE h
    | 11, ho, _ =>
      have ho' : o11 = o := by simpa using ho
      subst ho'
      have e : IsTE (U) (m + 1) (er) (a.eval (.tmp 91)) w := hn 10 (by simp [made_putTS]) rfl
      exact wp_value (run_move h11 a w) (hK _ _ (Below.refl _ _) (by simpa [updV] using e))
    | 12, ho, _ =>
      have ho' : o12 = o := by simpa using ho
      subst ho'
      obtain ⟨b11, o11, l11, c11, e11, x11, y11⟩ : IsTE (U) (m + 1) (er) (a.eval (.tmp 80)) w := hn 11 (by simp [made_putTS]) rfl
      exact wp_value (run_extract h12 e11 rfl w) (hK _ _ (Below.refl _ _) (by simp only [updV, if_true]; exact ⟨b11, o11, l11, c11, rfl, x11, y11⟩))
    | 13, ho, _ =>
      have ho' : o13 = o := by simpa using ho
      subst ho'
      obtain ⟨b11, o11, l11, c11, e11, x11, y11⟩ : IsTE (U) (m + 1) (er) (a.eval (.tmp 80)) w := hn 11 (by simp [made_putTS]) rfl
      exact wp_value (run_extract h13 e11 rfl w) (hK _ _ (Below.refl _ _) (by simp [updV]))
    | 16, ho, _ =>
      have ho' : o16 = o := by simpa using ho
      subst ho'
      have e : a.eval (.tmp 93) = .int .i64 er := hn 13 (by simp [made_putTS]) rfl
      exact wp_value (run_assign h16 a w) (hK _ _ (Below.refl _ _) (by simp [updV, e]))
    | 14, _, hv => cases hv
    | 15, _, hv => cases hv
    | i + 17, ho, _ => simp at ho
  case box =>
    intro i o T z ho hk a w
    match i, ho, hk with
    | 0, _, hk => cases hk
    | 1, _, hk => cases hk
    | 2, _, hk => cases hk
    | 3, _, hk => cases hk
    | 4, _, hk => cases hk
    | 5, _, hk => cases hk
    | 6, _, hk => cases hk
    | 7, _, hk => cases hk
    | 8, _, hk => cases hk
    | 9, _, hk => cases hk
    | 10, _, hk => cases hk
    | 11, _, hk => cases hk
    | 12, _, hk => cases hk
    | 13, _, hk => cases hk
    | 14, ho, hk =>
      have ho' : o14 = o := by simpa using ho
      subst ho'; cases hk; unfold execOp; rw [h14]; simp [go_sem]
    | 15, _, hk => cases hk
    | 16, _, hk => cases hk
    | i + 17, ho, _ => simp at ho
  case put =>
    intro i o p' s' T z ho hk hp a w b hva hφ hbx
    match i, ho, hk with
    | 0, _, hk => cases hk
    | 1, _, hk => cases hk
    | 2, _, hk => cases hk
    | 3, _, hk => cases hk
    | 4, _, hk => cases hk
    | 5, _, hk => cases hk
    | 6, _, hk => cases hk
    | 7, _, hk => cases hk
    | 8, _, hk => cases hk
    | 9, _, hk => cases hk
    | 10, _, hk => cases hk
    | 11, _, hk => cases hk
    | 12, _, hk => cases hk
    | 13, _, hk => cases hk
    | 14, _, hk => cases hk
    | 15, ho, hk =>
      have ho' : o15 = o := by simpa using ho
      subst ho'; cases hk; cases hp
      obtain ⟨b12, o12, l12, c12, e12, x12, y12⟩ := hφ
      have q1 : a.eval (.tmp 92) = .agg #[.int .i64 (b12.seen 0 : Int), .int .i64 (b12.seen 1 : Int), .int .i64 (b12.seen 2 : Int), .int .i64 (b12.seen 3 : Int), .int .i64 (b12.seen 4 : Int), .int .i64 (b12.seen 5 : Int), .int .i64 (b12.seen 6 : Int), .int .i64 (b12.seen 7 : Int), .slice o12 l12 c12] := e12
      have q2 : a.eval (.tmp 15) = .pointer (some ⟨b, 0, none⟩) := hva
      have u0 := hbx.cell 0
      have f0 := hbx.frozen 0
      have u1 := hbx.cell 1
      have f1 := hbx.frozen 1
      have u2 := hbx.cell 2
      have f2 := hbx.frozen 2
      have u3 := hbx.cell 3
      have f3 := hbx.frozen 3
      have u4 := hbx.cell 4
      have f4 := hbx.frozen 4
      have u5 := hbx.cell 5
      have f5 := hbx.frozen 5
      have u6 := hbx.cell 6
      have f6 := hbx.frozen 6
      have u7 := hbx.cell 7
      have f7 := hbx.frozen 7
      have u8 := hbx.cell 8
      have f8 := hbx.frozen 8
      refine ⟨[.int .i64 (b12.seen 0 : Int), .int .i64 (b12.seen 1 : Int), .int .i64 (b12.seen 2 : Int), .int .i64 (b12.seen 3 : Int), .int .i64 (b12.seen 4 : Int), .int .i64 (b12.seen 5 : Int), .int .i64 (b12.seen 6 : Int), .int .i64 (b12.seen 7 : Int), .slice o12 l12 c12], e12, rfl, by simp [isInt], ?_⟩
      unfold execOp; rw [h15]
      dsimp only
      rw [q1, q2]
      simp [go_sem, u0, f0, u1, f1, u2, f2, u3, f3, u4, f4, u5, f5, u6, f6, u7, f7, u8, f8, setFrom]
    | 16, _, hk => cases hk
    | i + 17, ho, _ => simp at ho
  case fin =>
    intro a w blk hI
    have n8 : (#[o0, o1, o2, o3, o4, o5, o6, o7, o8, o9, o10, o11, o12, o13, o14, o15, o16] : Array Oper).size = 17 := rfl
    rw [n8] at hI
    have hf := hI.agree.form
    have e0 : a.eval (.tmp 81) = .slice (some ⟨gT, 0, none⟩) nn cp := hI.vals 0 (by decide) (by decide) rfl
    have e1 : a.eval (.tmp 82) = .int .i64 (pa : Int) := hI.vals 1 (by decide) (by decide) rfl
    have e2 : a.eval (.tmp 83) = .pointer (some ⟨gT, pa * 9, none⟩) := hI.vals 2 (by decide) (by decide) rfl
    have e3 : a.eval (.tmp 84) = .agg #[.int .i64 (ta.T.seen 0 : Int), .int .i64 (ta.T.seen 1 : Int), .int .i64 (ta.T.seen 2 : Int), .int .i64 (ta.T.seen 3 : Int), .int .i64 (ta.T.seen 4 : Int), .int .i64 (ta.T.seen 5 : Int), .int .i64 (ta.T.seen 6 : Int), .int .i64 (ta.T.seen 7 : Int), .slice ta.ao ta.n ta.c] := hI.vals 3 (by decide) (by decide) rfl
    have e4 : a.eval (.tmp 85) = .pointer (some ⟨gA, 3, none⟩) := hI.vals 4 (by decide) (by decide) rfl
    have e5 : a.eval (.tmp 86) = .int .i64 x.site := hI.vals 5 (by decide) (by decide) rfl
    have e6 : a.eval (.tmp 87) = .pointer (some ⟨gA, 4, none⟩) := hI.vals 6 (by decide) (by decide) rfl
    have e7 : a.eval (.tmp 88) = .string x.key := hI.vals 7 (by decide) (by decide) rfl
    have e8 : a.eval (.tmp 89) = .pointer (some ⟨gA, 5, none⟩) := hI.vals 8 (by decide) (by decide) rfl
    have e9 : a.eval (.tmp 90) = .string x.val := hI.vals 9 (by decide) (by decide) rfl
    obtain ⟨b12, o12, l12, c12, e12, x12, y12⟩ : IsT (U) (m + 1) (a.eval (.tmp 92)) w := hI.vals 12 (by decide) (by decide) rfl
    have e13 : a.eval (.tmp 93) = .int .i64 er := hI.vals 13 (by decide) (by decide) rfl
    have e16 : a.eval (.tmp 16) = .int .i64 er := hI.vals 16 (by decide) (by decide) rfl
    obtain ⟨p14, r14, _, k14⟩ := hI.boxes 14 34 #[.int .i64 0, .int .i64 0, .int .i64 0, .int .i64 0, .int .i64 0, .int .i64 0, .int .i64 0, .int .i64 0, .slice none 0 0] (by decide) (by decide) rfl
    obtain ⟨us14, i14, _, _, j14⟩ := k14 (show (15 : Nat) < 17 by decide)
    have y_14 : a.eval (.tmp 92) = .agg us14.toArray := i14
    rw [e12] at y_14
    cases y_14
    have e14 : a.eval (.tmp 15) = .pointer (some ⟨blk 14, 0, none⟩) := p14
    have hsl : made_putTS.slots 17 = [81, 82, 83, 84, 85, 86, 87, 88, 89, 90, 91, 80, 92, 93, 15, 16] := rfl
    rw [hsl] at hf
    simp only [List.map_cons, List.map_nil, e0, e1, e2, e3, e4, e5, e6, e7, e8, e9, e12, e13, e16, e14] at hf
    rw [hf]
    exact hend w (blk 14) b12 o12 l12 c12 _ _ (below_undrew hI.below) r14 j14 x12 y12
def made_putRS : Shape where
  f := fun i => match i with | 0 => 95 | 1 => 96 | 2 => 97 | 3 => 98 | 4 => 99 | 5 => 100 | 6 => 101 | 7 => 102 | 8 => 103 | 9 => 104 | 10 => 105 | 11 => 94 | 12 => 106 | 13 => 107 | 14 => 17 | 16 => 18 | _ => 0
  kd := fun i => match i with | 14 => .box 36 #[.int .i64 0, .int .i64 0, .int .i64 0, .int .i64 0, .int .i64 0, .int .i64 0, .int .i64 0, .int .i64 0, .slice none 0 0] | 15 => .put 14 12 | _ => .val
  need := fun i => match i with | 2 => [0, 1] | 3 => [2] | 5 => [4] | 7 => [6] | 9 => [8] | 10 => [3, 5, 7, 9] | 11 => [10] | 12 => [11] | 13 => [11] | 15 => [14, 12] | 16 => [13] | _ => []
  st := fun i => match i with | 14 => 15 | _ => 0
  src := fun i => match i with | 14 => 12 | _ => 0

set_option maxRecDepth 4000 in
set_option maxHeartbeats 16000000 in
/-- a Put -/
theorem made_putR {Q : Exit → Act → World → Prop} {id : Nat} {a0 : Act} {W : World} {o0 o1 o2 o3 o4 o5 o6 o7 o8 o9 o10 o11 o12 o13 o14 o15 o16 : Oper} (U : Tab) (er : Int) (x : ActD) (ta ra : Slot) (m nn cq pa : Nat) (gA : Nat) (gR : Nat) (ts10 : Array TypeId)
    (hok : made_putRS.ok #[o0, o1, o2, o3, o4, o5, o6, o7, o8, o9, o10, o11, o12, o13, o14, o15, o16] a0.tmps.size = true)
    (h0 : o0.op = .move (.tmp 1)) (h1 : o1.op = .move (.tmp 9)) (h2 : o2.op = .indexAddr 26 (.tmp 95) (.tmp 96)) (h3 : o3.op = .load 36 (.tmp 97)) (h4 : o4.op = .fieldAddr 74 (.tmp 5) 3) (h5 : o5.op = .load 3 (.tmp 99)) (h6 : o6.op = .fieldAddr 74 (.tmp 5) 4) (h7 : o7.op = .load 9 (.tmp 101)) (h8 : o8.op = .fieldAddr 74 (.tmp 5) 5) (h9 : o9.op = .load 9 (.tmp 103)) (h10 : o10.op = .call { callee := .value (.func 24), args := #[.tmp 98, .tmp 100, .tmp 102, .tmp 104], argTypes := ts10 }) (h11 : o11.op = .move (.tmp 105)) (h12 : o12.op = .extract (.tmp 94) 0) (h13 : o13.op = .extract (.tmp 94) 1) (h14 : o14.op = .alloc 36) (h15 : o15.op = .store 36 (.tmp 17) (.tmp 106)) (h16 : o16.op = .assign (.tmp 107))
    (hrA : a0.eval (.tmp 5) = .pointer (some ⟨gA, 0, none⟩)) (hgA : gA < W.heap.size) (cA_0 : W.cell? ⟨gA, 0, none⟩ = some (.int .u8 (x.kind : Int))) (cA_1 : W.cell? ⟨gA, 1, none⟩ = some (.int .u8 (x.a : Int))) (cA_2 : W.cell? ⟨gA, 2, none⟩ = some (.int .u8 (x.b : Int))) (cA_3 : W.cell? ⟨gA, 3, none⟩ = some (.int .i64 x.site)) (cA_4 : W.cell? ⟨gA, 4, none⟩ = some (.string x.key)) (cA_5 : W.cell? ⟨gA, 5, none⟩ = some (.string x.val))
    (hgR : gR < W.heap.size) (cR_0 : W.cell? ⟨gR, pa * 9, none⟩ = some (.int .i64 (ta.T.seen 0 : Int))) (cR_1 : W.cell? ⟨gR, pa * 9 + 1, none⟩ = some (.int .i64 (ta.T.seen 1 : Int))) (cR_2 : W.cell? ⟨gR, pa * 9 + 2, none⟩ = some (.int .i64 (ta.T.seen 2 : Int))) (cR_3 : W.cell? ⟨gR, pa * 9 + 3, none⟩ = some (.int .i64 (ta.T.seen 3 : Int))) (cR_4 : W.cell? ⟨gR, pa * 9 + 4, none⟩ = some (.int .i64 (ta.T.seen 4 : Int))) (cR_5 : W.cell? ⟨gR, pa * 9 + 5, none⟩ = some (.int .i64 (ta.T.seen 5 : Int))) (cR_6 : W.cell? ⟨gR, pa * 9 + 6, none⟩ = some (.int .i64 (ta.T.seen 6 : Int))) (cR_7 : W.cell? ⟨gR, pa * 9 + 7, none⟩ = some (.int .i64 (ta.T.seen 7 : Int))) (cR_8 : W.cell? ⟨gR, pa * 9 + 8, none⟩ = some (.slice ra.ao ra.n ra.c))
    (hmU : a0.eval (.tmp 1) = .slice (some ⟨gR, 0, none⟩) nn cq)
    (hmI : a0.eval (.tmp 9) = .int .i64 (pa : Int))
    (hpa : pa < nn) (hnn : nn ≤ 1000) (hm : m ≤ 10000)
    (rA : HeldR W m ta.T ra.ao ra.n ra.c)
    (HP : Hid (∀ w, HeldR w m ta.T ra.ao ra.n ra.c → Calls Try.prog 24 #[.agg #[.int .i64 (ta.T.seen 0 : Int), .int .i64 (ta.T.seen 1 : Int), .int .i64 (ta.T.seen 2 : Int), .int .i64 (ta.T.seen 3 : Int), .int .i64 (ta.T.seen 4 : Int), .int .i64 (ta.T.seen 5 : Int), .int .i64 (ta.T.seen 6 : Int), .int .i64 (ta.T.seen 7 : Int), .slice ra.ao ra.n ra.c], .int .i64 x.site, .string x.key, .string x.val] w fun e w' => ∃ b o l c, e = .returned (.tuple #[.agg #[.int .i64 (b.seen 0 : Int), .int .i64 (b.seen 1 : Int), .int .i64 (b.seen 2 : Int), .int .i64 (b.seen 3 : Int), .int .i64 (b.seen 4 : Int), .int .i64 (b.seen 5 : Int), .int .i64 (b.seen 6 : Int), .int .i64 (b.seen 7 : Int), .slice o l c], .int .i64 er]) ∧ Hid (b = U) ∧ HeldR w' (m + 1) b o l c ∧ Below w.heap.size w w'))
    (hend : ∀ w b14 b12 o12 l12 c12 d10 d11, Below W.heap.size W w → W.heap.size ≤ b14 → Box w b14 36 #[.int .i64 (b12.seen 0 : Int), .int .i64 (b12.seen 1 : Int), .int .i64 (b12.seen 2 : Int), .int .i64 (b12.seen 3 : Int), .int .i64 (b12.seen 4 : Int), .int .i64 (b12.seen 5 : Int), .int .i64 (b12.seen 6 : Int), .int .i64 (b12.seen 7 : Int), .slice o12 l12 c12] → b12 = (U) → HeldR w (m + 1) b12 o12 l12 c12 → 
      Q .normal (puts a0 [(95, .slice (some ⟨gR, 0, none⟩) nn cq), (96, .int .i64 (pa : Int)), (97, .pointer (some ⟨gR, pa * 9, none⟩)), (98, .agg #[.int .i64 (ta.T.seen 0 : Int), .int .i64 (ta.T.seen 1 : Int), .int .i64 (ta.T.seen 2 : Int), .int .i64 (ta.T.seen 3 : Int), .int .i64 (ta.T.seen 4 : Int), .int .i64 (ta.T.seen 5 : Int), .int .i64 (ta.T.seen 6 : Int), .int .i64 (ta.T.seen 7 : Int), .slice ra.ao ra.n ra.c]), (99, .pointer (some ⟨gA, 3, none⟩)), (100, .int .i64 x.site), (101, .pointer (some ⟨gA, 4, none⟩)), (102, .string x.key), (103, .pointer (some ⟨gA, 5, none⟩)), (104, .string x.val), (105, d10), (94, d11), (106, .agg #[.int .i64 (b12.seen 0 : Int), .int .i64 (b12.seen 1 : Int), .int .i64 (b12.seen 2 : Int), .int .i64 (b12.seen 3 : Int), .int .i64 (b12.seen 4 : Int), .int .i64 (b12.seen 5 : Int), .int .i64 (b12.seen 6 : Int), .int .i64 (b12.seen 7 : Int), .slice o12 l12 c12]), (107, .int .i64 er), (17, .pointer (some ⟨b14, 0, none⟩)), (18, .int .i64 er)]) w) :
    (Code.region id #[o0, o1, o2, o3, o4, o5, o6, o7, o8, o9, o10, o11, o12, o13, o14, o15, o16] true).wp Try.prog Q a0 W := by
  refine Shape.region made_putRS (fun i v w => (fun (v : Value) => (match i with | 0 => v = .slice (some ⟨gR, 0, none⟩) nn cq | 1 => v = .int .i64 (pa : Int) | 2 => v = .pointer (some ⟨gR, pa * 9, none⟩) | 3 => v = .agg #[.int .i64 (ta.T.seen 0 : Int), .int .i64 (ta.T.seen 1 : Int), .int .i64 (ta.T.seen 2 : Int), .int .i64 (ta.T.seen 3 : Int), .int .i64 (ta.T.seen 4 : Int), .int .i64 (ta.T.seen 5 : Int), .int .i64 (ta.T.seen 6 : Int), .int .i64 (ta.T.seen 7 : Int), .slice ra.ao ra.n ra.c] | 4 => v = .pointer (some ⟨gA, 3, none⟩) | 5 => v = .int .i64 x.site | 6 => v = .pointer (some ⟨gA, 4, none⟩) | 7 => v = .string x.key | 8 => v = .pointer (some ⟨gA, 5, none⟩) | 9 => v = .string x.val | 10 => IsRE (U) (m + 1) (er) v w | 11 => IsRE (U) (m + 1) (er) v w | 12 => IsR (U) (m + 1) v w | 13 => v = .int .i64 er | 16 => v = .int .i64 er | _ => True : Prop)) (v i)) (by kernel_rfl) hok
    (fun i v v' w _ hj hΦ => by rw [← hj i (.inl rfl)]; exact hΦ) ?stab ?val ?box ?put rfl ?fin
  case stab =>
    intro i v hi
    match i with
    | 0 => exact Stable.const _ _
    | 1 => exact Stable.const _ _
    | 2 => exact Stable.const _ _
    | 3 => exact Stable.const _ _
    | 4 => exact Stable.const _ _
    | 5 => exact Stable.const _ _
    | 6 => exact Stable.const _ _
    | 7 => exact Stable.const _ _
    | 8 => exact Stable.const _ _
    | 9 => exact Stable.const _ _
    | 10 => exact Stable.isRE _ _ _ _ _
    | 11 => exact Stable.isRE _ _ _ _ _
    | 12 => exact Stable.isR _ _ _ _
    | 13 => exact Stable.const _ _
    | 14 => exact Stable.const _ _
    | 15 => exact Stable.const _ _
    | 16 => exact Stable.const _ _
    | i + 17 => exact Stable.const _ _
  case val =>
    intro i o ho hv a w hA hb hz hn K' hK
    have hw := below_undrew hb
    have erA : a.eval (.tmp 5) = .pointer (some ⟨gA, 0, none⟩) := (hA.eval (show 5 ∉ made_putRS.slots 17 by decide)).trans hrA
    have kA_0 := (hb.cell (p := ⟨gA, 0, none⟩) hgA).trans cA_0
    have kA_1 := (hb.cell (p := ⟨gA, 1, none⟩) hgA).trans cA_1
    have kA_2 := (hb.cell (p := ⟨gA, 2, none⟩) hgA).trans cA_2
    have kA_3 := (hb.cell (p := ⟨gA, 3, none⟩) hgA).trans cA_3
    have kA_4 := (hb.cell (p := ⟨gA, 4, none⟩) hgA).trans cA_4
    have kA_5 := (hb.cell (p := ⟨gA, 5, none⟩) hgA).trans cA_5
    have kR_0 := (hb.cell (p := ⟨gR, pa * 9, none⟩) hgR).trans cR_0
    have kR_1 := (hb.cell (p := ⟨gR, pa * 9 + 1, none⟩) hgR).trans cR_1
    have kR_2 := (hb.cell (p := ⟨gR, pa * 9 + 2, none⟩) hgR).trans cR_2
    have kR_3 := (hb.cell (p := ⟨gR, pa * 9 + 3, none⟩) hgR).trans cR_3
    have kR_4 := (hb.cell (p := ⟨gR, pa * 9 + 4, none⟩) hgR).trans cR_4
    have kR_5 := (hb.cell (p := ⟨gR, pa * 9 + 5, none⟩) hgR).trans cR_5
    have kR_6 := (hb.cell (p := ⟨gR, pa * 9 + 6, none⟩) hgR).trans cR_6
    have kR_7 := (hb.cell (p := ⟨gR, pa * 9 + 7, none⟩) hgR).trans cR_7
    have kR_8 := (hb.cell (p := ⟨gR, pa * 9 + 8, none⟩) hgR).trans cR_8
    have emU : a.eval (.tmp 1) = .slice (some ⟨gR, 0, none⟩) nn cq := (hA.eval (show 1 ∉ made_putRS.slots 17 by decide)).trans hmU
    have emI : a.eval (.tmp 9) = .int .i64 (pa : Int) := (hA.eval (show 9 ∉ made_putRS.slots 17 by decide)).trans hmI
    match i, ho, hv with
    | 0, ho, _ =>
      have ho' : o0 = o := by simpa using ho
      subst ho'
      exact wp_value (run_move h0 a w) (hK _ _ (Below.refl _ _) (by simp [updV, emU]))
    | 1, ho, _ =>
      have ho' : o1 = o := by simpa using ho
      subst ho'
      exact wp_value (run_move h1 a w) (hK _ _ (Below.refl _ _) (by simp [updV, emI]))
    | 2, ho, _ =>
      have ho' : o2 = o := by simpa using ho
      subst ho'
      have e1 : a.eval (.tmp 95) = .slice (some ⟨gR, 0, none⟩) nn cq := hn 0 (by simp [made_putRS]) rfl
      have e2 : a.eval (.tmp 96) = .int .i64 (pa : Int) := hn 1 (by simp [made_putRS]) rfl
      refine wp_value (v := .pointer (some ⟨gR, pa * 9, none⟩)) (w' := w) ?_ (hK _ _ (Below.refl _ _) (by simp [updV]))
      unfold execOp
      rw [h2]
      dsimp only
      rw [e1, e2]
      simp [go_sem, at_runR pa nn gR cq hpa hnn w]
    | 3, ho, _ =>
      have ho' : o3 = o := by simpa using ho
      subst ho'
      have e : a.eval (.tmp 97) = .pointer (some ⟨gR, pa * 9, none⟩) := hn 2 (by simp [made_putRS]) rfl
      refine wp_value (v := .agg #[.int .i64 (ta.T.seen 0 : Int), .int .i64 (ta.T.seen 1 : Int), .int .i64 (ta.T.seen 2 : Int), .int .i64 (ta.T.seen 3 : Int), .int .i64 (ta.T.seen 4 : Int), .int .i64 (ta.T.seen 5 : Int), .int .i64 (ta.T.seen 6 : Int), .int .i64 (ta.T.seen 7 : Int), .slice ra.ao ra.n ra.c]) (w' := w) ?_ (hK _ _ (Below.refl _ _) (by simp [updV]))
      unfold execOp
      rw [h3]
      dsimp only
      rw [e]
      simp [go_sem, kR_0, kR_1, kR_2, kR_3, kR_4, kR_5, kR_6, kR_7, kR_8]
    | 4, ho, _ =>
      have ho' : o4 = o := by simpa using ho
      subst ho'
      refine wp_value (v := .pointer (some ⟨gA, 3, none⟩)) (w' := w) ?_ (hK _ _ (Below.refl _ _) (by simp [updV]))
      unfold execOp
      rw [h4]
      dsimp only
      rw [erA]
      simp [go_sem]
    | 5, ho, _ =>
      have ho' : o5 = o := by simpa using ho
      subst ho'
      have e : a.eval (.tmp 99) = .pointer (some ⟨gA, 3, none⟩) := hn 4 (by simp [made_putRS]) rfl
      refine wp_value (v := .int .i64 x.site) (w' := w) ?_ (hK _ _ (Below.refl _ _) (by simp [updV]))
      unfold execOp
      rw [h5]
      dsimp only
      rw [e]
      simp [go_sem, kA_0, kA_1, kA_2, kA_3, kA_4, kA_5]
    | 6, ho, _ =>
      have ho' : o6 = o := by simpa using ho
      subst ho'
      refine wp_value (v := .pointer (some ⟨gA, 4, none⟩)) (w' := w) ?_ (hK _ _ (Below.refl _ _) (by simp [updV]))
      unfold execOp
      rw [h6]
      dsimp only
      rw [erA]
      simp [go_sem]
    | 7, ho, _ =>
      have ho' : o7 = o := by simpa using ho
      subst ho'
      have e : a.eval (.tmp 101) = .pointer (some ⟨gA, 4, none⟩) := hn 6 (by simp [made_putRS]) rfl
      refine wp_value (v := .string x.key) (w' := w) ?_ (hK _ _ (Below.refl _ _) (by simp [updV]))
      unfold execOp
      rw [h7]
      dsimp only
      rw [e]
      simp [go_sem, kA_0, kA_1, kA_2, kA_3, kA_4, kA_5]
    | 8, ho, _ =>
      have ho' : o8 = o := by simpa using ho
      subst ho'
      refine wp_value (v := .pointer (some ⟨gA, 5, none⟩)) (w' := w) ?_ (hK _ _ (Below.refl _ _) (by simp [updV]))
      unfold execOp
      rw [h8]
      dsimp only
      rw [erA]
      simp [go_sem]
    | 9, ho, _ =>
      have ho' : o9 = o := by simpa using ho
      subst ho'
      have e : a.eval (.tmp 103) = .pointer (some ⟨gA, 5, none⟩) := hn 8 (by simp [made_putRS]) rfl
      refine wp_value (v := .string x.val) (w' := w) ?_ (hK _ _ (Below.refl _ _) (by simp [updV]))
      unfold execOp
      rw [h9]
      dsimp only
      rw [e]
      simp [go_sem, kA_0, kA_1, kA_2, kA_3, kA_4, kA_5]
    | 10, ho, _ =>
      have ho' : o10 = o := by simpa using ho
      subst ho'
      have e3 : a.eval (.tmp 98) = .agg #[.int .i64 (ta.T.seen 0 : Int), .int .i64 (ta.T.seen 1 : Int), .int .i64 (ta.T.seen 2 : Int), .int .i64 (ta.T.seen 3 : Int), .int .i64 (ta.T.seen 4 : Int), .int .i64 (ta.T.seen 5 : Int), .int .i64 (ta.T.seen 6 : Int), .int .i64 (ta.T.seen 7 : Int), .slice ra.ao ra.n ra.c] := hn 3 (by simp [made_putRS]) rfl
      have e5 : a.eval (.tmp 100) = .int .i64 x.site := hn 5 (by simp [made_putRS]) rfl
      have e7 : a.eval (.tmp 102) = .string x.key := hn 7 (by simp [made_putRS]) rfl
      have e9 : a.eval (.tmp 104) = .string x.val := hn 9 (by simp [made_putRS]) rfl
      refine wp_call (run_call Try.func24 (by kernel_rfl) rfl h10 a w) ?_ (fun v w' hb' hφ => hK v w' hb' (by simpa [updV] using hφ))
      have em : Array.map a.eval #[Operand.tmp 98, Operand.tmp 100, Operand.tmp 102, Operand.tmp 104] = #[a.eval (.tmp 98), a.eval (.tmp 100), a.eval (.tmp 102), a.eval (.tmp 104)] := by first | (simp only [List.map_toArray, List.map_cons, List.map_nil]; done) | (simp only [List.map_toArray, List.map_cons, List.map_nil]; rfl) | rfl
      rw [em, e3, e5, e7, e9]
      exact (HP.out _ (rA.keep hw)).mono fun e w h => outRE h
    | 11, ho, _ =>
      have ho' : o11 = o := by simpa using ho
      subst ho'
      have e : IsRE (U) (m + 1) (er) (a.eval (.tmp 105)) w := hn 10 (by simp [made_putRS]) rfl
      exact wp_value (run_move h11 a w) (hK _ _ (Below.refl _ _) (by simpa [updV] using e))
    | 12, ho, _ =>
      have ho' : o12 = o := by simpa using ho
      subst ho'
      obtain ⟨b11, o11, l11, c11, e11, x11, y11⟩ : IsRE (U) (m + 1) (er) (a.eval (.tmp 94)) w := hn 11 (by simp [made_putRS]) rfl
      exact wp_value (run_extract h12 e11 rfl w) (hK _ _ (Below.refl _ _) (by simp only [updV, if_true]; exact ⟨b11, o11, l11, c11, rfl, x11, y11⟩))
    | 13, ho, _ =>
      have ho' : o13 = o := by simpa using ho
      subst ho'
      obtain ⟨b11, o11, l11, c11, e11, x11, y11⟩ : IsRE (U) (m + 1) (er) (a.eval (.tmp 94)) w := hn 11 (by simp [made_putRS]) rfl
      exact wp_value (run_extract h13 e11 rfl w) (hK _ _ (Below.refl _ _) (by simp [updV]))
    | 16, ho, _ =>
      have ho' : o16 = o := by simpa using ho
      subst ho'
      have e : a.eval (.tmp 107) = .int .i64 er := hn 13 (by simp [made_putRS]) rfl
      exact wp_value (run_assign h16 a w) (hK _ _ (Below.refl _ _) (by simp [updV, e]))
    | 14, _, hv => cases hv
    | 15, _, hv => cases hv
    | i + 17, ho, _ => simp at ho
  case box =>
    intro i o T z ho hk a w
    match i, ho, hk with
    | 0, _, hk => cases hk
    | 1, _, hk => cases hk
    | 2, _, hk => cases hk
    | 3, _, hk => cases hk
    | 4, _, hk => cases hk
    | 5, _, hk => cases hk
    | 6, _, hk => cases hk
    | 7, _, hk => cases hk
    | 8, _, hk => cases hk
    | 9, _, hk => cases hk
    | 10, _, hk => cases hk
    | 11, _, hk => cases hk
    | 12, _, hk => cases hk
    | 13, _, hk => cases hk
    | 14, ho, hk =>
      have ho' : o14 = o := by simpa using ho
      subst ho'; cases hk; unfold execOp; rw [h14]; simp [go_sem]
    | 15, _, hk => cases hk
    | 16, _, hk => cases hk
    | i + 17, ho, _ => simp at ho
  case put =>
    intro i o p' s' T z ho hk hp a w b hva hφ hbx
    match i, ho, hk with
    | 0, _, hk => cases hk
    | 1, _, hk => cases hk
    | 2, _, hk => cases hk
    | 3, _, hk => cases hk
    | 4, _, hk => cases hk
    | 5, _, hk => cases hk
    | 6, _, hk => cases hk
    | 7, _, hk => cases hk
    | 8, _, hk => cases hk
    | 9, _, hk => cases hk
    | 10, _, hk => cases hk
    | 11, _, hk => cases hk
    | 12, _, hk => cases hk
    | 13, _, hk => cases hk
    | 14, _, hk => cases hk
    | 15, ho, hk =>
      have ho' : o15 = o := by simpa using ho
      subst ho'; cases hk; cases hp
      obtain ⟨b12, o12, l12, c12, e12, x12, y12⟩ := hφ
      have q1 : a.eval (.tmp 106) = .agg #[.int .i64 (b12.seen 0 : Int), .int .i64 (b12.seen 1 : Int), .int .i64 (b12.seen 2 : Int), .int .i64 (b12.seen 3 : Int), .int .i64 (b12.seen 4 : Int), .int .i64 (b12.seen 5 : Int), .int .i64 (b12.seen 6 : Int), .int .i64 (b12.seen 7 : Int), .slice o12 l12 c12] := e12
      have q2 : a.eval (.tmp 17) = .pointer (some ⟨b, 0, none⟩) := hva
      have u0 := hbx.cell 0
      have f0 := hbx.frozen 0
      have u1 := hbx.cell 1
      have f1 := hbx.frozen 1
      have u2 := hbx.cell 2
      have f2 := hbx.frozen 2
      have u3 := hbx.cell 3
      have f3 := hbx.frozen 3
      have u4 := hbx.cell 4
      have f4 := hbx.frozen 4
      have u5 := hbx.cell 5
      have f5 := hbx.frozen 5
      have u6 := hbx.cell 6
      have f6 := hbx.frozen 6
      have u7 := hbx.cell 7
      have f7 := hbx.frozen 7
      have u8 := hbx.cell 8
      have f8 := hbx.frozen 8
      refine ⟨[.int .i64 (b12.seen 0 : Int), .int .i64 (b12.seen 1 : Int), .int .i64 (b12.seen 2 : Int), .int .i64 (b12.seen 3 : Int), .int .i64 (b12.seen 4 : Int), .int .i64 (b12.seen 5 : Int), .int .i64 (b12.seen 6 : Int), .int .i64 (b12.seen 7 : Int), .slice o12 l12 c12], e12, rfl, by simp [isInt], ?_⟩
      unfold execOp; rw [h15]
      dsimp only
      rw [q1, q2]
      simp [go_sem, u0, f0, u1, f1, u2, f2, u3, f3, u4, f4, u5, f5, u6, f6, u7, f7, u8, f8, setFrom]
    | 16, _, hk => cases hk
    | i + 17, ho, _ => simp at ho
  case fin =>
    intro a w blk hI
    have n8 : (#[o0, o1, o2, o3, o4, o5, o6, o7, o8, o9, o10, o11, o12, o13, o14, o15, o16] : Array Oper).size = 17 := rfl
    rw [n8] at hI
    have hf := hI.agree.form
    have e0 : a.eval (.tmp 95) = .slice (some ⟨gR, 0, none⟩) nn cq := hI.vals 0 (by decide) (by decide) rfl
    have e1 : a.eval (.tmp 96) = .int .i64 (pa : Int) := hI.vals 1 (by decide) (by decide) rfl
    have e2 : a.eval (.tmp 97) = .pointer (some ⟨gR, pa * 9, none⟩) := hI.vals 2 (by decide) (by decide) rfl
    have e3 : a.eval (.tmp 98) = .agg #[.int .i64 (ta.T.seen 0 : Int), .int .i64 (ta.T.seen 1 : Int), .int .i64 (ta.T.seen 2 : Int), .int .i64 (ta.T.seen 3 : Int), .int .i64 (ta.T.seen 4 : Int), .int .i64 (ta.T.seen 5 : Int), .int .i64 (ta.T.seen 6 : Int), .int .i64 (ta.T.seen 7 : Int), .slice ra.ao ra.n ra.c] := hI.vals 3 (by decide) (by decide) rfl
    have e4 : a.eval (.tmp 99) = .pointer (some ⟨gA, 3, none⟩) := hI.vals 4 (by decide) (by decide) rfl
    have e5 : a.eval (.tmp 100) = .int .i64 x.site := hI.vals 5 (by decide) (by decide) rfl
    have e6 : a.eval (.tmp 101) = .pointer (some ⟨gA, 4, none⟩) := hI.vals 6 (by decide) (by decide) rfl
    have e7 : a.eval (.tmp 102) = .string x.key := hI.vals 7 (by decide) (by decide) rfl
    have e8 : a.eval (.tmp 103) = .pointer (some ⟨gA, 5, none⟩) := hI.vals 8 (by decide) (by decide) rfl
    have e9 : a.eval (.tmp 104) = .string x.val := hI.vals 9 (by decide) (by decide) rfl
    obtain ⟨b12, o12, l12, c12, e12, x12, y12⟩ : IsR (U) (m + 1) (a.eval (.tmp 106)) w := hI.vals 12 (by decide) (by decide) rfl
    have e13 : a.eval (.tmp 107) = .int .i64 er := hI.vals 13 (by decide) (by decide) rfl
    have e16 : a.eval (.tmp 18) = .int .i64 er := hI.vals 16 (by decide) (by decide) rfl
    obtain ⟨p14, r14, _, k14⟩ := hI.boxes 14 36 #[.int .i64 0, .int .i64 0, .int .i64 0, .int .i64 0, .int .i64 0, .int .i64 0, .int .i64 0, .int .i64 0, .slice none 0 0] (by decide) (by decide) rfl
    obtain ⟨us14, i14, _, _, j14⟩ := k14 (show (15 : Nat) < 17 by decide)
    have y_14 : a.eval (.tmp 106) = .agg us14.toArray := i14
    rw [e12] at y_14
    cases y_14
    have e14 : a.eval (.tmp 17) = .pointer (some ⟨blk 14, 0, none⟩) := p14
    have hsl : made_putRS.slots 17 = [95, 96, 97, 98, 99, 100, 101, 102, 103, 104, 105, 94, 106, 107, 17, 18] := rfl
    rw [hsl] at hf
    simp only [List.map_cons, List.map_nil, e0, e1, e2, e3, e4, e5, e6, e7, e8, e9, e12, e13, e16, e14] at hf
    rw [hf]
    exact hend w (blk 14) b12 o12 l12 c12 _ _ (below_undrew hI.below) r14 j14 x12 y12
end Go.Proofs.Ytpghehckojdgeaa
