/- Part 7 of the contracts: SGrows, SGrowsW. -/
import Derived.Deep.Fields
import Derived.ChangeSame
import Derived.Test.YtkdbdocipijncaaPart6

/- SyncGrows, walked. (By gen_grows.py.) -/
set_option linter.unusedVariables false
set_option linter.unusedSimpArgs false
namespace Go.Proofs.Ytkdbdocipijncaa
open Go.ChangeShapes Go.WideShapes Go.RowKit Go.Joins Go.Deep Go.Shelf Go.Sort

theorem cell_six {w : World} {T : Nat} {a0 a1 a2 a3 a4 a5 : Value} {ty : TypeId} (h : w.heap[T]? = some (.cells #[a0, a1, a2, a3, a4, a5] ty (0, 0))) :
    w.cell? ⟨T, 0, none⟩ = some a0 ∧ w.cell? ⟨T, 1, none⟩ = some a1 ∧ w.cell? ⟨T, 2, none⟩ = some a2 ∧ w.cell? ⟨T, 3, none⟩ = some a3 ∧ w.cell? ⟨T, 4, none⟩ = some a4 ∧ w.cell? ⟨T, 5, none⟩ = some a5 := by
  refine ⟨?_, ?_, ?_, ?_, ?_, ?_⟩ <;> (simp only [World.cell?]; rw [h]; rfl)
theorem covT {W : World} {m : Nat} {T U : Tab} {ao ao' : Option Addr} {n n' : Nat} (c c' : Nat) (h : Held W m T ao n) (h' : Held W m U ao' n') (hm : m ≤ 40000) (e : Cov T U) :
    Calls Try.prog 22 #[.agg #[.int .i64 (T.seen 0 : Int), .int .i64 (T.seen 1 : Int), .int .i64 (T.seen 2 : Int), .int .i64 (T.seen 3 : Int), .int .i64 (T.seen 4 : Int), .int .i64 (T.seen 5 : Int), .int .i64 (T.seen 6 : Int), .int .i64 (T.seen 7 : Int), .slice ao n c], .agg #[.int .i64 (U.seen 0 : Int), .int .i64 (U.seen 1 : Int), .int .i64 (U.seen 2 : Int), .int .i64 (U.seen 3 : Int), .int .i64 (U.seen 4 : Int), .int .i64 (U.seen 5 : Int), .int .i64 (U.seen 6 : Int), .int .i64 (U.seen 7 : Int), .slice ao' n' c']] W fun e w' => e = .returned (.bool true) ∧ Below W.heap.size W w' := by
  have k := coversA c c' h h' hm
  rw [show sameT (merT T U) T = true from (sameT_iff (mer_ok h.ok h'.ok (Nat.le_refl _) (Nat.le_refl _)) h.ok).2 e] at k
  exact k
theorem gotK {W : World} {m : Nat} {T : Tab} {ao : Option Addr} {n : Nat} (c : Nat) (h : Held W m T ao n) (hm : m ≤ 40000) (k : ByteArray) (ss : List ByteArray) (hg : getL T.L k = ss) (l : Nat) (hl : ss.length = l) :
    Calls Try.prog 18 #[.agg #[.int .i64 (T.seen 0 : Int), .int .i64 (T.seen 1 : Int), .int .i64 (T.seen 2 : Int), .int .i64 (T.seen 3 : Int), .int .i64 (T.seen 4 : Int), .int .i64 (T.seen 5 : Int), .int .i64 (T.seen 6 : Int), .int .i64 (T.seen 7 : Int), .slice ao n c], .string k] W fun e w' => ∃ ao' c', e = .returned (.slice ao' l c') ∧ Sl w' ao' l ss ∧ Below W.heap.size W w' := by
  subst hl
  refine (getA c h hm k).mono ?_
  rintro e w' ⟨l, ao', c', ss', he, HS, hs, hb⟩
  rw [HS.out, hg] at hs
  have := hs.1
  subst this
  exact ⟨ao', c', he, hs, hb⟩
theorem putG {W : World} {m : Nat} {T : Tab} {ao : Option Addr} {n : Nat} (c : Nat) (h : Held W m T ao n) (hm : m ≤ 40000) (site : Int) (k v : ByteArray) :
    (∃ er : Int, er ≠ 0 ∧ Calls Try.prog 29 #[.agg #[.int .i64 (T.seen 0 : Int), .int .i64 (T.seen 1 : Int), .int .i64 (T.seen 2 : Int), .int .i64 (T.seen 3 : Int), .int .i64 (T.seen 4 : Int), .int .i64 (T.seen 5 : Int), .int .i64 (T.seen 6 : Int), .int .i64 (T.seen 7 : Int), .slice ao n c], .int .i64 site, .string k, .string v] W fun e w' => e = .returned (.tuple #[.agg #[.int .i64 0, .int .i64 0, .int .i64 0, .int .i64 0, .int .i64 0, .int .i64 0, .int .i64 0, .int .i64 0, .slice none 0 0], .int .i64 er]) ∧ Below W.heap.size W w') ∨ (∃ i : Nat, i < 8 ∧ site = (i : Int) ∧ (1 ≤ k.size ∧ k.size ≤ 64) ∧ v.size ≤ 64 ∧ room T.L k = true) := by
  by_cases hs : site < 0 ∨ 8 ≤ site
  · exact .inl ⟨80, by omega, put_site T.seen ao n c site k v W hs⟩
  · by_cases hk : (1 ≤ k.size ∧ k.size ≤ 64) ∧ v.size ≤ 64
    · obtain ⟨i, rfl⟩ := Int.eq_ofNat_of_zero_le (show 0 ≤ site by omega)
      have hi : i < 8 := by omega
      cases hr : room T.L k
      · exact .inl ⟨5, by omega, putA_full c h hm i hi k v hk.1 hk.2 hr⟩
      · exact .inr ⟨i, hi, rfl, hk.1, hk.2, rfl⟩
    · exact .inl ⟨2, by omega, put_arg T.seen ao n c site k v W (by omega) hk⟩
theorem eqZ (W : World) : Calls Try.prog 20 #[.agg #[.int .i64 0, .int .i64 0, .int .i64 0, .int .i64 0, .int .i64 0, .int .i64 0, .int .i64 0, .int .i64 0, .slice none 0 0], .agg #[.int .i64 0, .int .i64 0, .int .i64 0, .int .i64 0, .int .i64 0, .int .i64 0, .int .i64 0, .int .i64 0, .slice none 0 0]] W fun e w' => e = .returned (.bool true) ∧ Below W.heap.size W w' := by
  have k := equalA (m := 0) 0 0 (Held.none W) (Held.none W) (by omega)
  rw [(sameT_iff (Held.none W).ok (Held.none W).ok).2 rfl] at k
  exact k
theorem seenA {W : World} {T : Tab} {ao : Option Addr} {n : Nat} (c i : Nat) (hi : i < 8) (z : Int) (hz : (T.seen i : Int) = z) :
    Calls Try.prog 44 #[.agg #[.int .i64 (T.seen 0 : Int), .int .i64 (T.seen 1 : Int), .int .i64 (T.seen 2 : Int), .int .i64 (T.seen 3 : Int), .int .i64 (T.seen 4 : Int), .int .i64 (T.seen 5 : Int), .int .i64 (T.seen 6 : Int), .int .i64 (T.seen 7 : Int), .slice ao n c], .int .i64 (i : Int)] W fun r w' => r = .returned (.int .i64 z) ∧ Below W.heap.size W w' := by
  subst hz
  exact seen_in T.seen (.slice ao n c) rfl i hi W
theorem entA {W : World} {m : Nat} {T : Tab} {ao : Option Addr} {n : Nat} (c : Nat) (h : Held W m T ao n) (hm : m ≤ 40000) :
    Calls Try.prog 32 #[.agg #[.int .i64 (T.seen 0 : Int), .int .i64 (T.seen 1 : Int), .int .i64 (T.seen 2 : Int), .int .i64 (T.seen 3 : Int), .int .i64 (T.seen 4 : Int), .int .i64 (T.seen 5 : Int), .int .i64 (T.seen 6 : Int), .int .i64 (T.seen 7 : Int), .slice ao n c]] W fun e w' => ∃ a' c', e = .returned (.slice a' T.L.length c') ∧ El w' a' T.L.length T.L ∧ Below W.heap.size W w' := by
  have hl := h.len
  exact entries_any T.seen ao n c T.L W h.el (by omega)
theorem El.cast {w : World} {ao : Option Addr} {n : Nat} {xs ys : List Ent} (h : El w ao n xs) (e : xs = ys) : El w ao n ys := e ▸ h
theorem alikeG {w : World} {T8 T9 Tk : Tab} {k : ByteArray} {a8 a9 : Option Addr} (c8 c9 : Nat) (HT8 : Hid (T8 = remT Tk k)) (G6 : Hid ((remT Tk k).L = T9.L)) (hlen : T9.L.length ≤ 900000) (E8 : El w a8 T8.L.length T8.L) (E9 : El w a9 T9.L.length T9.L) :
    Calls Try.prog 45 #[.slice a8 T8.L.length c8, .slice a9 T9.L.length c9] w fun e w' => e = .returned (.bool true) ∧ Below w.heap.size w w' := by
  have e8 : T8.L = T9.L := (congrArg Tab.L HT8.out).trans G6.out
  refine alike_same _ _ _ _ _ _ T9.L w (E8.cast e8) E9 ?_
  rw [e8]
  exact hlen
theorem sl_oneG (W : World) (a : ByteArray) (t : TypeId) : Sl (W.alloc (.cells #[.string a] t)) (some ⟨W.heap.size, 0, none⟩) 1 [a] := by
  refine ⟨rfl, .inr ⟨W.heap.size, rfl, by simp, fun i hi => ?_⟩⟩
  have : i = 0 := by omega
  subst this
  simp
/-- the act and two tables in their boxes; and three -/
structure Gr2 (w : World) (m A B1 B2 : Nat) (kd aa ab site : Int) (key val : ByteArray) (ta td : Slot) : Prop where
  a : w.heap[A]? = some (.cells #[.int .u8 kd, .int .u8 aa, .int .u8 ab, .int .i64 site, .string key, .string val] 83 (0, 0))
  b1 : BoxAt w B1 ta
  h1 : Held w m ta.T ta.ao ta.n
  b2 : BoxAt w B2 td
  h2 : Held w m td.T td.ao td.n
theorem Gr2.keep {w w1 : World} {m A B1 B2 : Nat} {kd aa ab site : Int} {key val : ByteArray} {ta td : Slot} (h : Gr2 w m A B1 B2 kd aa ab site key val ta td) (hb : Below w.heap.size w w1) : Gr2 w1 m A B1 B2 kd aa ab site key val ta td :=
  ⟨row_keep hb h.a, h.b1.keep hb, h.h1.keep hb, h.b2.keep hb, h.h2.keep hb⟩
theorem Gr2.cells {w' : World} {m A B1 B2 : Nat} {kd aa ab site : Int} {key val : ByteArray} {ta td : Slot} (h : Gr2 w' m A B1 B2 kd aa ab site key val ta td) : w'.cell? ⟨A, 0, none⟩ = some (.int .u8 kd) ∧ w'.cell? ⟨A, 1, none⟩ = some (.int .u8 aa) ∧ w'.cell? ⟨A, 2, none⟩ = some (.int .u8 ab) ∧ w'.cell? ⟨A, 3, none⟩ = some (.int .i64 site) ∧ w'.cell? ⟨A, 4, none⟩ = some (.string key) ∧ w'.cell? ⟨A, 5, none⟩ = some (.string val) ∧ w'.cell? ⟨B1, 0, none⟩ = some (.int .i64 (ta.T.seen 0 : Int)) ∧ w'.cell? ⟨B1, 1, none⟩ = some (.int .i64 (ta.T.seen 1 : Int)) ∧ w'.cell? ⟨B1, 2, none⟩ = some (.int .i64 (ta.T.seen 2 : Int)) ∧ w'.cell? ⟨B1, 3, none⟩ = some (.int .i64 (ta.T.seen 3 : Int)) ∧ w'.cell? ⟨B1, 4, none⟩ = some (.int .i64 (ta.T.seen 4 : Int)) ∧ w'.cell? ⟨B1, 5, none⟩ = some (.int .i64 (ta.T.seen 5 : Int)) ∧ w'.cell? ⟨B1, 6, none⟩ = some (.int .i64 (ta.T.seen 6 : Int)) ∧ w'.cell? ⟨B1, 7, none⟩ = some (.int .i64 (ta.T.seen 7 : Int)) ∧ w'.cell? ⟨B1, 8, none⟩ = some (.slice ta.ao ta.n ta.c) ∧ w'.cell? ⟨B2, 0, none⟩ = some (.int .i64 (td.T.seen 0 : Int)) ∧ w'.cell? ⟨B2, 1, none⟩ = some (.int .i64 (td.T.seen 1 : Int)) ∧ w'.cell? ⟨B2, 2, none⟩ = some (.int .i64 (td.T.seen 2 : Int)) ∧ w'.cell? ⟨B2, 3, none⟩ = some (.int .i64 (td.T.seen 3 : Int)) ∧ w'.cell? ⟨B2, 4, none⟩ = some (.int .i64 (td.T.seen 4 : Int)) ∧ w'.cell? ⟨B2, 5, none⟩ = some (.int .i64 (td.T.seen 5 : Int)) ∧ w'.cell? ⟨B2, 6, none⟩ = some (.int .i64 (td.T.seen 6 : Int)) ∧ w'.cell? ⟨B2, 7, none⟩ = some (.int .i64 (td.T.seen 7 : Int)) ∧ w'.cell? ⟨B2, 8, none⟩ = some (.slice td.ao td.n td.c) := by
  obtain ⟨a0, a1, a2, a3, a4, a5⟩ := cell_six h.a
  obtain ⟨b0, b1, b2, b3, b4, b5, b6, b7, b8⟩ := cell_nine h.b1
  obtain ⟨c0, c1, c2, c3, c4, c5, c6, c7, c8⟩ := cell_nine h.b2
  exact ⟨a0, a1, a2, a3, a4, a5, b0, b1, b2, b3, b4, b5, b6, b7, b8, c0, c1, c2, c3, c4, c5, c6, c7, c8⟩
structure Gr3 (w : World) (m A B1 B2 B3 : Nat) (kd aa ab site : Int) (key val : ByteArray) (ta td te : Slot) : Prop where
  a : w.heap[A]? = some (.cells #[.int .u8 kd, .int .u8 aa, .int .u8 ab, .int .i64 site, .string key, .string val] 83 (0, 0))
  b1 : BoxAt w B1 ta
  h1 : Held w m ta.T ta.ao ta.n
  b2 : BoxAt w B2 td
  h2 : Held w m td.T td.ao td.n
  b3 : BoxAt w B3 te
  h3 : Held w m te.T te.ao te.n
theorem Gr3.keep {w w1 : World} {m A B1 B2 B3 : Nat} {kd aa ab site : Int} {key val : ByteArray} {ta td te : Slot} (h : Gr3 w m A B1 B2 B3 kd aa ab site key val ta td te) (hb : Below w.heap.size w w1) : Gr3 w1 m A B1 B2 B3 kd aa ab site key val ta td te :=
  ⟨row_keep hb h.a, h.b1.keep hb, h.h1.keep hb, h.b2.keep hb, h.h2.keep hb, h.b3.keep hb, h.h3.keep hb⟩
theorem Gr3.cells {w' : World} {m A B1 B2 B3 : Nat} {kd aa ab site : Int} {key val : ByteArray} {ta td te : Slot} (h : Gr3 w' m A B1 B2 B3 kd aa ab site key val ta td te) : w'.cell? ⟨A, 0, none⟩ = some (.int .u8 kd) ∧ w'.cell? ⟨A, 1, none⟩ = some (.int .u8 aa) ∧ w'.cell? ⟨A, 2, none⟩ = some (.int .u8 ab) ∧ w'.cell? ⟨A, 3, none⟩ = some (.int .i64 site) ∧ w'.cell? ⟨A, 4, none⟩ = some (.string key) ∧ w'.cell? ⟨A, 5, none⟩ = some (.string val) ∧ w'.cell? ⟨B1, 0, none⟩ = some (.int .i64 (ta.T.seen 0 : Int)) ∧ w'.cell? ⟨B1, 1, none⟩ = some (.int .i64 (ta.T.seen 1 : Int)) ∧ w'.cell? ⟨B1, 2, none⟩ = some (.int .i64 (ta.T.seen 2 : Int)) ∧ w'.cell? ⟨B1, 3, none⟩ = some (.int .i64 (ta.T.seen 3 : Int)) ∧ w'.cell? ⟨B1, 4, none⟩ = some (.int .i64 (ta.T.seen 4 : Int)) ∧ w'.cell? ⟨B1, 5, none⟩ = some (.int .i64 (ta.T.seen 5 : Int)) ∧ w'.cell? ⟨B1, 6, none⟩ = some (.int .i64 (ta.T.seen 6 : Int)) ∧ w'.cell? ⟨B1, 7, none⟩ = some (.int .i64 (ta.T.seen 7 : Int)) ∧ w'.cell? ⟨B1, 8, none⟩ = some (.slice ta.ao ta.n ta.c) ∧ w'.cell? ⟨B2, 0, none⟩ = some (.int .i64 (td.T.seen 0 : Int)) ∧ w'.cell? ⟨B2, 1, none⟩ = some (.int .i64 (td.T.seen 1 : Int)) ∧ w'.cell? ⟨B2, 2, none⟩ = some (.int .i64 (td.T.seen 2 : Int)) ∧ w'.cell? ⟨B2, 3, none⟩ = some (.int .i64 (td.T.seen 3 : Int)) ∧ w'.cell? ⟨B2, 4, none⟩ = some (.int .i64 (td.T.seen 4 : Int)) ∧ w'.cell? ⟨B2, 5, none⟩ = some (.int .i64 (td.T.seen 5 : Int)) ∧ w'.cell? ⟨B2, 6, none⟩ = some (.int .i64 (td.T.seen 6 : Int)) ∧ w'.cell? ⟨B2, 7, none⟩ = some (.int .i64 (td.T.seen 7 : Int)) ∧ w'.cell? ⟨B2, 8, none⟩ = some (.slice td.ao td.n td.c) ∧ w'.cell? ⟨B3, 0, none⟩ = some (.int .i64 (te.T.seen 0 : Int)) ∧ w'.cell? ⟨B3, 1, none⟩ = some (.int .i64 (te.T.seen 1 : Int)) ∧ w'.cell? ⟨B3, 2, none⟩ = some (.int .i64 (te.T.seen 2 : Int)) ∧ w'.cell? ⟨B3, 3, none⟩ = some (.int .i64 (te.T.seen 3 : Int)) ∧ w'.cell? ⟨B3, 4, none⟩ = some (.int .i64 (te.T.seen 4 : Int)) ∧ w'.cell? ⟨B3, 5, none⟩ = some (.int .i64 (te.T.seen 5 : Int)) ∧ w'.cell? ⟨B3, 6, none⟩ = some (.int .i64 (te.T.seen 6 : Int)) ∧ w'.cell? ⟨B3, 7, none⟩ = some (.int .i64 (te.T.seen 7 : Int)) ∧ w'.cell? ⟨B3, 8, none⟩ = some (.slice te.ao te.n te.c) := by
  obtain ⟨a0, a1, a2, a3, a4, a5⟩ := cell_six h.a
  obtain ⟨b0, b1, b2, b3, b4, b5, b6, b7, b8⟩ := cell_nine h.b1
  obtain ⟨c0, c1, c2, c3, c4, c5, c6, c7, c8⟩ := cell_nine h.b2
  obtain ⟨d0, d1, d2, d3, d4, d5, d6, d7, d8⟩ := cell_nine h.b3
  exact ⟨a0, a1, a2, a3, a4, a5, b0, b1, b2, b3, b4, b5, b6, b7, b8, c0, c1, c2, c3, c4, c5, c6, c7, c8, d0, d1, d2, d3, d4, d5, d6, d7, d8⟩


set_option maxRecDepth 100000 in
set_option maxHeartbeats 4000000 in
theorem gro_bad1 (ao : Option Addr) (la ca iN : Nat) (xs : List ActD) (kd aa ab site : Int) (key val : ByteArray) (W : World) (h : Acts W ao la xs) (hla : la ≤ 9223372036854775807) (hs : isShort xs la 60 = false) :
    Calls Try.prog 9 #[.slice ao la ca, .int .u8 (iN : Int), .agg #[.int .u8 kd, .int .u8 aa, .int .u8 ab, .int .i64 site, .string key, .string val]] W fun e w' => e = .returned (.bool true) ∧ Below W.heap.size W w' := by
  obtain ⟨V, hV⟩ : ∃ V, V = W.alloc (.cells #[.int .u8 kd, .int .u8 aa, .int .u8 ab, .int .i64 site, .string key, .string val] 83) := ⟨_, rfl⟩
  have BW : Hid (Below W.heap.size W V) := Lib.hid (by rw [hV]; exact box_below W _)
  have TD : Hid (V.heap[W.heap.size]? = some (.cells #[.int .u8 kd, .int .u8 aa, .int .u8 ab, .int .i64 site, .string key, .string val] 83 (0, 0))) := Lib.hid (by rw [hV]; exact heap_alloc_new _ _)
  have HV := Lib.hid hV
  clear hV
  have HA := Lib.hid (h.keep BW.out)
  have HL := Lib.hid hla
  clear h hla
  obtain ⟨s0, s1, s2, s3, s4, s5⟩ := cell_six TD.out
  go_enter Try.func9, Try.ntmps9
  go_upto_region 1 with fail
  rw [← HV.out]
  clear HV
  go_wp2_with (first | (go_at_call 13; refine (short_any ao la ca 60 xs _ HA.out HL.out (by omega)).mono ?_; rintro e w1 ⟨rfl, rfl⟩; rw [hs]) | (go_at_call 14; refine (awake_any _).mono ?_; rintro e w6 ⟨rfl, hb⟩; replace BW := Lib.hid (BW.out.trans (hb.mono BW.out.size)); clear hb))
  go_ret
  exact ⟨rfl, BW.out⟩


set_option maxRecDepth 100000 in
set_option maxHeartbeats 4000000 in
theorem gro_bad2 (ao : Option Addr) (la ca iN : Nat) (xs : List ActD) (kd aa ab site : Int) (key val : ByteArray) (W : World) (h : Acts W ao la xs) (hla : la ≤ 9223372036854775807) (hs : isShort xs la 60 = true) (hk : 200 < key.size) :
    Calls Try.prog 9 #[.slice ao la ca, .int .u8 (iN : Int), .agg #[.int .u8 kd, .int .u8 aa, .int .u8 ab, .int .i64 site, .string key, .string val]] W fun e w' => e = .returned (.bool true) ∧ Below W.heap.size W w' := by
  have q1 : decide ((200 : Int) < (key.size : Int)) = true := by simp; omega
  obtain ⟨V, hV⟩ : ∃ V, V = W.alloc (.cells #[.int .u8 kd, .int .u8 aa, .int .u8 ab, .int .i64 site, .string key, .string val] 83) := ⟨_, rfl⟩
  have BW : Hid (Below W.heap.size W V) := Lib.hid (by rw [hV]; exact box_below W _)
  have TD : Hid (V.heap[W.heap.size]? = some (.cells #[.int .u8 kd, .int .u8 aa, .int .u8 ab, .int .i64 site, .string key, .string val] 83 (0, 0))) := Lib.hid (by rw [hV]; exact heap_alloc_new _ _)
  have HV := Lib.hid hV
  clear hV
  have HA := Lib.hid (h.keep BW.out)
  have HL := Lib.hid hla
  clear h hla
  obtain ⟨s0, s1, s2, s3, s4, s5⟩ := cell_six TD.out
  go_enter Try.func9, Try.ntmps9
  go_upto_region 1 with fail
  rw [← HV.out]
  clear HV
  go_wp2_with (first | (go_at_call 13; refine (short_any ao la ca 60 xs _ HA.out HL.out (by omega)).mono ?_; rintro e w1 ⟨rfl, rfl⟩; rw [hs]) | (go_at_call 14; refine (awake_any _).mono ?_; rintro e w6 ⟨rfl, hb⟩; replace BW := Lib.hid (BW.out.trans (hb.mono BW.out.size)); clear hb))
  go_ret
  exact ⟨rfl, BW.out⟩


set_option maxRecDepth 100000 in
set_option maxHeartbeats 4000000 in
theorem gro_bad3 (ao : Option Addr) (la ca iN : Nat) (xs : List ActD) (kd aa ab site : Int) (key val : ByteArray) (W : World) (h : Acts W ao la xs) (hla : la ≤ 9223372036854775807) (hs : isShort xs la 60 = true) (hk : key.size ≤ 200) (hv : 200 < val.size) :
    Calls Try.prog 9 #[.slice ao la ca, .int .u8 (iN : Int), .agg #[.int .u8 kd, .int .u8 aa, .int .u8 ab, .int .i64 site, .string key, .string val]] W fun e w' => e = .returned (.bool true) ∧ Below W.heap.size W w' := by
  have q1 : decide ((200 : Int) < (key.size : Int)) = false := by simp; omega
  have q2 : decide ((200 : Int) < (val.size : Int)) = true := by simp; omega
  obtain ⟨V, hV⟩ : ∃ V, V = W.alloc (.cells #[.int .u8 kd, .int .u8 aa, .int .u8 ab, .int .i64 site, .string key, .string val] 83) := ⟨_, rfl⟩
  have BW : Hid (Below W.heap.size W V) := Lib.hid (by rw [hV]; exact box_below W _)
  have TD : Hid (V.heap[W.heap.size]? = some (.cells #[.int .u8 kd, .int .u8 aa, .int .u8 ab, .int .i64 site, .string key, .string val] 83 (0, 0))) := Lib.hid (by rw [hV]; exact heap_alloc_new _ _)
  have HV := Lib.hid hV
  clear hV
  have HA := Lib.hid (h.keep BW.out)
  have HL := Lib.hid hla
  clear h hla
  obtain ⟨s0, s1, s2, s3, s4, s5⟩ := cell_six TD.out
  go_enter Try.func9, Try.ntmps9
  go_upto_region 1 with fail
  rw [← HV.out]
  clear HV
  go_wp2_with (first | (go_at_call 13; refine (short_any ao la ca 60 xs _ HA.out HL.out (by omega)).mono ?_; rintro e w1 ⟨rfl, rfl⟩; rw [hs]) | (go_at_call 14; refine (awake_any _).mono ?_; rintro e w6 ⟨rfl, hb⟩; replace BW := Lib.hid (BW.out.trans (hb.mono BW.out.size)); clear hb))
  go_ret
  exact ⟨rfl, BW.out⟩


set_option maxRecDepth 100000 in
set_option maxHeartbeats 16000000 in
theorem gro_good (ao : Option Addr) (la ca iN : Nat) (xs : List ActD) (kd aa ab site : Int) (key val : ByteArray) (W : World) (h : Acts W ao la xs) (hl6 : la ≤ 60) (hi : iN ≤ 255) (hs : isShort xs la 60 = true) (hk : key.size ≤ 200) (hv : val.size ≤ 200) (hsite : InWord site) :
    Calls Try.prog 9 #[.slice ao la ca, .int .u8 (iN : Int), .agg #[.int .u8 kd, .int .u8 aa, .int .u8 ab, .int .i64 site, .string key, .string val]] W fun e w' => e = .returned (.bool true) ∧ Below W.heap.size W w' := by
  have hla : la ≤ 9223372036854775807 := by omega
  have b1 : (0 : Int) ≤ (iN : Int) := by omega
  have q1 : decide ((200 : Int) < (key.size : Int)) = false := by simp; omega
  have q2 : decide ((200 : Int) < (val.size : Int)) = false := by simp; omega
  obtain ⟨V, hV⟩ : ∃ V, V = W.alloc (.cells #[.int .u8 kd, .int .u8 aa, .int .u8 ab, .int .i64 site, .string key, .string val] 83) := ⟨_, rfl⟩
  have BW : Hid (Below W.heap.size W V) := Lib.hid (by rw [hV]; exact box_below W _)
  have TD : Hid (V.heap[W.heap.size]? = some (.cells #[.int .u8 kd, .int .u8 aa, .int .u8 ab, .int .i64 site, .string key, .string val] 83 (0, 0))) := Lib.hid (by rw [hV]; exact heap_alloc_new _ _)
  have HV := Lib.hid hV
  clear hV
  have HA := Lib.hid (h.keep BW.out)
  have HL := Lib.hid hla
  clear h hla
  obtain ⟨s0, s1, s2, s3, s4, s5⟩ := cell_six TD.out
  go_enter Try.func9, Try.ntmps9
  go_upto_region 1 with fail
  rw [← HV.out]
  clear HV
  go_upto_region 4 with (first | (go_at_call 13; refine (short_any ao la ca 60 xs _ HA.out HL.out (by omega)).mono ?_; rintro e w1 ⟨rfl, rfl⟩; rw [hs]) | (go_at_call 42; refine (tables_any ao la ca xs _ HA.out (by omega)).mono ?_; rintro e w1 ⟨g, n, cap, l, rfl, ht, hn, hb⟩; have HT := Lib.hid ht; have HB := Lib.hid hb; clear ht hb))
  clear s0 s1 s2 s3 s4 s5 q1 q2
  have hpos := HT.out.pos
  obtain ⟨pa, hpa⟩ : ∃ pa, pa = iN % n := ⟨_, rfl⟩
  have hpan : pa < n := by rw [hpa]; exact Nat.mod_lt _ (by omega)
  obtain ⟨ta, hta⟩ : ∃ ta, ta = l[pa]! := ⟨_, rfl⟩
  have A1 := HT.out.at hpan
  rw [← hta] at A1
  have J1 := A1.2.1
  obtain ⟨p0, p1, p2, p3, p4, p5, p6, p7, p8⟩ := A1.1
  have k1 : (iN : Int).tmod (n : Int) = (pa : Int) := by rw [hpa, Int.tmod_eq_emod_of_nonneg (by omega)]; rfl
  have e1 : IntKind.i64.wrap (pa : Int) = (pa : Int) := IntWalk.i64_in _ (by omega)
  have e4 : IntKind.i64.wrap (iN : Int) = (iN : Int) := IntWalk.i64_in _ (by omega)
  have k5 : (pa : Int) < (n : Int) := by omega
  have j5 : (0 : Int) ≤ (pa : Int) := by omega
  have k9 : ¬ (n : Int) = 0 := by omega
  have k9c : ¬ n = 0 := by omega
  clear hpa hta A1 hpos hpan
  go_upto_region 5 with fail
  clear p0 p1 p2 p3 p4 p5 p6 p7 p8 k1 e1 e4 k5 j5 k9 k9c
  obtain ⟨V1, hV1⟩ : ∃ V1, V1 = w1.alloc (.cells #[.int .i64 (ta.T.seen 0 : Int), .int .i64 (ta.T.seen 1 : Int), .int .i64 (ta.T.seen 2 : Int), .int .i64 (ta.T.seen 3 : Int), .int .i64 (ta.T.seen 4 : Int), .int .i64 (ta.T.seen 5 : Int), .int .i64 (ta.T.seen 6 : Int), .int .i64 (ta.T.seen 7 : Int), .slice ta.ao ta.n ta.c] 34) := ⟨_, rfl⟩
  have X1 : BoxAt V1 w1.heap.size ta := by rw [hV1]; exact heap_alloc_new _ _
  replace J1 : Held V1 la ta.T ta.ao ta.n := by rw [hV1]; exact J1.keep (box_below _ _)
  have BV1 : Below V.heap.size V V1 := by rw [hV1]; exact below_then HB.out (box_below _ _)
  replace BW := Lib.hid (BW.out.trans (BV1.mono BW.out.size))
  replace TD := Lib.hid (row_keep BV1 TD.out)
  rw [← hV1]
  clear hV1 BV1 HB HT HA
  generalize w1.heap.size = D1 at X1 ⊢
  have le : la ≤ 40000 := by omega
  have le1 : la + 1 ≤ 40000 := by omega
  obtain ⟨s0, s1, s2, s3, s4, s5⟩ := cell_six TD.out
  obtain ⟨p0, p1, p2, p3, p4, p5, p6, p7, p8⟩ := cell_nine X1
  go_upto_region 6 with (go_at_call 43; refine (removeA ta.c J1 le key).mono ?_; rintro e w2 ⟨T2, a2, n2, c2, rfl, HT2, hh, hb⟩)
  clear s0 s1 s2 s3 s4 s5 p0 p1 p2 p3 p4 p5 p6 p7 p8
  obtain ⟨V2, hV2⟩ : ∃ V2, V2 = w2.alloc (.cells #[.int .i64 (T2.seen 0 : Int), .int .i64 (T2.seen 1 : Int), .int .i64 (T2.seen 2 : Int), .int .i64 (T2.seen 3 : Int), .int .i64 (T2.seen 4 : Int), .int .i64 (T2.seen 5 : Int), .int .i64 (T2.seen 6 : Int), .int .i64 (T2.seen 7 : Int), .slice a2 n2 c2] 34) := ⟨_, rfl⟩
  have BV2 : Below V1.heap.size V1 V2 := by rw [hV2]; exact below_then hb (box_below _ _)
  have F : Gr2 V2 la W.heap.size D1 w2.heap.size kd aa ab site key val ta ⟨T2, a2, n2, c2⟩ := ⟨row_keep BV2 TD.out, X1.keep BV2, J1.keep BV2, by rw [hV2]; exact heap_alloc_new _ _, by rw [hV2]; exact hh.keep (box_below _ _)⟩
  replace BW := Lib.hid (BW.out.trans (BV2.mono BW.out.size))
  have G0 : Hid ((Slot.mk T2 a2 n2 c2).T = remT ta.T key) := HT2
  rw [← hV2]
  clear hV2 BV2 TD X1 J1 hb hh HT2
  generalize w2.heap.size = D2 at F ⊢
  generalize (Slot.mk T2 a2 n2 c2) = td at F G0
  have G1 : Hid (Cov td.T ta.T) := Lib.hid (by rw [G0.out]; exact rem_cov F.h1.ok key)
  have G2 : Hid (getL td.T.L key = []) := Lib.hid (by rw [G0.out]; exact get_rem ta.T key)
  obtain ⟨x0, x1, x2, x3, x4, x5, x6, x7, x8, x9, x10, x11, x12, x13, x14, x15, x16, x17, x18, x19, x20, x21, x22, x23⟩ := F.cells
  go_upto_region 8 with (first | (go_at_call 22; (with_reducible refine (covT td.c ta.c F.h2 F.h1 le G1.out).mono ?_); rintro e w6 ⟨rfl, hb⟩; clear x0 x1 x2 x3 x4 x5 x6 x7 x8 x9 x10 x11 x12 x13 x14 x15 x16 x17 x18 x19 x20 x21 x22 x23; replace F := F.keep hb; replace BW := Lib.hid (BW.out.trans (hb.mono BW.out.size)); obtain ⟨x0, x1, x2, x3, x4, x5, x6, x7, x8, x9, x10, x11, x12, x13, x14, x15, x16, x17, x18, x19, x20, x21, x22, x23⟩ := F.cells; clear hb) | (go_at_call 18; (with_reducible refine (gotK td.c F.h2 le key [] G2.out 0 rfl).mono ?_); rintro e w6 ⟨ar, cr, rfl, hs6, hb⟩; clear hs6; clear x0 x1 x2 x3 x4 x5 x6 x7 x8 x9 x10 x11 x12 x13 x14 x15 x16 x17 x18 x19 x20 x21 x22 x23; replace F := F.keep hb; replace BW := Lib.hid (BW.out.trans (hb.mono BW.out.size)); obtain ⟨x0, x1, x2, x3, x4, x5, x6, x7, x8, x9, x10, x11, x12, x13, x14, x15, x16, x17, x18, x19, x20, x21, x22, x23⟩ := F.cells; clear hb))
  have HPG := putG ta.c F.h1 le site key val
  rcases HPG with ⟨er, her, hput⟩ | ⟨i, hi8, hsi, hkey, hval, hroom⟩
  · have her0 : (er == 0) = false := beq_eq_false_iff_ne.2 her
    have HP := Lib.hid hput
    clear hput her
    go_wp2_with (first
      | (go_at_call 29; refine HP.out.mono ?_; rintro e w7 ⟨rfl, hb⟩; replace BW := Lib.hid (BW.out.trans (hb.mono BW.out.size)); clear hb)
      | (go_at_call 20; refine (eqZ _).mono ?_; rintro e w8 ⟨rfl, hb⟩; replace BW := Lib.hid (below_then (below_then BW.out (box_below _ _)) hb); clear hb)
      | (go_at_call 14; refine (awake_any _).mono ?_; rintro e w6 ⟨rfl, hb⟩; replace BW := Lib.hid (BW.out.trans (hb.mono BW.out.size)); clear hb))
    go_ret
    exact ⟨rfl, BW.out⟩
  · subst hsi
    have HR := Lib.hid hroom
    have HK := Lib.hid hkey
    have HVL := Lib.hid hval
    clear hroom hkey hval
    go_upto_region 9 with (go_at_call 29; refine (putA ta.c F.h1 le i hi8 key val HK.out HVL.out HR.out).mono ?_; rintro e w7 ⟨T3, a3, n3, c3, rfl, HT3, hh, hb⟩)
    clear x0 x1 x2 x3 x4 x5 x6 x7 x8 x9 x10 x11 x12 x13 x14 x15 x16 x17 x18 x19 x20 x21 x22 x23
    obtain ⟨V3, hV3⟩ : ∃ V3, V3 = w7.alloc (.cells #[.int .i64 (T3.seen 0 : Int), .int .i64 (T3.seen 1 : Int), .int .i64 (T3.seen 2 : Int), .int .i64 (T3.seen 3 : Int), .int .i64 (T3.seen 4 : Int), .int .i64 (T3.seen 5 : Int), .int .i64 (T3.seen 6 : Int), .int .i64 (T3.seen 7 : Int), .slice a3 n3 c3] 34) := ⟨_, rfl⟩
    have BV3 := (show Below _ _ V3 from by rw [hV3]; exact below_then hb (box_below _ _))
    have F3 : Gr3 V3 (la + 1) W.heap.size D1 D2 w7.heap.size kd aa ab (i : Int) key val ta td ⟨T3, a3, n3, c3⟩ := ⟨row_keep BV3 F.a, F.b1.keep BV3, (F.h1.keep BV3).more (Nat.le_succ la), F.b2.keep BV3, (F.h2.keep BV3).more (Nat.le_succ la), by rw [hV3]; exact heap_alloc_new _ _, by rw [hV3]; exact hh.keep (box_below _ _)⟩
    replace BW := Lib.hid (BW.out.trans (BV3.mono BW.out.size))
    have H3 : Hid ((Slot.mk T3 a3 n3 c3).T = putT ta.T i hi8 key val) := HT3
    rw [← hV3]
    clear hV3 BV3 F hb hh HT3
    generalize w7.heap.size = D3 at F3 ⊢
    generalize (Slot.mk T3 a3 n3 c3) = te at F3 H3
    have G3 : Hid (Cov te.T ta.T) := Lib.hid (by rw [H3.out]; exact put_cov F3.h1.ok HK.out HVL.out)
    have G4 : Hid (getL te.T.L key = [val]) := Lib.hid (by rw [H3.out]; exact get_put ta.T i hi8 key val)
    have G5 : Hid ((te.T.seen i : Int) = (ta.T.seen i : Int) + 1) := Lib.hid (by rw [H3.out]; simp [putT, upd])
    have G6 : Hid ((remT te.T key).L = td.T.L) := Lib.hid (by rw [H3.out, G0.out]; exact rem_put ta.T i hi8 key val)
    have gfew := F3.h1.ok.few i
    have g0 : IntKind.i64.wrap ((ta.T.seen i : Int) + 1) = (ta.T.seen i : Int) + 1 := IntWalk.i64_in _ (by omega)
    clear gfew
    go_upto_region 11 with fail
    have fn1 : 1 ≤ 900000 := by omega
    go_cut [99] (fun v99 wx => v99 = .bool false ∧ Hid (Gr3 wx (la + 1) W.heap.size D1 D2 D3 kd aa ab (i : Int) key val ta td te ∧ Below W.heap.size W wx))
    · have F := F3.keep (below_drewN (Below.refl V3.heap.size V3) 1)
      replace F : Gr3 V3.drew (la + 1) W.heap.size D1 D2 D3 kd aa ab (i : Int) key val ta td te := F
      replace BW : Hid (Below W.heap.size W V3.drew) := Lib.hid (BW.out.trans ((below_drewN (Below.refl V3.heap.size V3) 1).mono BW.out.size))
      go_region_held3 (fun w' => w'.cell? ⟨W.heap.size, 0, none⟩ = some (.int .u8 kd) ∧ w'.cell? ⟨W.heap.size, 1, none⟩ = some (.int .u8 aa) ∧ w'.cell? ⟨W.heap.size, 2, none⟩ = some (.int .u8 ab) ∧ w'.cell? ⟨W.heap.size, 3, none⟩ = some (.int .i64 (i : Int)) ∧ w'.cell? ⟨W.heap.size, 4, none⟩ = some (.string key) ∧ w'.cell? ⟨W.heap.size, 5, none⟩ = some (.string val) ∧ w'.cell? ⟨D1, 0, none⟩ = some (.int .i64 (ta.T.seen 0 : Int)) ∧ w'.cell? ⟨D1, 1, none⟩ = some (.int .i64 (ta.T.seen 1 : Int)) ∧ w'.cell? ⟨D1, 2, none⟩ = some (.int .i64 (ta.T.seen 2 : Int)) ∧ w'.cell? ⟨D1, 3, none⟩ = some (.int .i64 (ta.T.seen 3 : Int)) ∧ w'.cell? ⟨D1, 4, none⟩ = some (.int .i64 (ta.T.seen 4 : Int)) ∧ w'.cell? ⟨D1, 5, none⟩ = some (.int .i64 (ta.T.seen 5 : Int)) ∧ w'.cell? ⟨D1, 6, none⟩ = some (.int .i64 (ta.T.seen 6 : Int)) ∧ w'.cell? ⟨D1, 7, none⟩ = some (.int .i64 (ta.T.seen 7 : Int)) ∧ w'.cell? ⟨D1, 8, none⟩ = some (.slice ta.ao ta.n ta.c) ∧ w'.cell? ⟨D2, 0, none⟩ = some (.int .i64 (td.T.seen 0 : Int)) ∧ w'.cell? ⟨D2, 1, none⟩ = some (.int .i64 (td.T.seen 1 : Int)) ∧ w'.cell? ⟨D2, 2, none⟩ = some (.int .i64 (td.T.seen 2 : Int)) ∧ w'.cell? ⟨D2, 3, none⟩ = some (.int .i64 (td.T.seen 3 : Int)) ∧ w'.cell? ⟨D2, 4, none⟩ = some (.int .i64 (td.T.seen 4 : Int)) ∧ w'.cell? ⟨D2, 5, none⟩ = some (.int .i64 (td.T.seen 5 : Int)) ∧ w'.cell? ⟨D2, 6, none⟩ = some (.int .i64 (td.T.seen 6 : Int)) ∧ w'.cell? ⟨D2, 7, none⟩ = some (.int .i64 (td.T.seen 7 : Int)) ∧ w'.cell? ⟨D2, 8, none⟩ = some (.slice td.ao td.n td.c) ∧ w'.cell? ⟨D3, 0, none⟩ = some (.int .i64 (te.T.seen 0 : Int)) ∧ w'.cell? ⟨D3, 1, none⟩ = some (.int .i64 (te.T.seen 1 : Int)) ∧ w'.cell? ⟨D3, 2, none⟩ = some (.int .i64 (te.T.seen 2 : Int)) ∧ w'.cell? ⟨D3, 3, none⟩ = some (.int .i64 (te.T.seen 3 : Int)) ∧ w'.cell? ⟨D3, 4, none⟩ = some (.int .i64 (te.T.seen 4 : Int)) ∧ w'.cell? ⟨D3, 5, none⟩ = some (.int .i64 (te.T.seen 5 : Int)) ∧ w'.cell? ⟨D3, 6, none⟩ = some (.int .i64 (te.T.seen 6 : Int)) ∧ w'.cell? ⟨D3, 7, none⟩ = some (.int .i64 (te.T.seen 7 : Int)) ∧ w'.cell? ⟨D3, 8, none⟩ = some (.slice te.ao te.n te.c)) (first | (with_reducible exact Gr3.cells (by assumption)) | (with_reducible exact Gr3.cells (Gr3.keep (by assumption) (box_below _ _)))) (first
        | (go_at_call 22; (with_reducible refine (covT te.c ta.c F.h3 F.h1 le1 G3.out).mono ?_); rintro e w6 ⟨rfl, hb⟩; replace F := F.keep hb; replace BW := Lib.hid (BW.out.trans (hb.mono BW.out.size)); clear hb)
        | (go_at_call 18; (with_reducible refine (gotK te.c F.h3 le1 key _ G4.out 1 rfl).mono ?_); rintro e w6 ⟨ar, cr, rfl, hs6, hb⟩; replace F := F.keep hb; replace BW := Lib.hid (BW.out.trans (hb.mono BW.out.size)); clear hb)
        | (go_at_call 18; (with_reducible refine (gotK te.c (F.h3.keep (box_below _ _)) le1 key _ G4.out 1 rfl).mono ?_); rintro e w6 ⟨ar, cr, rfl, hs6, hb⟩; have SL6 := (sl_oneG _ _ _).keep hb; replace BW := Lib.hid (below_then (below_then BW.out (box_below _ _)) hb); replace F := F.keep (below_then (box_below _ _) hb); clear hb)
        | (go_at_call 17; (first | (with_reducible refine (strings_same _ _ _ _ _ _ _ hs6 SL6 fn1).mono ?_); rintro e w6 ⟨rfl, hb⟩; replace F := F.keep hb; replace BW := Lib.hid (BW.out.trans (hb.mono BW.out.size)); clear hb | (with_reducible refine (strings_same _ _ _ _ _ _ _ (hs6.keep (box_below _ _)) (sl_oneG _ _ _) fn1).mono ?_); rintro e w6 ⟨rfl, hb⟩; replace BW := Lib.hid (below_then (below_then BW.out (box_below _ _)) hb); replace F := F.keep (below_then (box_below _ _) hb); clear hb))
        | (go_at_call 44; (first | (with_reducible refine (seenA te.c i hi8 _ G5.out).mono ?_) | (with_reducible refine (seenA ta.c i hi8 _ rfl).mono ?_)); rintro e w6 ⟨rfl, hb⟩; replace F := F.keep hb; replace BW := Lib.hid (BW.out.trans (hb.mono BW.out.size)); clear hb))
      all_goals go_wp2_with fail
      all_goals go_meet
      all_goals exact ⟨rfl, Lib.hid ⟨F, BW.out⟩⟩
    · obtain ⟨rfl, H6⟩ := hcut
      clear F3 BW g0
      have F7 := H6.out.1
      have BW7 := Lib.hid H6.out.2
      clear H6
      go_upto_region 13 with fail
      have F : Gr3 wc.drew (la + 1) W.heap.size D1 D2 D3 kd aa ab (i : Int) key val ta td te := F7.keep (below_drewN (Below.refl wc.heap.size wc) 1)
      have BW : Hid (Below W.heap.size W wc.drew) := Lib.hid (BW7.out.trans ((below_drewN (Below.refl wc.heap.size wc) 1).mono BW7.out.size))
      have hlen : td.T.L.length ≤ 900000 := by
        have := F7.h2.ok.len
        omega
      clear F7 BW7
      go_region_held3 (fun w' => w'.cell? ⟨W.heap.size, 0, none⟩ = some (.int .u8 kd) ∧ w'.cell? ⟨W.heap.size, 1, none⟩ = some (.int .u8 aa) ∧ w'.cell? ⟨W.heap.size, 2, none⟩ = some (.int .u8 ab) ∧ w'.cell? ⟨W.heap.size, 3, none⟩ = some (.int .i64 (i : Int)) ∧ w'.cell? ⟨W.heap.size, 4, none⟩ = some (.string key) ∧ w'.cell? ⟨W.heap.size, 5, none⟩ = some (.string val) ∧ w'.cell? ⟨D1, 0, none⟩ = some (.int .i64 (ta.T.seen 0 : Int)) ∧ w'.cell? ⟨D1, 1, none⟩ = some (.int .i64 (ta.T.seen 1 : Int)) ∧ w'.cell? ⟨D1, 2, none⟩ = some (.int .i64 (ta.T.seen 2 : Int)) ∧ w'.cell? ⟨D1, 3, none⟩ = some (.int .i64 (ta.T.seen 3 : Int)) ∧ w'.cell? ⟨D1, 4, none⟩ = some (.int .i64 (ta.T.seen 4 : Int)) ∧ w'.cell? ⟨D1, 5, none⟩ = some (.int .i64 (ta.T.seen 5 : Int)) ∧ w'.cell? ⟨D1, 6, none⟩ = some (.int .i64 (ta.T.seen 6 : Int)) ∧ w'.cell? ⟨D1, 7, none⟩ = some (.int .i64 (ta.T.seen 7 : Int)) ∧ w'.cell? ⟨D1, 8, none⟩ = some (.slice ta.ao ta.n ta.c) ∧ w'.cell? ⟨D2, 0, none⟩ = some (.int .i64 (td.T.seen 0 : Int)) ∧ w'.cell? ⟨D2, 1, none⟩ = some (.int .i64 (td.T.seen 1 : Int)) ∧ w'.cell? ⟨D2, 2, none⟩ = some (.int .i64 (td.T.seen 2 : Int)) ∧ w'.cell? ⟨D2, 3, none⟩ = some (.int .i64 (td.T.seen 3 : Int)) ∧ w'.cell? ⟨D2, 4, none⟩ = some (.int .i64 (td.T.seen 4 : Int)) ∧ w'.cell? ⟨D2, 5, none⟩ = some (.int .i64 (td.T.seen 5 : Int)) ∧ w'.cell? ⟨D2, 6, none⟩ = some (.int .i64 (td.T.seen 6 : Int)) ∧ w'.cell? ⟨D2, 7, none⟩ = some (.int .i64 (td.T.seen 7 : Int)) ∧ w'.cell? ⟨D2, 8, none⟩ = some (.slice td.ao td.n td.c) ∧ w'.cell? ⟨D3, 0, none⟩ = some (.int .i64 (te.T.seen 0 : Int)) ∧ w'.cell? ⟨D3, 1, none⟩ = some (.int .i64 (te.T.seen 1 : Int)) ∧ w'.cell? ⟨D3, 2, none⟩ = some (.int .i64 (te.T.seen 2 : Int)) ∧ w'.cell? ⟨D3, 3, none⟩ = some (.int .i64 (te.T.seen 3 : Int)) ∧ w'.cell? ⟨D3, 4, none⟩ = some (.int .i64 (te.T.seen 4 : Int)) ∧ w'.cell? ⟨D3, 5, none⟩ = some (.int .i64 (te.T.seen 5 : Int)) ∧ w'.cell? ⟨D3, 6, none⟩ = some (.int .i64 (te.T.seen 6 : Int)) ∧ w'.cell? ⟨D3, 7, none⟩ = some (.int .i64 (te.T.seen 7 : Int)) ∧ w'.cell? ⟨D3, 8, none⟩ = some (.slice te.ao te.n te.c)) (with_reducible exact Gr3.cells (by assumption)) (first
        | (go_at_call 43; (with_reducible refine (removeA te.c F.h3 le1 key).mono ?_); rintro e w8 ⟨T8, a8, n8, c8, rfl, HT8, J8, hb⟩; replace F := F.keep hb; replace BW := Lib.hid (BW.out.trans (hb.mono BW.out.size)); (try (replace E9 := E9.keep hb)); clear hb)
        | (go_at_call 32; (with_reducible refine (entA td.c F.h2 le1).mono ?_); rintro e w8 ⟨aE9, cE9, rfl, E9, hb⟩; replace F := F.keep hb; replace BW := Lib.hid (BW.out.trans (hb.mono BW.out.size)); (try (replace J8 := J8.keep hb)); (try (replace E8 := E8.keep hb)); clear hb)
        | (go_at_call 32; (with_reducible refine (entA _ J8 le1).mono ?_); rintro e w8 ⟨aE8, cE8, rfl, E8, hb⟩; replace F := F.keep hb; replace BW := Lib.hid (BW.out.trans (hb.mono BW.out.size)); (try (replace E9 := E9.keep hb)); clear hb)
        | (go_at_call 14; refine (awake_any _).mono ?_; rintro e w8 ⟨rfl, hb⟩; replace F := F.keep hb; replace BW := Lib.hid (BW.out.trans (hb.mono BW.out.size)); clear hb)
        | (go_at_call 45; refine (alikeG _ _ HT8 G6 hlen E8 E9).mono ?_; rintro e w8 ⟨rfl, hb⟩; replace F := F.keep hb; replace BW := Lib.hid (BW.out.trans (hb.mono BW.out.size)); clear hb))
      all_goals go_wp2_with fail
      all_goals go_ret
      all_goals exact ⟨rfl, BW.out⟩
end Go.Proofs.Ytkdbdocipijncaa

/- SyncGrows: an act by value, opened; the walk in one. -/
set_option linter.unusedVariables false
set_option linter.unusedSimpArgs false
namespace Go.Proofs.Ytkdbdocipijncaa
open Go.ChangeShapes Go.WideShapes Go.RowKit Go.Joins Go.Deep Go.Shelf Go.Sort

theorem six_of {cs : Array Value} (h : cs.size = 6) {a0 a1 a2 a3 a4 a5 : Value} (h0 : cs[0]? = some a0) (h1 : cs[1]? = some a1) (h2 : cs[2]? = some a2) (h3 : cs[3]? = some a3) (h4 : cs[4]? = some a4) (h5 : cs[5]? = some a5) : cs = #[a0, a1, a2, a3, a4, a5] := by
  apply Array.ext_getElem?
  intro i
  rcases i with _ | _ | _ | _ | _ | _ | i
  · simpa using h0
  · simpa using h1
  · simpa using h2
  · simpa using h3
  · simpa using h4
  · simpa using h5
  · rw [Array.getElem?_eq_none (by omega), Array.getElem?_eq_none (by simp)]

set_option maxRecDepth 100000 in
theorem open_actV {H : Type} {enc : TypeId × Value → H} {W : World} {v : Value} {d : DataW H} {p : List MemPlace} {base : Nat}
    (hv : Value.okWide Try.prog W .any base 83 v) (h : DataW.Trod enc Try.prog W 0 (fun _ => true) true 83 v d p) :
    ∃ (kd a b s : Int) (k u : ByteArray), v = .agg #[.int .u8 kd, .int .u8 a, .int .u8 b, .int .i64 s, .string k, .string u] ∧ InWord s := by
  obtain ⟨cs, rfl, hsz, hf⟩ := open_cells Try.underlying83 (by kernel_rfl) (by kernel_rfl) hv h
  obtain ⟨u0, y0, m0, e0, t0⟩ := hf 0 5 (by kernel_rfl)
  obtain ⟨u1, y1, m1, e1, t1⟩ := hf 1 5 (by kernel_rfl)
  obtain ⟨u2, y2, m2, e2, t2⟩ := hf 2 5 (by kernel_rfl)
  obtain ⟨u3, y3, m3, e3, t3⟩ := hf 3 3 (by kernel_rfl)
  obtain ⟨u4, y4, m4, e4, t4⟩ := hf 4 9 (by kernel_rfl)
  obtain ⟨u5, y5, m5, e5, t5⟩ := hf 5 9 (by kernel_rfl)
  obtain ⟨n0, f0, _, _⟩ := DataW.trod_int Try.underlying5 t0
  obtain ⟨n1, f1, _, _⟩ := DataW.trod_int Try.underlying5 t1
  obtain ⟨n2, f2, _, _⟩ := DataW.trod_int Try.underlying5 t2
  obtain ⟨n3, f3, _, w3⟩ := DataW.trod_int Try.underlying3 t3
  obtain ⟨n4, f4, _, _⟩ := DataW.trod_string Try.underlying9 t4
  obtain ⟨n5, f5, _, _⟩ := DataW.trod_string Try.underlying9 t5
  cases f0; cases f1; cases f2; cases f3; cases f4; cases f5
  exact ⟨n0, n1, n2, n3, n4, n5, by rw [six_of (hsz.trans (by kernel_rfl)) e0 e1 e2 e3 e4 e5], bounds_i64 w3⟩

theorem grows_walk (ao : Option Addr) (la ca iN : Nat) (xs : List ActD) (kd aa ab site : Int) (key val : ByteArray) (W : World) (h : Acts W ao la xs) (hla : la ≤ 9223372036854775807) (hi : iN ≤ 255) (hsite : InWord site) :
    Calls Try.prog 9 #[.slice ao la ca, .int .u8 (iN : Int), .agg #[.int .u8 kd, .int .u8 aa, .int .u8 ab, .int .i64 site, .string key, .string val]] W fun e w' => e = .returned (.bool true) ∧ Below W.heap.size W w' := by
  cases hs : isShort xs la 60
  · exact gro_bad1 ao la ca iN xs kd aa ab site key val W h hla hs
  · by_cases hk : 200 < key.size
    · exact gro_bad2 ao la ca iN xs kd aa ab site key val W h hla hs hk
    · by_cases hv : 200 < val.size
      · exact gro_bad3 ao la ca iN xs kd aa ab site key val W h hla hs (by omega) hv
      · refine gro_good ao la ca iN xs kd aa ab site key val W h ?_ hi hs (by omega) (by omega) hsite
        unfold isShort at hs
        rw [Bool.and_eq_true] at hs
        exact of_decide_eq_true hs.2
end Go.Proofs.Ytkdbdocipijncaa
