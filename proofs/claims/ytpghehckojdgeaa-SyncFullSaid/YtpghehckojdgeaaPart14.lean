/- Part 14 of the contracts: RFullW. -/
import Derived.Laws.IdiomStrings
import Derived.Test.YtpghehckojdgeaaPart13

/- SyncFull, walked. (By gen_rfull.py.) -/
set_option linter.unusedVariables false
set_option linter.unusedSimpArgs false
namespace Go.Proofs.Ytpghehckojdgeaa
open Go.RowKit Go.Shelf Go.Sort

/-- the two tables of SyncFull, in their boxes -/
structure FF (W w : World) (i : Nat) (T : Tab) (a1 : Option Addr) (n1 c1 : Nat) (a2 : Option Addr) (n2 c2 : Nat) : Prop where
  b7 : Box w W.heap.size 34 #[.int .i64 (T.seen 0 : Int), .int .i64 (T.seen 1 : Int), .int .i64 (T.seen 2 : Int), .int .i64 (T.seen 3 : Int), .int .i64 (T.seen 4 : Int), .int .i64 (T.seen 5 : Int), .int .i64 (T.seen 6 : Int), .int .i64 (T.seen 7 : Int), .slice a1 n1 c1]
  b8 : Box w (W.heap.size + 1) 36 #[.int .i64 (T.seen 0 : Int), .int .i64 (T.seen 1 : Int), .int .i64 (T.seen 2 : Int), .int .i64 (T.seen 3 : Int), .int .i64 (T.seen 4 : Int), .int .i64 (T.seen 5 : Int), .int .i64 (T.seen 6 : Int), .int .i64 (T.seen 7 : Int), .slice a2 n2 c2]
  hs : Held w i T a1 n1
  hr : HeldR w i T a2 n2 c2
  bel : Below W.heap.size W w
theorem FF.keep {W w w' : World} {i : Nat} {T : Tab} {a1 : Option Addr} {n1 c1 : Nat} {a2 : Option Addr} {n2 c2 : Nat} (h : FF W w i T a1 n1 c1 a2 n2 c2) (hb : Below w.heap.size w w') : FF W w' i T a1 n1 c1 a2 n2 c2 :=
  ⟨row_keep hb h.b7, row_keep hb h.b8, h.hs.keep hb, h.hr.keep hb, h.bel.trans (hb.mono h.bel.size)⟩
theorem conv_two (w : World) (b x y : Nat) (hx : x < 256) (hy : y < 256) (h0 : w.cell? ⟨b, 0, none⟩ = some (.int .u8 (x : Int))) (h1 : w.cell? ⟨b, 1, none⟩ = some (.int .u8 (y : Int))) :
    (convert 62 9 (.slice (some ⟨b, 0, none⟩) 2 2)).run Try.prog w = .ok (.string ⟨#[UInt8.ofNat x, UInt8.ofNat y]⟩) w := by
  refine run_convert_bytes_back w 62 9 5 ⟨b, 0, none⟩ 2 [UInt8.ofNat x, UInt8.ofNat y] Try.underlying62 Try.underlying5 Try.underlying9 fun j hj => ?_
  rcases j with _ | _ | j
  · rw [add_off]; simpa [Nat.mod_eq_of_lt hx] using h0
  · rw [add_off]; simpa [Nat.mod_eq_of_lt hy] using h1
  · simp at hj; omega
theorem room_nil (k : ByteArray) : room [] k = true := by unfold room; simp [keysF]
/-- Put in both forms, where site, key and value are fine -/
theorem putTwo {m : Nat} (T : Tab) (hok : T.Ok m) (hm : m ≤ 10000) (i : Nat) (hi : i < 8) (k v : ByteArray) (hk : 1 ≤ k.size ∧ k.size ≤ 64) (hv : v.size ≤ 64) :
    ∃ (er : Int) (U : Tab), U.Ok (m + 1) ∧ ((room T.L k = true ∧ er = 0 ∧ U = putT T i hi k v) ∨ (room T.L k = false ∧ er = 5 ∧ U = Tab.none)) ∧
    (∀ (w : World) (ao : Option Addr) (n c : Nat), Held w m T ao n → Calls Try.prog 23 #[.agg #[.int .i64 (T.seen 0 : Int), .int .i64 (T.seen 1 : Int), .int .i64 (T.seen 2 : Int), .int .i64 (T.seen 3 : Int), .int .i64 (T.seen 4 : Int), .int .i64 (T.seen 5 : Int), .int .i64 (T.seen 6 : Int), .int .i64 (T.seen 7 : Int), .slice ao n c], .int .i64 (i : Int), .string k, .string v] w fun e w' => ∃ b o l c, e = .returned (.tuple #[.agg #[.int .i64 (b.seen 0 : Int), .int .i64 (b.seen 1 : Int), .int .i64 (b.seen 2 : Int), .int .i64 (b.seen 3 : Int), .int .i64 (b.seen 4 : Int), .int .i64 (b.seen 5 : Int), .int .i64 (b.seen 6 : Int), .int .i64 (b.seen 7 : Int), .slice o l c], .int .i64 er]) ∧ Hid (b = U) ∧ Held w' (m + 1) b o l ∧ Below w.heap.size w w') ∧
    (∀ (w : World) (ao : Option Addr) (n c : Nat), HeldR w m T ao n c → Calls Try.prog 24 #[.agg #[.int .i64 (T.seen 0 : Int), .int .i64 (T.seen 1 : Int), .int .i64 (T.seen 2 : Int), .int .i64 (T.seen 3 : Int), .int .i64 (T.seen 4 : Int), .int .i64 (T.seen 5 : Int), .int .i64 (T.seen 6 : Int), .int .i64 (T.seen 7 : Int), .slice ao n c], .int .i64 (i : Int), .string k, .string v] w fun e w' => ∃ b o l c, e = .returned (.tuple #[.agg #[.int .i64 (b.seen 0 : Int), .int .i64 (b.seen 1 : Int), .int .i64 (b.seen 2 : Int), .int .i64 (b.seen 3 : Int), .int .i64 (b.seen 4 : Int), .int .i64 (b.seen 5 : Int), .int .i64 (b.seen 6 : Int), .int .i64 (b.seen 7 : Int), .slice o l c], .int .i64 er]) ∧ Hid (b = U) ∧ HeldR w' (m + 1) b o l c ∧ Below w.heap.size w w') := by
  have hne : ∀ e ∈ T.L, 1 ≤ e.key.size := fun e he => (hok.txt e he).1
  have hfew := hok.few i
  cases hr : room T.L k
  · exact ⟨5, Tab.none, Tab.none_ok.more (Nat.zero_le _), .inr ⟨rfl, rfl, rfl⟩, fun w ao n c h => (putA_full c h (by omega) i hi k v hk hv hr).mono fun e w' ⟨he, hb⟩ => ⟨Tab.none, none, 0, 0, he, Lib.hid rfl, (Held.none w').more (Nat.zero_le _), hb⟩,
      fun w ao n c h => (refput_full T.seen ao n c T.L i k v w h.el (by have := h.len; omega) hi hk hv (by omega) hne hr).mono fun e w' ⟨he, hb⟩ => ⟨Tab.none, none, 0, 0, he, Lib.hid rfl, (HeldR.none w').more (Nat.zero_le _), hb⟩⟩
  · exact ⟨0, putT T i hi k v, put_ok hok hi hk hv, .inl ⟨rfl, rfl, rfl⟩, fun w ao n c h => putA c h (by omega) i hi k v hk hv hr,
      fun w ao n c h => (refput_ok T.seen ao n c T.L i k v w h.el (by have := h.len; omega) hi hk hv (by omega) hne hr).mono fun e w' ⟨ao', n', c', he, hel, h1, h2, hb⟩ => ⟨_, ao', n', c', he, Lib.hid rfl, ⟨hel, put_ok hok hi hk hv, h1, h2⟩, hb⟩⟩
def AA : ByteArray := ⟨#[97, 97]⟩
/-- what is known of the table after i keys -/
def PM (T : Tab) (i : Nat) : Prop := T.seen 7 = 0 ∧ (i = 0 → T = Tab.none) ∧ (0 < i → ∃ e ∈ T.L, e.key = AA)
theorem PM.full {T : Tab} {i : Nat} {k : ByteArray} (h : PM T i) (hr : room T.L k = false) : PM T (i + 1) := by
  refine ⟨h.1, fun e => by omega, fun _ => ?_⟩
  by_cases h0 : i = 0
  · rw [h.2.1 h0] at hr
    rw [show Tab.none.L = [] from rfl, room_nil] at hr
    cases hr
  · exact h.2.2 (by omega)
theorem PM.put {T : Tab} {i s : Nat} {hs : s < 8} {k v : ByteArray} (h : PM T i) (h7 : s ≠ 7) (hk : i = 0 → k = AA) : PM (putT T s hs k v) (i + 1) := by
  refine ⟨?_, fun e => by omega, fun _ => ?_⟩
  · show upd T.seen s _ 7 = 0
    rw [upd_other _ _ (Ne.symm h7)]; exact h.1
  · by_cases e0 : k = AA
    · exact ⟨_, mem_put.2 (.inl rfl), e0⟩
    · obtain ⟨e, he, hek⟩ := h.2.2 (by have : i ≠ 0 := fun q => e0 (hk q); omega)
      exact ⟨e, mem_put.2 (.inr ⟨he, fun q => e0 (q.symm.trans hek)⟩), hek⟩

theorem len_insE (l : List Ent) (x : Ent) : (insE l x).length = l.length + 1 := by
  unfold insE
  rw [List.length_append, List.length_cons]
  have : (l.takeWhile (fun a => ltE a x)).length + (l.dropWhile (fun a => ltE a x)).length = l.length := by
    rw [← List.length_append, List.takeWhile_append_dropWhile]
  omega
theorem len_fold : ∀ (l acc : List Ent), (l.foldl insE acc).length = l.length + acc.length
  | [], acc => by simp
  | x :: l, acc => by rw [List.foldl_cons, len_fold l, len_insE]; simp; omega
def ZZ : ByteArray := ⟨#[122, 122]⟩
/-- the other table -/
noncomputable def OT : Tab := putT Tab.none 7 (by decide) ZZ ⟨#[119]⟩
theorem OT_L : OT.L = [⟨ZZ, ⟨#[119]⟩, 7, 1, by decide⟩] := put_none _ _ _
theorem OT_seen (j : Nat) : OT.seen j = if j = 7 then 1 else 0 := put_none_seen _ _ _ j
theorem OT_ok : OT.Ok 1 := put_ok Tab.none_ok (by decide) (by decide) (by decide)
theorem mer_len {T : Tab} {m : Nat} (h : T.Ok m) (h7 : T.seen 7 = 0) : (merT T OT).L.length = T.L.length + 1 := by
  show ((keptT T OT ++ addedT T OT).foldl insE []).length = _
  rw [len_fold, List.length_append]
  have e1 : keptT T OT = T.L := by
    unfold keptT
    refine List.filter_eq_self.2 fun e he => ?_
    obtain ⟨a, b, c⟩ := h.ent e he
    have hs : saw OT.seen e = false := by
      unfold saw
      rw [OT_seen, if_neg (fun q => by rw [q, h7] at c; omega)]
      exact decide_eq_false (by omega)
    rw [hs]; simp
  have e2 : addedT T OT = OT.L := by
    unfold addedT
    refine List.filter_eq_self.2 fun e he => ?_
    rw [OT_L, List.mem_singleton] at he
    subst he
    unfold saw
    rw [show T.seen 7 = 0 from h7]; rfl
  rw [e1, e2, OT_L]; rfl
theorem mer_room {T : Tab} {m : Nat} (h : T.Ok m) (h7 : T.seen 7 = 0) (ha : ∃ e ∈ T.L, e.key = AA) : room (merT T OT).L AA = true := by
  obtain ⟨e, he, hk⟩ := ha
  have hm : e ∈ (merT T OT).L := by
    rw [mem_mer h (OT_ok)]
    refine .inr (.inl ⟨he, ?_⟩)
    obtain ⟨a, b, c⟩ := h.ent e he
    unfold saw
    rw [OT_seen, if_neg (fun q => by rw [q, h7] at c; omega)]
    exact decide_eq_false (by omega)
  unfold room
  have : 0 < (getL (merT T OT).L AA).length := by
    unfold getL
    rw [List.length_map]
    exact List.length_pos_of_mem (List.mem_filter.2 ⟨hm, isKeyB_iff.2 hk⟩)
  rw [decide_eq_true this]; rfl
/-- the net under way -/
structure SF (W wr : World) (b g j : Nat) (lo : Option Addr) (lc : Nat) (ts : List Slot) (ms : List LSlot) : Prop where
  net : NetR wr 0 b g lo lc ts ms
  two : ts.length = 2
  len : ms.length = min j 256
  bel : Below W.heap.size W wr
  hb : W.heap.size ≤ b
  hg : W.heap.size ≤ g
  hl : ∀ j o s, lo = some ⟨j, o, s⟩ → W.heap.size ≤ j
theorem SF.step {W wr w' : World} {b g j : Nat} {lo : Option Addr} {lc : Nat} {ts : List Slot} {ms : List LSlot} {e : Ending} (h : SF W wr b g j lo lc ts ms) (ho : OutN wr 0 b g lo ((netOf ts ms).send 0 1) e w') :
    e = .returned (.int .i64 (if j < 256 then 0 else 5)) ∧ ∃ lo' lc' ts' ms', SF W w' b g (j + 1) lo' lc' ts' ms' := by
  have hs : (netOf ts ms).send 0 1 = if j < 256 then ((netOf ts ms).mailTo ⟨0, 1, (netOf ts ms).T[0]!⟩, 0) else (netOf ts ms, 5) := by
    have hz : (netOf ts ms).has 0 ∧ (netOf ts ms).has 1 := by
      unfold NetS.has
      rw [netOf_len, h.two]
      omega
    have hm : (netOf ts ms).M.length = min j 256 := by rw [netOf_lenM, h.len]
    unfold NetS.send
    rw [if_pos hz]
    by_cases hj : j < 256
    · rw [if_neg (by omega), if_pos hj]; rfl
    · rw [if_pos (by omega), if_neg hj]
  obtain ⟨he, lo', lc', ts', ms', hn, hN, hf, hl⟩ := ho
  have htw : ts'.length = 2 ∧ ms'.length = min (j + 1) 256 := by
    have e1 := congrArg (fun n => (n.T.length, n.M.length)) hN.out
    simp only [netOf_len, netOf_lenM] at e1
    rw [hs] at e1
    by_cases hj : j < 256
    · rw [if_pos hj] at e1
      simp only [NetS.mailTo, List.length_append, List.length_singleton, netOf_len, netOf_lenM, Prod.mk.injEq] at e1
      have := h.two; have := h.len
      omega
    · rw [if_neg hj] at e1
      simp only [netOf_len, netOf_lenM, Prod.mk.injEq] at e1
      have := h.two; have := h.len
      omega
  refine ⟨by rw [he, hs]; split <;> rfl, lo', lc', ts', ms', hn, htw.1, htw.2, h.bel.trans (hf.below h.bel.size fun k hk q => ?_), h.hb, h.hg, fun j o s e => ?_⟩
  · rcases q with q | q | ⟨o, s, q⟩
    · have := h.hb; omega
    · have := h.hg; omega
    · have := h.hl _ _ _ q; omega
  · rcases hl j o s e with ⟨o', s', q⟩ | q
    · exact h.hl _ _ _ q
    · exact Nat.le_trans h.bel.size q
theorem sl_one1 (W : World) (a : ByteArray) (t : TypeId) : Sl (W.alloc (.cells #[.string a] t)) (some ⟨W.heap.size, 0, none⟩) 1 [a] := by
  refine ⟨rfl, .inr ⟨W.heap.size, rfl, by simp, fun i hi => ?_⟩⟩
  have : i = 0 := by omega
  subst this
  simp

set_option maxRecDepth 100000 in
set_option maxHeartbeats 16000000 in
theorem full_keys (nN mN kN : Nat) (W : World) (h1 : nN ≤ 255) (h2 : mN ≤ 255) (h3 : kN ≤ 255) :
    Calls Try.prog 6 #[.int .u8 (nN : Int), .int .u8 (mN : Int), .int .u8 (kN : Int)] W fun e w' => e = .returned (.bool true) ∧ Below W.heap.size W w' := by
  obtain ⟨kk, hkk⟩ : ∃ kk, kk = kN % 71 := ⟨_, rfl⟩
  have e1 : (kN : Int) % 71 = (kk : Int) := by omega
  have e2 : IntKind.i64.wrap (kk : Int) = (kk : Int) := IntWalk.i64_in _ (by omega)
  have k0 : (0 : Int) ≤ (kk : Int) := by omega
  have k1 : (kk : Int) ≤ 70 := by omega
  have kn0 : (0 : Int) ≤ (kN : Int) := by omega
  have kn1 : (kN : Int) ≤ 255 := by omega
  clear hkk
  obtain ⟨sn, hsn0⟩ : ∃ sn, sn = nN % 7 := ⟨_, rfl⟩
  have hsn7 : sn < 7 := by omega
  have hsn : sn < 8 := by omega
  have e3 : (nN : Int) % 7 = (sn : Int) := by omega
  have e4 : IntKind.i64.wrap (sn : Int) = (sn : Int) := IntWalk.i64_in _ (by omega)
  have nn0 : (0 : Int) ≤ (nN : Int) := by omega
  have nn1 : (nN : Int) ≤ 255 := by omega
  clear hsn0
  obtain ⟨V, hV⟩ : ∃ V, V = (W.alloc (.cells #[.int .i64 0, .int .i64 0, .int .i64 0, .int .i64 0, .int .i64 0, .int .i64 0, .int .i64 0, .int .i64 0, .slice none 0 0] 34)).alloc (.cells #[.int .i64 0, .int .i64 0, .int .i64 0, .int .i64 0, .int .i64 0, .int .i64 0, .int .i64 0, .int .i64 0, .slice none 0 0] 36) := ⟨_, rfl⟩
  have F0 : Hid (FF W V 0 Tab.none none 0 0 none 0 0) := Lib.hid (by rw [hV]; exact ⟨block1 W _ _, block2 W _ _, Held.none _, HeldR.none _, below2 W _ _⟩)
  have HV := Lib.hid hV
  clear hV
  go_enter Try.func6, Try.ntmps6
  go_upto_region 3 with fail
  rw [← HV.out]
  go_wp2
  go_loopg [9, 10, 11, 12, 13, 14] kk (fun gg s9 _ _ _ _ _ wr => ∃ (i : Nat) (T : Tab) (a1 : Option Addr) (n1 c1 : Nat) (a2 : Option Addr) (n2 c2 : Nat), s9 = .int .i64 (i : Int) ∧ i ≤ kk ∧ kk - i ≤ gg ∧ Hid (FF W wr i T a1 n1 c1 a2 n2 c2) ∧ Hid (PM T i))
  case atStart => exact ⟨0, _, _, _, _, _, _, _, rfl, Nat.zero_le _, by omega, F0, Lib.hid ⟨rfl, fun _ => rfl, fun h => absurd h (Nat.lt_irrefl _)⟩⟩
  case round =>
    obtain ⟨i, T, a1, n1, c1, a2, n2, c2, rfl, hi, hgg, HF, HP⟩ := hrel
    have i0 : (0 : Int) ≤ (i : Int) := by omega
    have i1 : (i : Int) ≤ 70 := by omega
    by_cases hlt : i < kk
    · have t1 : (i : Int) < (kk : Int) := by omega
      obtain ⟨key, hkey, hksz, hkaa⟩ : ∃ key : ByteArray, (convert 62 9 (.slice (some ⟨wr.heap.size, 0, none⟩) 2 2)).run Try.prog (wr.alloc (.cells #[.int .u8 (97 + (i : Int) % 26), .int .u8 (97 + (i : Int) / 26)] 5)) = .ok (.string key) (wr.alloc (.cells #[.int .u8 (97 + (i : Int) % 26), .int .u8 (97 + (i : Int) / 26)] 5)) ∧ key.size = 2 ∧ (i = 0 → key = AA) := by
        have h2 := two_cells (heap_alloc_new wr (.cells #[.int .u8 (97 + (i : Int) % 26), .int .u8 (97 + (i : Int) / 26)] 5))
        refine ⟨_, conv_two _ wr.heap.size (97 + i % 26) (97 + i / 26) (by omega) (by omega) (h2.1.trans (by congr)) (h2.2.trans (by congr)), rfl, fun e => by subst e; rfl⟩
      have HK := Lib.hid hksz
      have HKA := Lib.hid hkaa
      clear hksz hkaa
      go_upto_region 7 with fail
      obtain ⟨Wk, hWk⟩ : ∃ Wk, Wk = wr.alloc (.cells #[.int .u8 (97 + (i : Int) % 26), .int .u8 (97 + (i : Int) / 26)] 5) := ⟨_, rfl⟩
      have FK : Hid (FF W Wk i T a1 n1 c1 a2 n2 c2) := Lib.hid (by rw [hWk]; exact HF.out.keep (box_below _ _))
      rw [← hWk]
      clear hkey hWk HF
      have him : i ≤ 10000 := by omega
      obtain ⟨er, U, hUok, hcase, hPt, hPr⟩ := putTwo T FK.out.hs.ok him sn hsn key ⟨#[118]⟩ (by rw [HK.out]; omega) (by decide)
      have HPT := Lib.hid (fun (w : World) (h : Held w i T a1 n1) => hPt w a1 n1 c1 h)
      have HPR := Lib.hid (fun (w : World) (h : HeldR w i T a2 n2 c2) => hPr w a2 n2 c2 h)
      have HCA := Lib.hid hcase
      clear hPt hPr hUok hcase
      obtain ⟨p0, p1, p2, p3, p4, p5, p6, p7, p8⟩ := cell_nine FK.out.b7
      go_upto_region 8 with (go_at_call 23; refine (HPT.out _ FK.out.hs).mono ?_; rintro e w3 ⟨T3, a3, n3, c3, rfl, ht3, hh3, hb3⟩)
      obtain ⟨V3, hV3⟩ : ∃ V3, V3 = w3.alloc (.cells #[.int .i64 (T3.seen 0 : Int), .int .i64 (T3.seen 1 : Int), .int .i64 (T3.seen 2 : Int), .int .i64 (T3.seen 3 : Int), .int .i64 (T3.seen 4 : Int), .int .i64 (T3.seen 5 : Int), .int .i64 (T3.seen 6 : Int), .int .i64 (T3.seen 7 : Int), .slice a3 n3 c3] 34) := ⟨_, rfl⟩
      have bv3 : Below Wk.heap.size Wk V3 := by rw [hV3]; exact below_then hb3 (box_below _ _)
      have F3 := Lib.hid (FK.out.keep bv3)
      have X3 : Hid (Box V3 w3.heap.size 34 #[.int .i64 (T3.seen 0 : Int), .int .i64 (T3.seen 1 : Int), .int .i64 (T3.seen 2 : Int), .int .i64 (T3.seen 3 : Int), .int .i64 (T3.seen 4 : Int), .int .i64 (T3.seen 5 : Int), .int .i64 (T3.seen 6 : Int), .int .i64 (T3.seen 7 : Int), .slice a3 n3 c3]) := Lib.hid (by rw [hV3]; exact heap_alloc_new _ _)
      have J3 : Hid (Held V3 (i + 1) T3 a3 n3) := Lib.hid (by rw [hV3]; exact hh3.keep (box_below _ _))
      have hB11 : W.heap.size + 1 < w3.heap.size := Nat.lt_of_lt_of_le (Array.getElem?_eq_some_iff.1 FK.out.b8).1 hb3.size
      rw [← hV3]
      clear hV3 bv3 hh3 hb3 HPT FK p0 p1 p2 p3 p4 p5 p6 p7 p8
      obtain ⟨B11, hB⟩ : ∃ B11, B11 = w3.heap.size := ⟨_, rfl⟩
      rw [← hB] at X3 hB11 ⊢
      clear hB
      obtain ⟨p0, p1, p2, p3, p4, p5, p6, p7, p8⟩ := cell_nine F3.out.b8
      go_upto_region 9 with (go_at_call 24; refine (HPR.out _ F3.out.hr).mono ?_; rintro e w4 ⟨T4, a4, n4, c4, rfl, ht4, hh4, hb4⟩)
      obtain rfl : T3 = T4 := ht3.out.trans ht4.out.symm
      obtain ⟨V4, hV4⟩ : ∃ V4, V4 = w4.alloc (.cells #[.int .i64 (T3.seen 0 : Int), .int .i64 (T3.seen 1 : Int), .int .i64 (T3.seen 2 : Int), .int .i64 (T3.seen 3 : Int), .int .i64 (T3.seen 4 : Int), .int .i64 (T3.seen 5 : Int), .int .i64 (T3.seen 6 : Int), .int .i64 (T3.seen 7 : Int), .slice a4 n4 c4] 36) := ⟨_, rfl⟩
      have bv4 : Below V3.heap.size V3 V4 := by rw [hV4]; exact below_then hb4 (box_below _ _)
      have F4 := Lib.hid (F3.out.keep bv4)
      have X4 : Hid (Box V4 B11 34 #[.int .i64 (T3.seen 0 : Int), .int .i64 (T3.seen 1 : Int), .int .i64 (T3.seen 2 : Int), .int .i64 (T3.seen 3 : Int), .int .i64 (T3.seen 4 : Int), .int .i64 (T3.seen 5 : Int), .int .i64 (T3.seen 6 : Int), .int .i64 (T3.seen 7 : Int), .slice a3 n3 c3]) := Lib.hid (row_keep bv4 X3.out)
      have X5 : Hid (Box V4 w4.heap.size 36 #[.int .i64 (T3.seen 0 : Int), .int .i64 (T3.seen 1 : Int), .int .i64 (T3.seen 2 : Int), .int .i64 (T3.seen 3 : Int), .int .i64 (T3.seen 4 : Int), .int .i64 (T3.seen 5 : Int), .int .i64 (T3.seen 6 : Int), .int .i64 (T3.seen 7 : Int), .slice a4 n4 c4]) := Lib.hid (by rw [hV4]; exact heap_alloc_new _ _)
      have J4 := Lib.hid (J3.out.keep bv4)
      have J5 : Hid (HeldR V4 (i + 1) T3 a4 n4 c4) := Lib.hid (by rw [hV4]; exact hh4.keep (box_below _ _))
      have hB13 : W.heap.size + 1 < w4.heap.size := Nat.lt_of_lt_of_le (Array.getElem?_eq_some_iff.1 F3.out.b8).1 hb4.size
      rw [← hV4]
      clear hV4 bv4 hh4 hb4 HPR F3 X3 J3 ht4 p0 p1 p2 p3 p4 p5 p6 p7 p8
      obtain ⟨B13, hB⟩ : ∃ B13, B13 = w4.heap.size := ⟨_, rfl⟩
      rw [← hB] at X5 hB13 ⊢
      clear hB
      have hee : (er == er) = true := beq_self_eq_true er
      have SAM := Lib.hid (sameA c3 c4 J4.out J5.out (show i + 1 ≤ 10000 by omega))
      obtain ⟨p0, p1, p2, p3, p4, p5, p6, p7, p8⟩ := cell_nine X4.out
      obtain ⟨q0, q1, q2, q3, q4, q5, q6, q7, q8⟩ := cell_nine X5.out
      go_upto_region 11 with (go_at_call 10; refine SAM.out.mono ?_; rintro e w5 ⟨rfl, hb5⟩; have F5 := Lib.hid (F4.out.keep hb5); have G := Lib.hid (And.intro (row_keep hb5 X4.out) (And.intro (row_keep hb5 X5.out) (And.intro (J4.out.keep hb5) (J5.out.keep hb5)))); clear hb5)
      clear SAM F4 X4 X5 J4 J5 p0 p1 p2 p3 p4 p5 p6 p7 p8 q0 q1 q2 q3 q4 q5 q6 q7 q8 hee
      rcases HCA.out with ⟨hr, he, hU⟩ | ⟨hr, he, hU⟩
      · subst he
        have HP2 : Hid (PM T3 (i + 1)) := Lib.hid (by rw [ht3.out, hU]; exact HP.out.put (by omega) HKA.out)
        clear hr hU HCA ht3 HP
        go_upto_region 12 with fail
        refine wp_region_held_drew (S := fun w' => Box w' B11 34 #[.int .i64 (T3.seen 0 : Int), .int .i64 (T3.seen 1 : Int), .int .i64 (T3.seen 2 : Int), .int .i64 (T3.seen 3 : Int), .int .i64 (T3.seen 4 : Int), .int .i64 (T3.seen 5 : Int), .int .i64 (T3.seen 6 : Int), .int .i64 (T3.seen 7 : Int), .slice a3 n3 c3] ∧ Box w' B13 36 #[.int .i64 (T3.seen 0 : Int), .int .i64 (T3.seen 1 : Int), .int .i64 (T3.seen 2 : Int), .int .i64 (T3.seen 3 : Int), .int .i64 (T3.seen 4 : Int), .int .i64 (T3.seen 5 : Int), .int .i64 (T3.seen 6 : Int), .int .i64 (T3.seen 7 : Int), .slice a4 n4 c4]) (by kernel_rfl) ⟨G.out.1, G.out.2.1⟩ (fun hS => ?_)
        obtain ⟨Y, hY⟩ : ∃ Y, Y = w5.drew := ⟨_, rfl⟩
        have by5 : Below w5.heap.size w5 Y := by rw [hY]; exact drew_below _
        replace G := Lib.hid (And.intro (row_keep by5 G.out.1) (And.intro (row_keep by5 G.out.2.1) (And.intro (G.out.2.2.1.keep by5) (G.out.2.2.2.keep by5))))
        replace F5 := Lib.hid (F5.out.keep by5)
        rw [← hY] at hS ⊢
        clear hY by5
        refine wpAnyH_take (i := 0) (v := ?vf0) rfl (by kernel_rfl) (by kernel_rfl) (by kernel_rfl) (fun _ _ _ h => h) (Or.inl ⟨by rfl, ?hyf0⟩) hS ?restf0
        case hyf0 => (intro w hSw; obtain ⟨hs4, hs5⟩ := hSw; obtain ⟨g0, g1, g2, g3, g4, g5, g6, g7, g8⟩ := cell_nine hs4; obtain ⟨k0, k1, k2, k3, k4, k5, k6, k7, k8⟩ := cell_nine hs5; clear hs4 hs5; first | (go_simp; done) | (go_simp; with_reducible rfl))
        try simp only [Act.put, List.getElem_toArray, List.getElem_cons_succ, List.getElem_cons_zero, List.setIfInBounds_toArray, List.set_cons_zero, List.set_cons_succ]
        refine wpAnyH_take (i := 1) (v := ?vf1) rfl (by kernel_rfl) (by kernel_rfl) (by kernel_rfl) (fun _ _ _ h => h) (Or.inl ⟨by rfl, ?hyf1⟩) hS ?restf1
        case hyf1 => (intro w hSw; obtain ⟨hs4, hs5⟩ := hSw; obtain ⟨g0, g1, g2, g3, g4, g5, g6, g7, g8⟩ := cell_nine hs4; obtain ⟨k0, k1, k2, k3, k4, k5, k6, k7, k8⟩ := cell_nine hs5; clear hs4 hs5; first | (go_simp; done) | (go_simp; with_reducible rfl))
        try simp only [Act.put, List.getElem_toArray, List.getElem_cons_succ, List.getElem_cons_zero, List.setIfInBounds_toArray, List.set_cons_zero, List.set_cons_succ]
        obtain ⟨u0, u1, u2, u3, u4, u5, u6, u7, u8⟩ := cell_nine F5.out.b7
        have f0 := free_nine F5.out.b7 0; have f1 := free_nine F5.out.b7 1; have f2 := free_nine F5.out.b7 2; have f3 := free_nine F5.out.b7 3; have f4 := free_nine F5.out.b7 4; have f5 := free_nine F5.out.b7 5; have f6 := free_nine F5.out.b7 6; have f7 := free_nine F5.out.b7 7; have f8 := free_nine F5.out.b7 8
        obtain ⟨v0, v1, v2, v3, v4, v5, v6, v7, v8⟩ := cell_nine F5.out.b8
        refine wpAnyH_ready (rs := [2]) (by kernel_rfl) (by simp) ?_
        refine AllReadyH.cons rfl (fun K hK => ?_) AllReadyH.nil
        try go_simp
        refine hK.out _ _ ⟨(heap_set9 _ _ _ _ _ _ _ _ _ _ _ _ (by omega)).trans G.out.1, (heap_set9 _ _ _ _ _ _ _ _ _ _ _ _ (by omega)).trans G.out.2.1⟩ (fun hS => ?_)
        clear hK K
        try simp only [Act.put, List.getElem_toArray, List.getElem_cons_succ, List.getElem_cons_zero, List.setIfInBounds_toArray, List.set_cons_zero, List.set_cons_succ]
        obtain ⟨V1, hV1⟩ : ∃ V1, V1 = (((((((((Y.setCell ⟨W.heap.size, 0, none⟩ (.int .i64 (T3.seen 0 : Int))).setCell ⟨W.heap.size, 1, none⟩ (.int .i64 (T3.seen 1 : Int))).setCell ⟨W.heap.size, 2, none⟩ (.int .i64 (T3.seen 2 : Int))).setCell ⟨W.heap.size, 3, none⟩ (.int .i64 (T3.seen 3 : Int))).setCell ⟨W.heap.size, 4, none⟩ (.int .i64 (T3.seen 4 : Int))).setCell ⟨W.heap.size, 5, none⟩ (.int .i64 (T3.seen 5 : Int))).setCell ⟨W.heap.size, 6, none⟩ (.int .i64 (T3.seen 6 : Int))).setCell ⟨W.heap.size, 7, none⟩ (.int .i64 (T3.seen 7 : Int))).setCell ⟨W.heap.size, 8, none⟩ (.slice a3 n3 c3)) := ⟨_, rfl⟩
        have Y1 : Hid (Box V1 W.heap.size 34 #[.int .i64 (T3.seen 0 : Int), .int .i64 (T3.seen 1 : Int), .int .i64 (T3.seen 2 : Int), .int .i64 (T3.seen 3 : Int), .int .i64 (T3.seen 4 : Int), .int .i64 (T3.seen 5 : Int), .int .i64 (T3.seen 6 : Int), .int .i64 (T3.seen 7 : Int), .slice a3 n3 c3]) := Lib.hid (by rw [hV1]; exact set_nine F5.out.b7)
        have Y2 : Hid (Box V1 (W.heap.size + 1) 36 #[.int .i64 (T.seen 0 : Int), .int .i64 (T.seen 1 : Int), .int .i64 (T.seen 2 : Int), .int .i64 (T.seen 3 : Int), .int .i64 (T.seen 4 : Int), .int .i64 (T.seen 5 : Int), .int .i64 (T.seen 6 : Int), .int .i64 (T.seen 7 : Int), .slice a2 n2 c2]) := Lib.hid (by rw [hV1]; exact (heap_set9 _ _ _ _ _ _ _ _ _ _ _ _ (by omega)).trans F5.out.b8)
        have X1 : Hid (Box V1 B11 34 #[.int .i64 (T3.seen 0 : Int), .int .i64 (T3.seen 1 : Int), .int .i64 (T3.seen 2 : Int), .int .i64 (T3.seen 3 : Int), .int .i64 (T3.seen 4 : Int), .int .i64 (T3.seen 5 : Int), .int .i64 (T3.seen 6 : Int), .int .i64 (T3.seen 7 : Int), .slice a3 n3 c3] ∧ Box V1 B13 36 #[.int .i64 (T3.seen 0 : Int), .int .i64 (T3.seen 1 : Int), .int .i64 (T3.seen 2 : Int), .int .i64 (T3.seen 3 : Int), .int .i64 (T3.seen 4 : Int), .int .i64 (T3.seen 5 : Int), .int .i64 (T3.seen 6 : Int), .int .i64 (T3.seen 7 : Int), .slice a4 n4 c4]) := Lib.hid (by rw [hV1]; exact ⟨(heap_set9 _ _ _ _ _ _ _ _ _ _ _ _ (by omega)).trans G.out.1, (heap_set9 _ _ _ _ _ _ _ _ _ _ _ _ (by omega)).trans G.out.2.1⟩)
        have E1 : Hid (Held V1 (i + 1) T3 a3 n3) := Lib.hid (by rw [hV1]; exact ⟨El.only G.out.2.2.1.el u0 (fun b o hb => cell_set9 _ _ _ _ _ _ _ _ _ _ _ _ _ hb) (by simp), G.out.2.2.1.ok⟩)
        have E2 : Hid (HeldR V1 (i + 1) T3 a4 n4 c4) := Lib.hid (by rw [hV1]; exact ⟨El.only G.out.2.2.2.el u0 (fun b o hb => cell_set9 _ _ _ _ _ _ _ _ _ _ _ _ _ hb) (by simp), G.out.2.2.2.ok, G.out.2.2.2.nc, G.out.2.2.2.cm⟩)
        have EB : Hid (Below W.heap.size W V1) := Lib.hid (by rw [hV1]; exact below_set9 _ _ _ _ _ _ _ _ _ F5.out.bel (Nat.le_refl _))
        clear hS
        have hS := X1.out
        rw [← hV1]
        clear hV1 u0 u1 u2 u3 u4 u5 u6 u7 u8 v0 v1 v2 v3 v4 v5 v6 v7 v8 f0 f1 f2 f3 f4 f5 f6 f7 f8 G F5
        obtain ⟨v0, v1, v2, v3, v4, v5, v6, v7, v8⟩ := cell_nine Y2.out
        have f0 := free_nine Y2.out 0; have f1 := free_nine Y2.out 1; have f2 := free_nine Y2.out 2; have f3 := free_nine Y2.out 3; have f4 := free_nine Y2.out 4; have f5 := free_nine Y2.out 5; have f6 := free_nine Y2.out 6; have f7 := free_nine Y2.out 7; have f8 := free_nine Y2.out 8
        refine wpAnyH_ready (rs := [3]) (by kernel_rfl) (by simp) ?_
        refine AllReadyH.cons rfl (fun K hK => ?_) AllReadyH.nil
        try go_simp
        refine hK.out _ _ ⟨(heap_set9 _ _ _ _ _ _ _ _ _ _ _ _ (by omega)).trans X1.out.1, (heap_set9 _ _ _ _ _ _ _ _ _ _ _ _ (by omega)).trans X1.out.2⟩ (fun hS => ?_)
        clear hK K
        try simp only [Act.put, List.getElem_toArray, List.getElem_cons_succ, List.getElem_cons_zero, List.setIfInBounds_toArray, List.set_cons_zero, List.set_cons_succ]
        refine wpAnyH_done (by kernel_rfl) ?_ _
        all_goals go_wp2_with fail
        all_goals go_roundg (kk - (i + 1))
        all_goals first
          | omega
          | exact ⟨i + 1, T3, a3, n3, c3, a4, n4, c4, by go_num, by omega, Nat.le_refl _, Lib.hid ⟨(heap_set9 _ _ _ _ _ _ _ _ _ _ _ _ (by omega)).trans Y1.out, set_nine Y2.out, ⟨El.only E1.out.el v0 (fun b o hb => cell_set9 _ _ _ _ _ _ _ _ _ _ _ _ _ hb) (by simp), E1.out.ok⟩, ⟨El.only E2.out.el v0 (fun b o hb => cell_set9 _ _ _ _ _ _ _ _ _ _ _ _ _ hb) (by simp), E2.out.ok, E2.out.nc, E2.out.cm⟩, below_set9 _ _ _ _ _ _ _ _ _ EB.out (by omega)⟩, HP2⟩
      · subst he
        have HP2 : Hid (PM T (i + 1)) := Lib.hid (HP.out.full hr)
        clear hr hU HCA ht3 HP G
        go_wp2
        go_roundg (kk - (i + 1))
        case measure => omega
        case rel => exact ⟨i + 1, T, a1, n1, c1, a2, n2, c2, by go_num, by omega, Nat.le_refl _, Lib.hid ⟨F5.out.b7, F5.out.b8, F5.out.hs.more (Nat.le_succ i), F5.out.hr.more (Nat.le_succ i), F5.out.bel⟩, HP2⟩
    · have e : kk = i := by omega
      subst e
      have t1 : ¬ (kk : Int) < (kk : Int) := by omega
      have HOP : Hid (∀ w : World, Calls Try.prog 23 #[.agg #[.int .i64 0, .int .i64 0, .int .i64 0, .int .i64 0, .int .i64 0, .int .i64 0, .int .i64 0, .int .i64 0, .slice none 0 0], .int .i64 7, .string ⟨#[122, 122]⟩, .string ⟨#[119]⟩] w fun e w' => ∃ b o l c, e = .returned (.tuple #[.agg #[.int .i64 (b.seen 0 : Int), .int .i64 (b.seen 1 : Int), .int .i64 (b.seen 2 : Int), .int .i64 (b.seen 3 : Int), .int .i64 (b.seen 4 : Int), .int .i64 (b.seen 5 : Int), .int .i64 (b.seen 6 : Int), .int .i64 (b.seen 7 : Int), .slice o l c], .int .i64 0]) ∧ Hid (b = OT) ∧ Held w' 1 b o l ∧ Below w.heap.size w w') := Lib.hid (fun w => putA (m := 0) 0 (Held.none w) (by decide) 7 (by decide) ZZ ⟨#[119]⟩ (by decide) (by decide) (room_nil _))
      have h71 : kk ≤ 71 := by omega
      go_upto_region 14 with (go_at_call 23; refine (HOP.out _).mono ?_; rintro e w3 ⟨T3, a3, n3, c3, rfl, ht3, hh3, hb3⟩)
      clear HOP
      obtain ⟨V3, hV3⟩ : ∃ V3, V3 = w3.alloc (.cells #[.int .i64 (T3.seen 0 : Int), .int .i64 (T3.seen 1 : Int), .int .i64 (T3.seen 2 : Int), .int .i64 (T3.seen 3 : Int), .int .i64 (T3.seen 4 : Int), .int .i64 (T3.seen 5 : Int), .int .i64 (T3.seen 6 : Int), .int .i64 (T3.seen 7 : Int), .slice a3 n3 c3] 34) := ⟨_, rfl⟩
      have bv3 : Below wr.heap.size wr V3 := by rw [hV3]; exact below_then hb3 (box_below _ _)
      have F3 := Lib.hid (HF.out.keep bv3)
      have X3 : Hid (Box V3 w3.heap.size 34 #[.int .i64 (T3.seen 0 : Int), .int .i64 (T3.seen 1 : Int), .int .i64 (T3.seen 2 : Int), .int .i64 (T3.seen 3 : Int), .int .i64 (T3.seen 4 : Int), .int .i64 (T3.seen 5 : Int), .int .i64 (T3.seen 6 : Int), .int .i64 (T3.seen 7 : Int), .slice a3 n3 c3]) := Lib.hid (by rw [hV3]; exact heap_alloc_new _ _)
      have J3 : Hid (Held V3 71 T3 a3 n3) := Lib.hid (by rw [hV3]; exact (hh3.keep (box_below _ _)).more (by omega))
      rw [← hV3]
      clear hV3 bv3 hh3 hb3
      generalize w3.heap.size = B15 at X3 ⊢
      have MA := Lib.hid (mergeA c1 c3 (F3.out.hs.more h71) J3.out (by omega))
      obtain ⟨p0, p1, p2, p3, p4, p5, p6, p7, p8⟩ := cell_nine F3.out.b7
      obtain ⟨q0, q1, q2, q3, q4, q5, q6, q7, q8⟩ := cell_nine X3.out
      go_upto_region 15 with (go_at_call 25; refine MA.out.mono ?_; rintro e w4 ⟨M, a4, n4, c4, rfl, ht4, hh4, hb4⟩)
      have HM : Hid (M = merT T OT) := Lib.hid (by rw [ht4.out, ht3.out])
      clear MA ht3 ht4 p0 p1 p2 p3 p4 p5 p6 p7 p8 q0 q1 q2 q3 q4 q5 q6 q7 q8 X3 J3
      obtain ⟨V4, hV4⟩ : ∃ V4, V4 = w4.alloc (.cells #[.int .i64 (M.seen 0 : Int), .int .i64 (M.seen 1 : Int), .int .i64 (M.seen 2 : Int), .int .i64 (M.seen 3 : Int), .int .i64 (M.seen 4 : Int), .int .i64 (M.seen 5 : Int), .int .i64 (M.seen 6 : Int), .int .i64 (M.seen 7 : Int), .slice a4 n4 c4] 34) := ⟨_, rfl⟩
      have bv4 : Below V3.heap.size V3 V4 := by rw [hV4]; exact below_then hb4 (box_below _ _)
      have F4 := Lib.hid (F3.out.keep bv4)
      have X4 : Hid (Box V4 w4.heap.size 34 #[.int .i64 (M.seen 0 : Int), .int .i64 (M.seen 1 : Int), .int .i64 (M.seen 2 : Int), .int .i64 (M.seen 3 : Int), .int .i64 (M.seen 4 : Int), .int .i64 (M.seen 5 : Int), .int .i64 (M.seen 6 : Int), .int .i64 (M.seen 7 : Int), .slice a4 n4 c4]) := Lib.hid (by rw [hV4]; exact heap_alloc_new _ _)
      have J4 : Hid (Held V4 71 M a4 n4) := Lib.hid (by rw [hV4]; exact hh4.keep (box_below _ _))
      rw [← hV4]
      clear hV4 bv4 hh4 hb4 F3 HF
      generalize w4.heap.size = B17 at X4 ⊢
      have HML : Hid (M.L.length = n2 + 1) := Lib.hid (by rw [HM.out, mer_len F4.out.hs.ok HP.out.1, F4.out.hr.el.1])
      have n2s : n2 ≤ 600 := by have := F4.out.hr.len; omega
      have EN := Lib.hid (entries_any M.seen a4 n4 c4 M.L V4.drew (J4.out.el.keep (drew_below _)) (by have := J4.out.len; omega))
      have g1 : IntKind.i64.wrap ((n2 : Int) + 1) = (n2 : Int) + 1 := IntWalk.i64_in _ (by omega)
      have g2 : ((n2 : Int) + 1 == (n2 : Int) + 1) = true := beq_self_eq_true _
      obtain ⟨p0, p1, p2, p3, p4, p5, p6, p7, p8⟩ := cell_nine X4.out
      have r8 := (cell_nine F4.out.b8).2.2.2.2.2.2.2.2
      go_cut [91] (fun v wx => v = .bool false ∧ Hid (Below V4.heap.size V4 wx))
      · refine wp_region_held_drew (S := fun w' => w'.cell? ⟨B17, 0, none⟩ = some (.int .i64 (M.seen 0 : Int)) ∧ w'.cell? ⟨B17, 1, none⟩ = some (.int .i64 (M.seen 1 : Int)) ∧ w'.cell? ⟨B17, 2, none⟩ = some (.int .i64 (M.seen 2 : Int)) ∧ w'.cell? ⟨B17, 3, none⟩ = some (.int .i64 (M.seen 3 : Int)) ∧ w'.cell? ⟨B17, 4, none⟩ = some (.int .i64 (M.seen 4 : Int)) ∧ w'.cell? ⟨B17, 5, none⟩ = some (.int .i64 (M.seen 5 : Int)) ∧ w'.cell? ⟨B17, 6, none⟩ = some (.int .i64 (M.seen 6 : Int)) ∧ w'.cell? ⟨B17, 7, none⟩ = some (.int .i64 (M.seen 7 : Int)) ∧ w'.cell? ⟨B17, 8, none⟩ = some (.slice a4 n4 c4) ∧ w'.cell? ⟨W.heap.size + 1, 8, none⟩ = some (.slice a2 n2 c2)) (by kernel_rfl) ⟨p0, p1, p2, p3, p4, p5, p6, p7, p8, r8⟩ (fun hS => ?_)
        clear p0 p1 p2 p3 p4 p5 p6 p7 p8 r8
        refine wpAnyH_take (i := 0) (v := ?ve0) rfl (by kernel_rfl) (by kernel_rfl) (by kernel_rfl) (fun _ _ _ h => h) (Or.inl ⟨by rfl, ?hye0⟩) hS ?reste0
        case hye0 => (intro w hSw; (try dsimp only at hSw); (first | (go_simp; done) | (go_simp; with_reducible rfl)))
        try simp only [Act.put, List.getElem_toArray, List.getElem_cons_succ, List.getElem_cons_zero, List.setIfInBounds_toArray, List.set_cons_zero, List.set_cons_succ]
        refine wpAnyH_take (i := 1) (v := ?ve1) rfl (by kernel_rfl) (by kernel_rfl) (by kernel_rfl) (fun _ _ _ h => h) (Or.inl ⟨by rfl, ?hye1⟩) hS ?reste1
        case hye1 => (intro w hSw; (try dsimp only at hSw); (first | (go_simp; done) | (go_simp; with_reducible rfl)))
        try simp only [Act.put, List.getElem_toArray, List.getElem_cons_succ, List.getElem_cons_zero, List.setIfInBounds_toArray, List.set_cons_zero, List.set_cons_succ]
        refine wpAnyH_take (i := 2) (v := ?ve2) rfl (by kernel_rfl) (by kernel_rfl) (by kernel_rfl) (fun _ _ _ h => h) (Or.inl ⟨by rfl, ?hye2⟩) hS ?reste2
        case hye2 => (intro w hSw; (try dsimp only at hSw); (first | (go_simp; done) | (go_simp; with_reducible rfl)))
        try simp only [Act.put, List.getElem_toArray, List.getElem_cons_succ, List.getElem_cons_zero, List.setIfInBounds_toArray, List.set_cons_zero, List.set_cons_succ]
        refine wpAnyH_take (i := 3) (v := ?ve3) rfl (by kernel_rfl) (by kernel_rfl) (by kernel_rfl) (fun _ _ _ h => h) (Or.inl ⟨by rfl, ?hye3⟩) hS ?reste3
        case hye3 => (intro w hSw; (try dsimp only at hSw); (first | (go_simp; done) | (go_simp; with_reducible rfl)))
        try simp only [Act.put, List.getElem_toArray, List.getElem_cons_succ, List.getElem_cons_zero, List.setIfInBounds_toArray, List.set_cons_zero, List.set_cons_succ]
        refine wpAnyH_take (i := 6) (v := ?ve6) rfl (by kernel_rfl) (by kernel_rfl) (by kernel_rfl) (fun _ _ _ h => h) (Or.inl ⟨by rfl, ?hye6⟩) hS ?reste6
        case hye6 => (intro w hSw; (try dsimp only at hSw); (first | (go_simp; done) | (go_simp; with_reducible rfl)))
        try simp only [Act.put, List.getElem_toArray, List.getElem_cons_succ, List.getElem_cons_zero, List.setIfInBounds_toArray, List.set_cons_zero, List.set_cons_succ]
        refine wpAnyH_take (i := 7) (v := ?ve7) rfl (by kernel_rfl) (by kernel_rfl) (by kernel_rfl) (fun _ _ _ h => h) (Or.inl ⟨by rfl, ?hye7⟩) hS ?reste7
        case hye7 => (intro w hSw; (try dsimp only at hSw); (first | (go_simp; done) | (go_simp; with_reducible rfl)))
        try simp only [Act.put, List.getElem_toArray, List.getElem_cons_succ, List.getElem_cons_zero, List.setIfInBounds_toArray, List.set_cons_zero, List.set_cons_succ]
        refine wpAnyH_take (i := 8) (v := ?ve8) rfl (by kernel_rfl) (by kernel_rfl) (by kernel_rfl) (fun _ _ _ h => h) (Or.inl ⟨by rfl, ?hye8⟩) hS ?reste8
        case hye8 => (intro w hSw; (try dsimp only at hSw); (first | (go_simp; done) | (go_simp; with_reducible rfl)))
        try simp only [Act.put, List.getElem_toArray, List.getElem_cons_succ, List.getElem_cons_zero, List.setIfInBounds_toArray, List.set_cons_zero, List.set_cons_succ]
        refine wpAnyH_take (i := 9) (v := ?ve9) rfl (by kernel_rfl) (by kernel_rfl) (by kernel_rfl) (fun _ _ _ h => h) (Or.inl ⟨by rfl, ?hye9⟩) hS ?reste9
        case hye9 => (intro w hSw; (try dsimp only at hSw); (first | (go_simp; done) | (go_simp; with_reducible rfl)))
        try simp only [Act.put, List.getElem_toArray, List.getElem_cons_succ, List.getElem_cons_zero, List.setIfInBounds_toArray, List.set_cons_zero, List.set_cons_succ]
        refine wpAnyH_ready (rs := [4]) (by kernel_rfl) (by simp) ?_
        refine AllReadyH.cons rfl (fun K hK => ?_) AllReadyH.nil
        try go_simp
        go_at_call 26
        unfold tabV at EN
        refine EN.out.mono ?_
        rintro e w1 ⟨ae, ke, rfl, he1, hb⟩
        obtain ⟨z0, z1, z2, z3, z4, z5, z6, z7, z8, z9⟩ := hS
        have B1 := Lib.hid ((drew_below V4).trans hb)
        have x0 := cell_later hb z0
        have x1 := cell_later hb z1
        have x2 := cell_later hb z2
        have x3 := cell_later hb z3
        have x4 := cell_later hb z4
        have x5 := cell_later hb z5
        have x6 := cell_later hb z6
        have x7 := cell_later hb z7
        have x8 := cell_later hb z8
        have x9 := cell_later hb z9
        clear hb he1 EN z0 z1 z2 z3 z4 z5 z6 z7 z8 z9
        refine hK.out _ _ ⟨x0, x1, x2, x3, x4, x5, x6, x7, x8, x9⟩ (fun hS => ?_)
        clear hK K
        try simp only [Act.put, List.getElem_toArray, List.getElem_cons_succ, List.getElem_cons_zero, List.setIfInBounds_toArray, List.set_cons_zero, List.set_cons_succ]
        clear x0 x1 x2 x3 x4 x5 x6 x7 x8 x9
        rw [HML.out]
        have hcast : ((n2 + 1 : Nat) : Int) = (n2 : Int) + 1 := Int.natCast_add n2 1
        refine wpAnyH_take (i := 5) (v := ?ve5) rfl (by kernel_rfl) (by kernel_rfl) (by kernel_rfl) (fun _ _ _ h => h) (Or.inl ⟨by rfl, ?hye5⟩) hS ?reste5
        case hye5 => (intro w hSw; (try dsimp only at hSw); (first | (go_simp; done) | (go_simp; with_reducible rfl)))
        try simp only [Act.put, List.getElem_toArray, List.getElem_cons_succ, List.getElem_cons_zero, List.setIfInBounds_toArray, List.set_cons_zero, List.set_cons_succ]
        refine wpAnyH_take (i := 10) (v := ?ve10) rfl (by kernel_rfl) (by kernel_rfl) (by kernel_rfl) (fun _ _ _ h => h) (Or.inl ⟨by rfl, ?hye10⟩) hS ?reste10
        case hye10 => (intro w hSw; (try dsimp only at hSw); (first | (go_simp; done) | (go_simp; with_reducible rfl)))
        try simp only [Act.put, List.getElem_toArray, List.getElem_cons_succ, List.getElem_cons_zero, List.setIfInBounds_toArray, List.set_cons_zero, List.set_cons_succ]
        refine wpAnyH_take (i := 11) (v := ?ve11) rfl (by kernel_rfl) (by kernel_rfl) (by kernel_rfl) (fun _ _ _ h => h) (Or.inl ⟨by rfl, ?hye11⟩) hS ?reste11
        case hye11 => (intro w hSw; (try dsimp only at hSw); (first | (go_simp; done) | (go_simp; with_reducible rfl)))
        try simp only [Act.put, List.getElem_toArray, List.getElem_cons_succ, List.getElem_cons_zero, List.setIfInBounds_toArray, List.set_cons_zero, List.set_cons_succ]
        refine wpAnyH_done (by kernel_rfl) ?_ _
        all_goals go_wp2_with fail
        all_goals go_meet
        all_goals exact ⟨rfl, B1⟩
      · obtain ⟨rfl, B1⟩ := hcut
        have F5 := Lib.hid (F4.out.keep B1.out)
        have X5 := Lib.hid (row_keep B1.out X4.out)
        have J5 := Lib.hid (J4.out.keep B1.out)
        clear p0 p1 p2 p3 p4 p5 p6 p7 p8 r8 F4 X4 J4 EN g1 g2
        obtain ⟨er, U, hUok, hcase, hPt, hPr⟩ := putTwo M J5.out.ok (by omega) 0 (by decide) AA ⟨#[117]⟩ (by decide) (by decide)
        have HPT := Lib.hid (fun (w : World) (h : Held w 71 M a4 n4) => hPt w a4 n4 c4 h)
        have HCA := Lib.hid hcase
        clear hPt hPr hUok hcase
        obtain ⟨p0, p1, p2, p3, p4, p5, p6, p7, p8⟩ := cell_nine X5.out
        go_upto_region 18 with (go_at_call 23; refine (HPT.out _ J5.out).mono ?_; rintro e w6 ⟨T6, a6, n6, c6, rfl, ht6, hh6, hb6⟩)
        obtain ⟨V6, hV6⟩ : ∃ V6, V6 = w6.alloc (.cells #[.int .i64 (T6.seen 0 : Int), .int .i64 (T6.seen 1 : Int), .int .i64 (T6.seen 2 : Int), .int .i64 (T6.seen 3 : Int), .int .i64 (T6.seen 4 : Int), .int .i64 (T6.seen 5 : Int), .int .i64 (T6.seen 6 : Int), .int .i64 (T6.seen 7 : Int), .slice a6 n6 c6] 34) := ⟨_, rfl⟩
        have bv6 : Below wc.heap.size wc V6 := by rw [hV6]; exact below_then hb6 (box_below _ _)
        have F6 := Lib.hid (F5.out.keep bv6)
        have X6 : Hid (Box V6 w6.heap.size 34 #[.int .i64 (T6.seen 0 : Int), .int .i64 (T6.seen 1 : Int), .int .i64 (T6.seen 2 : Int), .int .i64 (T6.seen 3 : Int), .int .i64 (T6.seen 4 : Int), .int .i64 (T6.seen 5 : Int), .int .i64 (T6.seen 6 : Int), .int .i64 (T6.seen 7 : Int), .slice a6 n6 c6]) := Lib.hid (by rw [hV6]; exact heap_alloc_new _ _)
        have J6 : Hid (Held V6 72 T6 a6 n6) := Lib.hid (by rw [hV6]; exact hh6.keep (box_below _ _))
        rw [← hV6]
        clear hV6 bv6 hh6 hb6 F5 X5 J5 HPT B1 p0 p1 p2 p3 p4 p5 p6 p7 p8
        generalize w6.heap.size = B18 at X6 ⊢
        have hT2 : T.L.length = n2 := F6.out.hr.el.1
        have hRM : 0 < n2 → room M.L AA = true := fun h0 => by
          rw [HM.out]
          refine mer_room F6.out.hs.ok HP.out.1 (HP.out.2.2 ?_)
          cases hk : kk with
          | zero => rw [HP.out.2.1 hk] at hT2; simp [Tab.none] at hT2; omega
          | succ q => omega
        have HRM := Lib.hid hRM
        clear hT2 hRM
        have r8 := (cell_nine F6.out.b8).2.2.2.2.2.2.2.2
        obtain ⟨p0, p1, p2, p3, p4, p5, p6, p7, p8⟩ := cell_nine X6.out
        go_cut [111] (fun v wx => v = .bool false ∧ Hid (Below V6.heap.size V6 wx))
        · by_cases h0 : 0 < n2
          · have z1 : (0 : Int) < (n2 : Int) := by omega
            have z2 : decide ((0 : Int) < (n2 : Int)) = true := by simpa using h0
            rcases HCA.out with ⟨hr, he, hU⟩ | ⟨hr, he, hU⟩
            · subst he
              have HG : Hid (Calls Try.prog 12 #[.agg #[.int .i64 (T6.seen 0 : Int), .int .i64 (T6.seen 1 : Int), .int .i64 (T6.seen 2 : Int), .int .i64 (T6.seen 3 : Int), .int .i64 (T6.seen 4 : Int), .int .i64 (T6.seen 5 : Int), .int .i64 (T6.seen 6 : Int), .int .i64 (T6.seen 7 : Int), .slice a6 n6 c6], .string ⟨#[97, 97]⟩] V6 fun e w' => ∃ ao c, e = .returned (.slice ao 1 c) ∧ Sl w' ao 1 [⟨#[117]⟩] ∧ Below V6.heap.size V6 w') := Lib.hid (by
                have e0 : getL T6.L AA = [⟨#[117]⟩] := by rw [ht6.out, hU]; exact get_put M 0 (by decide) AA ⟨#[117]⟩
                have k := get_any T6.seen a6 n6 c6 T6.L AA V6 J6.out.el (by have := J6.out.len; omega)
                rw [e0] at k
                exact k)
              have l9 : 1 ≤ 900000 := by omega
              clear hr hU HCA HRM h0
              go_wp2_with (first | (go_at_call 12; refine HG.out.mono ?_; rintro e w7 ⟨a7, c7, rfl, hs7, hb7⟩; have S7 := Lib.hid hs7; have B7 := Lib.hid hb7; clear hs7 hb7) | (go_at_call 11; refine (strings_same a7 _ 1 c7 1 [⟨#[117]⟩] _ (S7.out.keep (box_below _ _)) (sl_one1 _ _ _) l9).mono ?_; rintro e w8 ⟨rfl, hb8⟩; have B8 := Lib.hid (below_then B7.out (below_then (box_below _ _) hb8)); clear hb8))
              go_meet
              exact ⟨rfl, B8⟩
            · exact absurd (HRM.out h0) (by rw [hr]; simp)
          · have z1 : ¬ (0 : Int) < (n2 : Int) := by omega
            have z2 : decide ((0 : Int) < (n2 : Int)) = false := by simpa using h0
            go_wp2
            go_meet
            exact ⟨rfl, Lib.hid (Below.refl _ _)⟩
        · obtain ⟨rfl, B7⟩ := hcut
          have BW7 := Lib.hid (F6.out.bel.trans (B7.out.mono F6.out.bel.size))
          have HNN : Hid (∀ w : World, Calls Try.prog 19 #[.int .i64 2] w fun e w' => e = .returned (.tuple #[.pointer (some ⟨w.heap.size + 1, 0, none⟩), .int .i64 0]) ∧ NetR w' 0 (w.heap.size + 1) w.heap.size none 0 (List.replicate 2 slot0) [] ∧ Below w.heap.size w w') := Lib.hid (fun w => newNet_ok 2 w (by omega) (by omega))
          clear F6 X6 J6 HRM HCA HM HML HP p0 p1 p2 p3 p4 p5 p6 p7 p8 r8 B7 ht6 e1 e2 k0 k1 kn0 kn1 e3 e4 nn0 nn1 h71 n2s hi hgg hsn hsn7
          obtain ⟨mm, hmm⟩ : ∃ mm, mm = mN % 60 := ⟨_, rfl⟩
          have e5 : (mN : Int) % 60 = (mm : Int) := by omega
          have m60 : mm < 60 := by omega
          have e6 : IntKind.i64.wrap (mm : Int) = (mm : Int) := IntWalk.i64_in _ (by omega)
          have e7 : IntKind.i64.wrap (200 + (mm : Int)) = 200 + (mm : Int) := IntWalk.i64_in _ (by omega)
          have m0 : (0 : Int) ≤ (mm : Int) := by omega
          have m1 : (mm : Int) ≤ 59 := by omega
          have mn0 : (0 : Int) ≤ (mN : Int) := by omega
          have mn1 : (mN : Int) ≤ 255 := by omega
          clear hmm
          go_upto_region 21 with (go_at_call 19; refine (HNN.out _).mono ?_; rintro e w9 ⟨rfl, hn9, hb9⟩)
          have S0 : Hid (SF W w9 (wc.heap.size + 1) wc.heap.size 0 none 0 (List.replicate 2 slot0) []) := Lib.hid ⟨hn9, rfl, rfl, BW7.out.trans (hb9.mono BW7.out.size), Nat.le_succ_of_le BW7.out.size, BW7.out.size, fun j o s e => by cases e⟩
          clear hn9 hb9 HNN BW7
          obtain ⟨g, hg⟩ : ∃ g, g = wc.heap.size := ⟨_, rfl⟩
          rw [← hg] at S0 ⊢
          clear hg
          obtain ⟨b, hb⟩ : ∃ b, b = g + 1 := ⟨_, rfl⟩
          rw [← hb] at S0 ⊢
          clear hb
          go_wp2
          go_loopg [22, 23] (200 + mm) (fun gg s22 _ wq => ∃ (j : Nat) (lo : Option Addr) (lc : Nat) (ts : List Slot) (ms : List LSlot), s22 = .int .i64 (j : Int) ∧ j ≤ 200 + mm ∧ 200 + mm - j ≤ gg ∧ Hid (SF W wq b g j lo lc ts ms))
          case atStart => exact ⟨0, _, _, _, _, rfl, Nat.zero_le _, by omega, S0⟩
          case round =>
            obtain ⟨j, lo, lc, ts, ms, rfl, hj, hgj, HS⟩ := hrel
            have j0 : (0 : Int) ≤ (j : Int) := by omega
            by_cases hjl : j < 200 + mm
            · have t2 : (j : Int) < 200 + (mm : Int) := by omega
              have SE := Lib.hid (netSendU HS.out.net 0 1)
              by_cases hj6 : j < 256
              · have t3 : (j : Int) < 256 := by omega
                have t4 : decide ((j : Int) < 256) = true := by simpa using t3
                have t5 : ¬ 256 ≤ (j : Int) := by omega
                have t6 : decide (256 ≤ (j : Int)) = false := decide_eq_false t5
                go_wp2_with (go_at_call 27; refine SE.out.mono ?_; rintro e wz ho; obtain ⟨he, lo2, lc2, ts2, ms2, hS2⟩ := HS.out.step ho; rw [if_pos hj6] at he; subst he; have HS2 := Lib.hid hS2; clear ho hS2)
                go_roundg (200 + mm - (j + 1))
                case measure => omega
                case rel => exact ⟨j + 1, lo2, lc2, ts2, ms2, by go_num, by omega, Nat.le_refl _, HS2⟩
              · have t3 : ¬ (j : Int) < 256 := by omega
                have t4 : decide ((j : Int) < 256) = false := decide_eq_false t3
                have t5 : 256 ≤ (j : Int) := by omega
                have t6 : decide (256 ≤ (j : Int)) = true := decide_eq_true t5
                go_wp2_with (go_at_call 27; refine SE.out.mono ?_; rintro e wz ho; obtain ⟨he, lo2, lc2, ts2, ms2, hS2⟩ := HS.out.step ho; rw [if_neg hj6] at he; subst he; have HS2 := Lib.hid hS2; clear ho hS2)
                go_roundg (200 + mm - (j + 1))
                case measure => omega
                case rel => exact ⟨j + 1, lo2, lc2, ts2, ms2, by go_num, by omega, Nat.le_refl _, HS2⟩
            · have t2 : ¬ (j : Int) < 200 + (mm : Int) := by omega
              have LT := Lib.hid (letters_any HS.out.net)
              have hlen := HS.out.len
              have hq : ((ms.length : Int) == min (256 : Int) (200 + (mm : Int))) = true := beq_iff_eq.2 (by omega)
              have BQ := Lib.hid HS.out.bel
              clear hlen
              go_wp2_with (first | (go_at_call 28; refine LT.out.mono ?_; rintro e wz ⟨az, cz, rfl, _, hbz⟩; have BZ := Lib.hid (BQ.out.trans (hbz.mono BQ.out.size)); clear hbz) | (go_at_call 8; refine (awake_any _).mono ?_; rintro e wy ⟨rfl, hby⟩; have BY := Lib.hid (BZ.out.trans (hby.mono BZ.out.size)); clear hby))
              go_ret
              exact ⟨rfl, BY.out⟩
end Go.Proofs.Ytpghehckojdgeaa
