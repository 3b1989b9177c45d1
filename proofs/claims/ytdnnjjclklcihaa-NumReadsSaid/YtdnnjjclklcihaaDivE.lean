/- divide by one digit. -/
import Derived.Test.YtdnnjjclklcihaaWrite
import Derived.Deep.RegionWith
set_option linter.unusedVariables false
namespace Go.Proofs.Ytdnnjjclklcihaa
open Go.RowKit

set_option maxHeartbeats 400000 in
theorem shrink_nil (D : Int) (W : World) :
    Calls Try.prog 108 #[.slice none 0 0, .int .u32 D] W (fun e w' => e = .returned (.tuple #[.slice none 0 0, .int .u32 0]) ∧ W = w') := by
  go_enter Try.func108, Try.ntmps108
  go_wp2
  go_loop [6, 7] (fun rv iv => rv = .int .u64 0 ∧ iv = .int .i64 (-1)) (fun rv iv => 0)
  case atStart => exact ⟨rfl, rfl⟩
  case round =>
    obtain ⟨rfl, rfl⟩ := hrel
    go_wp2_with (go_at_call 98; refine (trim_raw _ _ _ _ _ (Sl.nil _ _ _) (by omega) (by omega)).mono ?_; rintro e w3 ⟨⟨ao', m, rfl, hm, ha', hz', ht, hzz⟩, rfl⟩)
    go_ret2
    obtain rfl : m = 0 := by omega
    obtain rfl := hz' rfl
    exact ⟨rfl, rfl⟩

def DupDrew (len : Nat) (xs : List Nat) (W : World) (e : Ending) (w' : World) : Prop :=
  (len = 0 ∧ e = .returned (.slice none 0 0) ∧ W.drew = w') ∨
  (0 < len ∧ e = .returned (.slice (some ⟨W.heap.size, 0, none⟩) len len) ∧ Hid (Blk .u32 w' W.heap.size 104 xs) ∧ Hid (Below W.heap.size W w') ∧ W.heap.size < w'.heap.size)

/-- duplicate behind a draw -/
theorem duplicate_drew (ao : Option Addr) (len cap : Nat) (xs : List Nat) (W : World) (hs : Sl .u32 W ao len xs) (hl : len ≤ 1000000000) :
    Calls Try.prog 79 #[.slice ao len cap] W.drew (DupDrew len xs W) :=
  (duplicate_any ao len cap xs W.drew hs.drew hl).mono fun e w' h => by
    rcases h with ⟨h1, h2, h3⟩ | ⟨h1, h2, h3, h4, h5⟩
    · exact .inl ⟨h1, h2, h3⟩
    · exact .inr ⟨h1, h2, h3, (Below.refl _ _).drew.trans h4, h5⟩

def DivPost (m n : Nat) (W : World) (e : Ending) (w' : World) : Prop :=
  ∃ qo ql qc ro rl rc, e = .returned (.tuple #[.slice qo ql qc, .slice ro rl rc]) ∧ N32 w' qo ql (m / n) ∧ N32 w' ro rl (m % n) ∧ Below W.heap.size W w'

/-- divide is right for m and n -/
def DivOk (m n : Nat) : Prop := ∀ (ao bo : Option Addr) (la lb ca cb : Nat) (W : World), N32 W ao la m → N32 W bo lb n → la ≤ 1000000000 → lb ≤ 1000000000 →
  Calls Try.prog 86 #[.slice ao la ca, .slice bo lb cb] W (DivPost m n W)

set_option maxHeartbeats 2000000 in
theorem divide_easy (m n : Nat) (hn0 : 0 < n) (hn : n < B32) : DivOk m n := by
  intro ao bo la lb ca cb W ha hb hla hlb
  obtain ⟨xb, ⟨hxb, bb, ob, hbo, hcb⟩, hdb, htb, hvb⟩ := hb
  have hlb1 : lb = 1 := by
    have h1 : xb = [n] := val_inj B32_pos hdb (Dig.cons hn (Dig.nil _)) htb (fun _ => by simp; omega) (by rw [hvb]; simp [val])
    rw [h1] at hxb
    exact hxb.symm
  subst hlb1
  have hx0 : xb[0]?.getD 0 = n := by
    have h1 : xb = [n] := val_inj B32_pos hdb (Dig.cons hn (Dig.nil _)) htb (fun _ => by simp; omega) (by rw [hvb]; simp [val])
    rw [h1]; rfl
  obtain rfl := hbo (by omega)
  have hcell := hcb 0 (by omega)
  rw [Nat.add_zero, hx0] at hcell
  obtain ⟨xa, hsa, hda, hta, hva⟩ := ha
  have HSA := Lib.hid hsa
  have HDA := Lib.hid hda
  have HTA := Lib.hid hta
  have HVA := Lib.hid hva
  rw [B32_eq] at hn
  clear hxb hbo hcb hdb htb hvb hx0 hsa hda hta hva
  by_cases h0 : la = 0
  · subst h0
    go_enter Try.func86, Try.ntmps86
    go_wp2_with fail
    go_region_with (first | (go_at_call 79; refine (duplicate_drew _ _ _ xa W HSA.out (by omega)).mono ?_; rintro e w1 (⟨_, rfl, rfl⟩ | ⟨h, _⟩); rotate_left; omega) | (go_at_call 108; refine (shrink_nil _ _).mono ?_; rintro e w1 ⟨rfl, rfl⟩))
    all_goals
      go_wp2_with (go_at_call 63; refine (fromWord_any _ 0 _ rfl (by omega)).mono ?_; rintro e w5 ⟨ro, rl, rc, rfl, hr5, hb5⟩)
      go_ret2
      have hm0 : m = 0 := by
        rw [← HVA.out, List.eq_nil_of_length_eq_zero HSA.out.len]; rfl
      exact ⟨none, 0, 0, ro, rl, rc, rfl, by rw [hm0, Nat.zero_div]; exact N32.nil _ _, by rw [hm0, Nat.zero_mod]; exact hr5, (Below.refl _ _).drew.trans hb5⟩
  · have hcl : ∀ w1, Below W.heap.size W w1 → w1.cell? ⟨bb, ob, none⟩ = some (.int .u32 (n : Int)) := fun w1 h => cell_later h hcell
    have HCL := Lib.hid hcl
    clear hcl
    go_enter Try.func86, Try.ntmps86
    go_wp2_with fail
    go_region_with (first | (go_at_call 79; refine (duplicate_drew _ _ _ xa W HSA.out (by omega)).mono ?_; rintro e w1 (⟨h, _⟩ | ⟨_, rfl, hB, hb1, hz1⟩); omega; have hcl1 := HCL.out w1 hb1.out) | (go_at_call 108; refine (shrink_any W.heap.size 104 la la xa [] _ n _ (by simpa using hB.out) HSA.out.len HDA.out rfl hn0 hn (by omega) (Nat.le_refl _) (by omega)).mono ?_; rintro e w4 ⟨ao4, m4, zs4, rfl, hB4, hl4, hd4, hv4, hm4, ha4, hz4, ht4, hvt4, hg4, hs4⟩))
    all_goals
      have hmod : val B32 xa % n < 4294967296 := Nat.lt_of_lt_of_le (Nat.mod_lt _ hn0) (by omega)
      have HB4 := Lib.hid hB4
      have HT4 := Lib.hid ht4
      have HV4 := Lib.hid hvt4
      have HG4 := Lib.hid hg4
      have HL4 := Lib.hid hl4
      have HD4 := Lib.hid hd4
      have HA4 := Lib.hid ha4
      clear hB4 ht4 hvt4 hg4 hl4 hd4 ha4 hz4 hv4 hs4
      go_wp2_with (go_at_call 63; refine (fromWord_any _ (val B32 xa % n) _ rfl (by omega)).mono ?_; rintro e w5 ⟨ro, rl, rc, rfl, hr5, hb5⟩)
      go_ret2
      have hbel4 : Below W.heap.size W w4 := hb1.out.grown HG4.out (Nat.le_of_lt hz1) (fun k hk => by cases hk; exact Nat.le_refl _)
      have hq : N32 w4 ao4 m4 (m / n) := by
        refine ⟨zs4.take m4, ?_, HD4.out.take _, HT4.out, by rw [HV4.out, HVA.out]⟩
        have := HB4.out.sl0 m4 (by have := HL4.out; simp; omega)
        rw [List.append_nil] at this
        by_cases h : m4 = 0
        · subst h; exact Sl.nil _ _ _
        · rw [HA4.out (by omega)]; exact this
      exact ⟨ao4, m4, m4, ro, rl, rc, rfl, hq.keep hb5, by rw [← HVA.out]; exact hr5, below_then hbel4 hb5⟩
end Go.Proofs.Ytdnnjjclklcihaa
