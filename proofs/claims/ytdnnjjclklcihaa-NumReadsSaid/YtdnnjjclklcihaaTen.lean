/- scale at nil; powerOfTen. -/
import Derived.Test.YtdnnjjclklcihaaScale
set_option linter.unusedVariables false
namespace Go.Proofs.Ytdnnjjclklcihaa
open Go.RowKit

set_option maxHeartbeats 1000000 in
theorem scale_nil (base : Nat) (F E : Int) (ex : Nat) (W : World) (hE : E = (ex : Int)) (hex : ex < 4294967296) (hbase : base ≤ W.heap.size) :
    Calls Try.prog 123 #[.slice none 0 0, .int .u32 F, .int .u32 E] W (ScalePost base 104 0 ex W) := by
  subst hE
  go_enter Try.func123, Try.ntmps123
  go_wp2
  go_loop [7, 14] (fun cv iv => cv = .int .u64 (ex : Int) ∧ iv = .int .i64 0) (fun cv iv => 0)
  case atStart => exact ⟨rfl, rfl⟩
  case round =>
    obtain ⟨rfl, rfl⟩ := hrel
    have HBa := Lib.hid hbase
    clear hbase
    by_cases hc0 : ex = 0
    · subst hc0
      go_wp2
      go_ret
      exact ⟨_, 0, [], rfl, Own.nil _ _ _ _, Dig.nil _, by omega, rfl, Top.nil, Below.refl _ _⟩
    · have hc1 : (0 : Int) < (ex : Int) := by omega
      go_wp2_with (at_builtin; refine wpList_app rfl _ _ 22 rfl base 104 .u32 4 Try.underlying22 (by kernel_rfl) _ 0 [] rfl (Own.nil _ _ _ _) _ ex rfl rfl (by omega) (by omega) HBa.out ?_; intro v' w2 hown' hbel')
      go_ret
      refine ⟨v', 1, [ex], rfl, hown', Dig.cons (by rw [B32_eq]; exact hex) (Dig.nil _), by omega, ?_, ?_, hbel'⟩
      · simp [val]
      · intro _; simpa using hc0

/-- scale of whatever the call owns -/
theorem scale_any (base n : Nat) (v : Value) (xs : List Nat) (F E : Int) (f ex : Nat) (W : World) (hown : Own .u32 W base 104 v n xs) (hd : Dig B32 xs) (ht : Top xs) (hF : F = (f : Int)) (hE : E = (ex : Int))
    (hf0 : 0 < f) (hf : f < 4294967296) (hex : ex < 4294967296) (hn : n ≤ 1000000000) (hbase : base ≤ W.heap.size) :
    Calls Try.prog 123 #[v, .int .u32 F, .int .u32 E] W (ScalePost base 104 n (f * val B32 xs + ex) W) := by
  rcases hown.cases with ⟨rfl, rfl, rfl⟩ | ⟨g, cap, rfl, _⟩
  · have := scale_nil base F E ex W hE hex hbase
    simpa [val] using this
  · exact scale_own base g n cap xs F E f ex W hown hd ht hF hE hf0 hf hex hn hbase

theorem Own.new1 (w : World) (k : IntKind) (e : Nat) (V : Int) (x : Nat) (hV : V = (x : Int)) : Own k (w.alloc (.cells #[.int k V] e)) w.heap.size e (.slice (some ⟨w.heap.size, 0, none⟩) 1 1) 1 [x] := by
  subst hV
  have := World.ownsRow_lit (base := w.heap.size) (e := e) (size := 1) w #[.int k (x : Int)] 1 (Nat.le_refl _) (by decide) rfl
  exact this

def TenRel (W : World) (pv iv : Value) (wr : World) : Prop :=
  ∃ (n i : Nat) (xs : List Nat), iv = .int .i64 (i : Int) ∧ Own .u32 wr W.heap.size 104 pv n xs ∧ Dig B32 xs ∧ Top xs ∧ n ≤ i + 1 ∧ val B32 xs = 10 ^ i ∧ Below W.heap.size W wr

set_option maxHeartbeats 1000000 in
theorem powerOfTen_any (N : Int) (n : Nat) (W : World) (hN : N = (n : Int)) (hn : n ≤ 100000000) :
    Calls Try.prog 95 #[.int .i64 N] W (fun e w' => ∃ ao len cap, e = .returned (.slice ao len cap) ∧ N32 w' ao len (10 ^ n) ∧ len ≤ n + 1 ∧ Below W.heap.size W w') := by
  subst hN
  have hA := Lib.hid (Own.new1 W .u32 104 1 1 rfl)
  have hB := Lib.hid ((Below.refl W.heap.size W).alloc (Nat.le_refl _) (.cells #[.int .u32 1] 104))
  go_enter Try.func95, Try.ntmps95
  go_wp2
  go_loopw [3, 6] (fun pv iv wr => TenRel W pv iv wr ∧ intOf iv ≤ (n : Int)) (fun pv iv _ => n - (intOf iv).toNat)
  case atStart =>
    refine ⟨⟨1, 0, [1], rfl, hA.out, Dig.cons (by decide) (Dig.nil _), fun _ => by simp, by omega, rfl, hB.out⟩, by simp [intOf]⟩
  case round =>
    obtain ⟨⟨k, i, xs, rfl, hown, hd, ht, hk, hv, hbel⟩, hin⟩ := hrel
    have hin2 : i ≤ n := by simp only [intOf] at hin; omega
    clear hin
    obtain ⟨ao, cap, rfl, hlc, hcm, hsl⟩ := hown.sl
    have HO := Lib.hid hown
    have HD := Lib.hid hd
    have HT := Lib.hid ht
    have HV := Lib.hid hv
    have HB := Lib.hid hbel
    have HS := Lib.hid hsl
    clear hown hd ht hv hbel hsl
    by_cases hil : i < n
    · have b1 : (i : Int) < (n : Int) := by omega
      go_wp2_with (go_at_call 123; refine (scale_any _ k _ xs _ _ 10 0 _ HO.out HD.out HT.out rfl rfl (by omega) (by omega) (by omega) (by omega) HB.out.size).mono ?_; rintro e w2 ⟨v', n', xs', rfl, hown', hd', hn', hv', ht', hb'⟩)
      go_roundw
      case rel => exact ⟨⟨n', i + 1, xs', by go_num, hown', hd', ht', by omega, by rw [hv', HV.out, Nat.pow_succ]; omega, HB.out.trans hb'⟩, by simp [intOf]; omega⟩
      case measure => simp [intOf]; omega
    · obtain rfl : i = n := by omega
      go_wp2
      go_ret
      exact ⟨ao, k, cap, rfl, ⟨xs, HS.out, HD.out, HT.out, HV.out⟩, hk, HB.out⟩
end Go.Proofs.Ytdnnjjclklcihaa
