/- Part 2 of the contracts: Shelf, DNode, DAdd, DPassM. -/
import Derived.Shelf.Small.Bits
import Derived.Shelf.Small.Wraps
import Derived.Shelf.Strconv.Itoa0
import Derived.Ground.Names2Prog
import Derived.Shelf.Slices.CompactI
import Derived.Shelf.Slices.SearchI
import Derived.Shelf.Slices.Cells
import Derived.Ground.SlsfProg
import Derived.Shelf.SlSortCmp.Whole1
import Derived.Shelf.SlSortCmp.NoneTotal
import Derived.Shelf.SlIterI.Stops
import Derived.Shelf.SlIterI.Nil
import Derived.Ground.GgzProg
import Derived.Shelf.SlMaps.Clone
import Derived.Ground.SlmcProg
import Derived.Test.YthjmiimkplhffaaProg
import Derived.Deep.RegionHeld3
import Derived.IntWalk
import Derived.Deep.DeepCutAuto
import Derived.Test.YthjmiimkplhffaaPart1

/- The contracts that the program calls come to, at the numbers of this program. -/
namespace Go.Proofs
open Go.Shelf
def Try.lays128_ren : Go.Shelf.Ren := ⟨fun | 128 => 75 | n => n, fun | 51 => 111 | 3 => 3 | 4 => 4 | 46 => 105 | 5 => 5 | 9 => 9 | n => n, fun | n => n⟩
theorem Try.lays128 : Go.Proofs.Lays.n128 Try.prog Try.lays128_ren := {
  mixed := by kernel_rfl
  f128 := Try.func75.trans (congrArg some (by kernel_rfl))
  t3 := Try.underlying3
  a3 := Try.isAgg3
  z3 := Try.sizeOf3
  v3 := Try.zeroValue3
  t4 := Try.underlying4
  a4 := Try.isAgg4
  z4 := Try.sizeOf4
  v4 := Try.zeroValue4
  t5 := Try.underlying5
  a5 := Try.isAgg5
  z5 := Try.sizeOf5
  v5 := Try.zeroValue5
  t9 := Try.underlying9
  a9 := Try.isAgg9
  z9 := Try.sizeOf9
  v9 := Try.zeroValue9
  t46 := Try.underlying105
  a46 := Try.isAgg105
  z46 := Try.sizeOf105
  v46 := Try.zeroValue105
  t51 := Try.underlying111
  a51 := Try.isAgg111
  z51 := Try.sizeOf111
  v51 := Try.zeroValue111 }
theorem Try.bits_Len32 (x : Int) (w : World) (h0 : 0 ≤ x) (h1 : x ≤ 4294967295) :
    Calls Try.prog 75 #[.int .u32 x] w fun e w' => e = .returned (.int .i64 (Lib.bitLen x.toNat)) ∧ w' = w := Any.bits_Len32 Try.lays128 x w h0 h1
def Try.lays125_ren : Go.Shelf.Ren := ⟨fun | 125 => 70 | 128 => 75 | 129 => 76 | n => n, fun | 46 => 105 | 3 => 3 | 51 => 111 | 53 => 113 | 4 => 4 | 5 => 5 | 9 => 9 | n => n, fun | n => n⟩
theorem Try.lays125 : Go.Proofs.Lays.n125 Try.prog Try.lays125_ren := {
  mixed := by kernel_rfl
  f125 := Try.func70.trans (congrArg some (by kernel_rfl))
  f128 := Try.func75.trans (congrArg some (by kernel_rfl))
  f129 := Try.func76.trans (congrArg some (by kernel_rfl))
  t3 := Try.underlying3
  a3 := Try.isAgg3
  z3 := Try.sizeOf3
  v3 := Try.zeroValue3
  t4 := Try.underlying4
  a4 := Try.isAgg4
  z4 := Try.sizeOf4
  v4 := Try.zeroValue4
  t5 := Try.underlying5
  a5 := Try.isAgg5
  z5 := Try.sizeOf5
  v5 := Try.zeroValue5
  t9 := Try.underlying9
  a9 := Try.isAgg9
  z9 := Try.sizeOf9
  v9 := Try.zeroValue9
  t46 := Try.underlying105
  a46 := Try.isAgg105
  z46 := Try.sizeOf105
  v46 := Try.zeroValue105
  t51 := Try.underlying111
  a51 := Try.isAgg111
  z51 := Try.sizeOf111
  v51 := Try.zeroValue111
  t53 := Try.underlying113
  a53 := Try.isAgg113
  z53 := Try.sizeOf113
  v53 := Try.zeroValue113 }
theorem Try.bits_Len (x : Int) (w : World) (h0 : 0 ≤ x) (h1 : x ≤ 18446744073709551615) :
    Calls Try.prog 70 #[.int .u64 x] w fun e w' => e = .returned (.int .i64 (Lib.bitLen x.toNat)) ∧ w' = w := Any.bits_Len Try.lays125 x w h0 h1
def Try.lays215_ren : Go.Shelf.Ren := ⟨fun | 215 => 66 | n => n, fun | 3 => 3 | 4 => 4 | n => n, fun | n => n⟩
theorem Try.lays215 : Go.Proofs.Lays.n215 Try.prog Try.lays215_ren := {
  mixed := by kernel_rfl
  f215 := Try.func66.trans (congrArg some (by kernel_rfl))
  t3 := Try.underlying3
  a3 := Try.isAgg3
  z3 := Try.sizeOf3
  v3 := Try.zeroValue3
  t4 := Try.underlying4
  a4 := Try.isAgg4
  z4 := Try.sizeOf4
  v4 := Try.zeroValue4 }
open Go.RowKit in
theorem Try.cmp_isNaN_int (x : Int) (w : World) :
    Calls Try.prog 66 #[.int .i64 x] w fun e w' => e = .returned (.bool false) ∧ w' = w := Any.cmp_isNaN_int Try.lays215 x w
def Try.lays122_ren : Go.Shelf.Ren := ⟨fun | 122 => 52 | 215 => 66 | n => n, fun | 3 => 3 | 4 => 4 | n => n, fun | n => n⟩
theorem Try.lays122 : Go.Proofs.Lays.n122 Try.prog Try.lays122_ren := {
  mixed := by kernel_rfl
  f122 := Try.func52.trans (congrArg some (by kernel_rfl))
  f215 := Try.func66.trans (congrArg some (by kernel_rfl))
  t3 := Try.underlying3
  a3 := Try.isAgg3
  z3 := Try.sizeOf3
  v3 := Try.zeroValue3
  t4 := Try.underlying4
  a4 := Try.isAgg4
  z4 := Try.sizeOf4
  v4 := Try.zeroValue4 }
open Go.RowKit in
theorem Try.cmp_Compare_int (x y : Int) (w : World) :
    Calls Try.prog 52 #[.int .i64 x, .int .i64 y] w fun e w' => e = .returned (.int .i64 (Lib.compareInt x y)) ∧ w' = w := Any.cmp_Compare_int Try.lays122 x y w
def Try.lays129_ren : Go.Shelf.Ren := ⟨fun | 129 => 76 | n => n, fun | 53 => 113 | 3 => 3 | 4 => 4 | 46 => 105 | 5 => 5 | 9 => 9 | n => n, fun | n => n⟩
theorem Try.lays129 : Go.Proofs.Lays.n129 Try.prog Try.lays129_ren := {
  mixed := by kernel_rfl
  f129 := Try.func76.trans (congrArg some (by kernel_rfl))
  t3 := Try.underlying3
  a3 := Try.isAgg3
  z3 := Try.sizeOf3
  v3 := Try.zeroValue3
  t4 := Try.underlying4
  a4 := Try.isAgg4
  z4 := Try.sizeOf4
  v4 := Try.zeroValue4
  t5 := Try.underlying5
  a5 := Try.isAgg5
  z5 := Try.sizeOf5
  v5 := Try.zeroValue5
  t9 := Try.underlying9
  a9 := Try.isAgg9
  z9 := Try.sizeOf9
  v9 := Try.zeroValue9
  t46 := Try.underlying105
  a46 := Try.isAgg105
  z46 := Try.sizeOf105
  v46 := Try.zeroValue105
  t53 := Try.underlying113
  a53 := Try.isAgg113
  z53 := Try.sizeOf113
  v53 := Try.zeroValue113 }
theorem Try.bits_Len64 (x : Int) (w : World) (h0 : 0 ≤ x) (h1 : x ≤ 18446744073709551615) :
    Calls Try.prog 76 #[.int .u64 x] w fun e w' => e = .returned (.int .i64 (Lib.bitLen x.toNat)) ∧ w' = w := Any.bits_Len64 Try.lays129 x w h0 h1
def Try.laysNm220_ren : Go.Shelf.Ren := ⟨fun | 20 => 62 | n => n, fun | 22 => 79 | 3 => 3 | 4 => 4 | 0 => 0 | n => n, fun | n => n⟩
theorem Try.laysNm220 : Go.Proofs.Lays2.n20 Try.prog Try.laysNm220_ren := {
  mixed := by kernel_rfl
  f20 := Try.func62.trans (congrArg some (by kernel_rfl))
  t0 := Try.underlying0
  a0 := Try.isAgg0
  z0 := Try.sizeOf0
  v0 := Try.zeroValue0
  t3 := Try.underlying3
  a3 := Try.isAgg3
  z3 := Try.sizeOf3
  v3 := Try.zeroValue3
  t4 := Try.underlying4
  a4 := Try.isAgg4
  z4 := Try.sizeOf4
  v4 := Try.zeroValue4
  t22 := Try.underlying79
  a22 := Try.isAgg79
  z22 := Try.sizeOf79
  v22 := Try.zeroValue79
  i3 := by kernel_rfl }
open Go.RowKit Go.Lib Go.Sort in
theorem Try.slices_Compact_int_arr (blk off cap : Nat) (d : Array Int) (w : World) (hH : Holds encI w blk off d) (hsz : d.size ≤ 9223372036854775807) (hcap : d.size ≤ cap) :
    Calls Try.prog 62 #[.slice (some ⟨blk, off, none⟩) d.size cap] w fun e w' => e = .returned (.slice (some ⟨blk, off, none⟩) (compactUpTo d d.size).length cap) ∧ ∃ q, w' = putRow encI (Sort.ahead w q) blk off (compactUpTo d d.size ++ List.replicate (d.size - (compactUpTo d d.size).length) 0).toArray := Any.slices_Compact_int_arr Try.laysNm220 blk off cap d w hH hsz hcap
open Go.RowKit Go.Lib Go.Sort in
theorem Try.slices_Compact_int (blk off cap : Nat) (zs : List Int) (w : World) (hH : Holds (Value.int .i64) w blk off zs.toArray) (hsz : zs.length ≤ 9223372036854775807) (hcap : zs.length ≤ cap) :
    Calls Try.prog 62 #[.slice (some ⟨blk, off, none⟩) zs.length cap] w fun e w' => e = .returned (.slice (some ⟨blk, off, none⟩) (Lib.compact zs).length cap) ∧ ∃ q, w' = putRow (Value.int .i64) (Sort.ahead w q) blk off (Lib.compact zs ++ List.replicate (zs.length - (Lib.compact zs).length) 0).toArray := Any.slices_Compact_int Try.laysNm220 blk off cap zs w hH hsz hcap
open Go.RowKit Go.Lib Go.Sort in
theorem Try.slices_Compact_int_empty (a : Option Addr) (cap : Nat) (w : World) :
    Calls Try.prog 62 #[.slice a 0 cap] w fun e w' => e = .returned (.slice a 0 cap) ∧ w' = w := Any.slices_Compact_int_empty Try.laysNm220 a cap w
open Go.RowKit Go.Lib Go.Sort in
theorem Try.slices_Compact_int_cells (b off n c : Nat) (zs : List Int) (w : World) (hz : n ≤ zs.length) (hbig : n ≤ 9223372036854775807) (hcap : n ≤ c) (hc : ∀ j, j < zs.length → w.cell? ⟨b, off + j, none⟩ = some (.int .i64 (zs.getD j 0))) (hf : ∀ j, j < n → w.frozen? ⟨b, off + j, none⟩ = false) :
    Calls Try.prog 62 #[.slice (some ⟨b, off, none⟩) n c] w fun e w' => e = .returned (.slice (some ⟨b, off, none⟩) (Lib.compact (zs.take n)).length c) ∧ ∃ q, w' = (w.drewN q).setCells b off ((Lib.compact (zs.take n) ++ List.replicate (n - (Lib.compact (zs.take n)).length) 0).map (Value.int .i64)) := Any.slices_Compact_int_cells Try.laysNm220 b off n c zs w hz hbig hcap hc hf
def Try.laysSlF6_f68_ren : Go.Shelf.Ren := ⟨fun | 6 => 68 | 15 => 70 | 14 => 74 | 28 => 75 | 29 => 76 | 20 => 77 | 21 => 78 | 22 => 79 | 23 => 80 | 24 => 81 | 25 => 82 | 26 => 83 | 27 => 84 | 46 => 85 | 47 => 86 | 48 => 87 | 49 => 88 | 50 => 89 | 57 => 90 | n => n, fun | 22 => 79 | 24 => 3 | 25 => 74 | 3 => 3 | 39 => 105 | 0 => 0 | 53 => 111 | 55 => 113 | 4 => 4 | 46 => 116 | 45 => 115 | 50 => 120 | 5 => 5 | 9 => 9 | 66 => 122 | 70 => 126 | 76 => 128 | 77 => 75 | n => n, fun | n => n⟩
theorem Try.laysSlF6_f68 : Go.Proofs.SlLaysF.n6 Try.prog Try.laysSlF6_f68_ren := {
  mixed := by kernel_rfl
  f6 := ⟨Try.f68.name, by decide, Try.func68.trans (congrArg some (by kernel_rfl))⟩
  f14 := ⟨Try.f74.name, by decide, Try.func74.trans (congrArg some (by kernel_rfl))⟩
  f15 := Try.func70.trans (congrArg some (by kernel_rfl))
  f20 := ⟨Try.f77.name, by decide, Try.func77.trans (congrArg some (by kernel_rfl))⟩
  f21 := ⟨Try.f78.name, by decide, Try.func78.trans (congrArg some (by kernel_rfl))⟩
  f22 := ⟨Try.f79.name, by decide, Try.func79.trans (congrArg some (by kernel_rfl))⟩
  f23 := ⟨Try.f80.name, by decide, Try.func80.trans (congrArg some (by kernel_rfl))⟩
  f24 := ⟨Try.f81.name, by decide, Try.func81.trans (congrArg some (by kernel_rfl))⟩
  f25 := ⟨Try.f82.name, by decide, Try.func82.trans (congrArg some (by kernel_rfl))⟩
  f26 := ⟨Try.f83.name, by decide, Try.func83.trans (congrArg some (by kernel_rfl))⟩
  f27 := ⟨Try.f84.name, by decide, Try.func84.trans (congrArg some (by kernel_rfl))⟩
  f28 := Try.func75.trans (congrArg some (by kernel_rfl))
  f29 := Try.func76.trans (congrArg some (by kernel_rfl))
  f46 := ⟨Try.f85.name, by decide, Try.func85.trans (congrArg some (by kernel_rfl))⟩
  f47 := Try.func86.trans (congrArg some (by kernel_rfl))
  f48 := Try.func87.trans (congrArg some (by kernel_rfl))
  f49 := ⟨Try.f88.name, by decide, Try.func88.trans (congrArg some (by kernel_rfl))⟩
  f50 := ⟨Try.f89.name, by decide, Try.func89.trans (congrArg some (by kernel_rfl))⟩
  f57 := ⟨Try.f90.name, by decide, Try.func90.trans (congrArg some (by kernel_rfl))⟩
  t0 := Try.underlying0
  a0 := Try.isAgg0
  z0 := Try.sizeOf0
  v0 := Try.zeroValue0
  t3 := Try.underlying3
  a3 := Try.isAgg3
  z3 := Try.sizeOf3
  v3 := Try.zeroValue3
  t4 := Try.underlying4
  a4 := Try.isAgg4
  z4 := Try.sizeOf4
  v4 := Try.zeroValue4
  t5 := Try.underlying5
  a5 := Try.isAgg5
  z5 := Try.sizeOf5
  v5 := Try.zeroValue5
  t9 := Try.underlying9
  a9 := Try.isAgg9
  z9 := Try.sizeOf9
  v9 := Try.zeroValue9
  t22 := Try.underlying79
  a22 := Try.isAgg79
  z22 := Try.sizeOf79
  v22 := Try.zeroValue79
  a24 := Try.isAgg3
  z24 := Try.sizeOf3
  t25 := Try.underlying74
  a25 := Try.isAgg74
  z25 := Try.sizeOf74
  v25 := Try.zeroValue74
  t39 := Try.underlying105
  a39 := Try.isAgg105
  z39 := Try.sizeOf105
  v39 := Try.zeroValue105
  t45 := Try.underlying115
  a45 := Try.isAgg115
  z45 := Try.sizeOf115
  v45 := Try.zeroValue115
  t46 := Try.underlying116
  a46 := Try.isAgg116
  z46 := Try.sizeOf116
  v46 := Try.zeroValue116
  t50 := Try.underlying120
  a50 := Try.isAgg120
  z50 := Try.sizeOf120
  v50 := Try.zeroValue120
  t53 := Try.underlying111
  a53 := Try.isAgg111
  z53 := Try.sizeOf111
  v53 := Try.zeroValue111
  t55 := Try.underlying113
  a55 := Try.isAgg113
  z55 := Try.sizeOf113
  v55 := Try.zeroValue113
  t66 := Try.underlying122
  a66 := Try.isAgg122
  z66 := Try.sizeOf122
  v66 := Try.zeroValue122
  t70 := Try.underlying126
  a70 := Try.isAgg126
  z70 := Try.sizeOf126
  v70 := Try.zeroValue126
  t76 := Try.underlying128
  a76 := Try.isAgg128
  z76 := Try.sizeOf128
  v76 := Try.zeroValue128
  t77 := Try.underlying75
  a77 := Try.isAgg75
  z77 := Try.sizeOf75
  v77 := Try.zeroValue75 }
open Go.RowKit Go.Lib Go.Sort in
theorem Try.slices_SortFunc_eq {α : Type} [Inhabited α] (enc : α → Value) (h1 : OneCell enc) (cf : α → α → Int) (hO : SWO (ltOf cf)) (g : Nat) (cb : Array Value) (blk off cap : Nat) (d : Array α) (w : World) (eg : ∀ args w, (callFunc g args).run Try.prog w = .ok (.enter g args) w) (hcmp : CmpLays1 Try.prog g cb enc cf blk off d.size w) (hH : Holds enc w blk off d) (hblk : blk < w.heap.size) (hsz : d.size < 4611686018427387904) :
    Calls Try.prog 68 #[.slice (some ⟨blk, off, none⟩) d.size cap, .func (.func g) #[] cb] w fun e w' =>
      e = .returned (.tuple #[]) ∧ ∃ n os, w' = sortWorld enc w blk off n (pdq (ltOf cf) d 0 d.size (Lib.bitLen d.size) true true) os := Any.slices_SortFunc_eq Try.laysSlF6_f68 enc h1 cf hO g cb blk off cap d w eg hcmp hH hblk hsz
open Go.RowKit Go.Lib Go.Sort in
theorem Try.slices_SortFunc {α : Type} [Inhabited α] (enc : α → Value) (h1 : OneCell enc) (cf : α → α → Int) (hO : SWO (ltOf cf)) (g : Nat) (cb : Array Value) (blk off cap : Nat) (d : Array α) (w : World) (eg : ∀ args w, (callFunc g args).run Try.prog w = .ok (.enter g args) w) (hcmp : CmpLays1 Try.prog g cb enc cf blk off d.size w) (hH : Holds enc w blk off d) (hblk : blk < w.heap.size) (hsz : d.size < 4611686018427387904) :
    Calls Try.prog 68 #[.slice (some ⟨blk, off, none⟩) d.size cap, .func (.func g) #[] cb] w fun e w' =>
      e = .returned (.tuple #[]) ∧ ∃ d' n os, PermIn 0 d.size d d' ∧ SortedIn (ltOf cf) 0 d.size d' ∧ w' = sortWorld enc w blk off n d' os := Any.slices_SortFunc Try.laysSlF6_f68 enc h1 cf hO g cb blk off cap d w eg hcmp hH hblk hsz
open Go.RowKit Go.Lib Go.Sort in
theorem Try.slices_SortFunc_total {α : Type} [Inhabited α] (enc : α → Value) (h1 : OneCell enc) (cf : α → α → Int) (hO : SWO (ltOf cf)) (g : Nat) (cb : Array Value) (blk off cap : Nat) (d : Array α) (w : World) (eg : ∀ args w, (callFunc g args).run Try.prog w = .ok (.enter g args) w) (hcmp : CmpLays1 Try.prog g cb enc cf blk off d.size w) (hH : Holds enc w blk off d) (hblk : blk < w.heap.size) (hsz : d.size < 4611686018427387904) (hT : ∀ x y, (ltOf cf) x y = false → (ltOf cf) y x = false → x = y) :
    Calls Try.prog 68 #[.slice (some ⟨blk, off, none⟩) d.size cap, .func (.func g) #[] cb] w fun e w' =>
      e = .returned (.tuple #[]) ∧ ∃ n os, w' = sortWorld enc w blk off n (d.toList.mergeSort fun x y => !(ltOf cf) y x).toArray os := Any.slices_SortFunc_total Try.laysSlF6_f68 enc h1 cf hO g cb blk off cap d w eg hcmp hH hblk hsz hT
def Try.keysLay_ren : Go.Shelf.Ren := ⟨fun | 7 => 55 | 10 => 69 | n => n, fun | 23 => 67 | 26 => 3 | 3 => 3 | 28 => 88 | 0 => 0 | 27 => 87 | 33 => 101 | 4 => 4 | n => n, fun | n => n⟩
theorem Try.keysLay : Go.Proofs.SlLaysZI.n7 Try.prog Try.keysLay_ren := {
  mixed := by kernel_rfl
  f7 := ⟨Try.f55.name, by decide, Try.func55.trans (congrArg some (by kernel_rfl))⟩
  f10 := ⟨Try.f69.name, by decide, Try.func69.trans (congrArg some (by kernel_rfl))⟩
  t0 := Try.underlying0
  a0 := Try.isAgg0
  z0 := Try.sizeOf0
  v0 := Try.zeroValue0
  t4 := Try.underlying4
  a4 := Try.isAgg4
  z4 := Try.sizeOf4
  v4 := Try.zeroValue4
  t23 := Try.underlying67
  a23 := Try.isAgg67
  z23 := Try.sizeOf67
  v23 := Try.zeroValue67
  t26 := Try.underlying3
  a26 := Try.isAgg3
  z26 := Try.sizeOf3
  v26 := Try.zeroValue3
  t27 := Try.underlying87
  a27 := Try.isAgg87
  z27 := Try.sizeOf87
  v27 := Try.zeroValue87
  t28 := Try.underlying88
  a28 := Try.isAgg88
  z28 := Try.sizeOf88
  v28 := Try.zeroValue88
  t33 := Try.underlying101
  a33 := Try.isAgg101
  z33 := Try.sizeOf101
  v33 := Try.zeroValue101 }
def Try.collectLay_ren : Go.Shelf.Ren := ⟨fun | 8 => 67 | 11 => 73 | n => n, fun | 26 => 3 | 28 => 88 | 24 => 79 | 0 => 0 | 33 => 101 | 4 => 4 | n => n, fun | n => n⟩
theorem Try.collectLay : Go.Proofs.SlLaysZI.n8 Try.prog Try.collectLay_ren := {
  mixed := by kernel_rfl
  f8 := ⟨Try.f67.name, by decide, Try.func67.trans (congrArg some (by kernel_rfl))⟩
  f11 := ⟨Try.f73.name, by decide, Try.func73.trans (congrArg some (by kernel_rfl))⟩
  t0 := Try.underlying0
  a0 := Try.isAgg0
  z0 := Try.sizeOf0
  v0 := Try.zeroValue0
  t24 := Try.underlying79
  a24 := Try.isAgg79
  z24 := Try.sizeOf79
  v24 := Try.zeroValue79
  t26 := Try.underlying3
  a26 := Try.isAgg3
  z26 := Try.sizeOf3
  v26 := Try.zeroValue3
  t28 := Try.underlying88
  a28 := Try.isAgg88
  z28 := Try.sizeOf88
  v28 := Try.zeroValue88
  i26 := by kernel_rfl }
def Try.cloneLay_ren : Go.Shelf.Ren := ⟨fun | 5 => 59 | 7 => 71 | n => n, fun | 23 => 67 | 25 => 3 | 3 => 3 | 4 => 4 | 20 => 20 | n => n, fun | n => n⟩
theorem Try.cloneLay : Go.Proofs.SlLaysW.n5 Try.prog Try.cloneLay_ren := {
  mixed := by kernel_rfl
  f5 := ⟨Try.f59.name, by decide, Try.func59.trans (congrArg some (by kernel_rfl))⟩
  f7 := Try.func71.trans (congrArg some (by kernel_rfl))
  t4 := Try.underlying4
  a4 := Try.isAgg4
  z4 := Try.sizeOf4
  v4 := Try.zeroValue4
  t20 := Try.underlying20
  a20 := Try.isAgg20
  z20 := Try.sizeOf20
  v20 := Try.zeroValue20
  t23 := Try.underlying67
  a23 := Try.isAgg67
  z23 := Try.sizeOf67
  v23 := Try.zeroValue67 }
end Go.Proofs

/- The program's level, limit and span. -/
set_option linter.unusedVariables false
set_option linter.unusedSimpArgs false
namespace Go.Proofs.Ythjmiimkplhffaa
open Go.RowKit Go.Maps

theorem bitLen_at : ∀ (d : Nat) (n : Nat), 2 ^ d ≤ n → n < 2 ^ (d + 1) → d ≤ 60 → Lib.bitLen n = d + 1
  | 0, n, h1, h2, _ => by
    obtain rfl : n = 1 := by simp at h1 h2; omega
    decide
  | d + 1, n, h1, h2, h3 => by
    have h4 : n < 2 ^ 64 := Nat.lt_of_lt_of_le h2 (Nat.pow_le_pow_right (by omega) (by omega))
    rw [Lib.bitLen_half n (by have := Nat.pow_pos (n := d + 1) (show 0 < 2 by omega); omega) h4, bitLen_at d (n / 2) (by rw [Nat.pow_succ] at h1; omega) (by rw [Nat.pow_succ] at h2; omega) (by omega)]
    omega

theorem at_nat {d : Nat} {q : Int} (h : At d q) : 2 ^ d ≤ q.toNat ∧ q.toNat < 2 ^ (d + 1) := by
  obtain ⟨n, rfl⟩ := Int.eq_ofNat_of_zero_le (show 0 ≤ q by have := h.pos; omega)
  have h1 := h.1
  have h2 := h.2
  rw [Int.toNat_natCast]
  exact ⟨by exact_mod_cast h1, by exact_mod_cast h2⟩
theorem pow_le_int {a b : Nat} (h : a ≤ b) : (2 : Int) ^ a ≤ 2 ^ b := by exact_mod_cast Nat.pow_le_pow_right (by omega) h
theorem at_le {d e : Nat} {q : Int} (h : At d q) (he : d + 1 ≤ e) : q < 2 ^ e := Int.lt_of_lt_of_le h.2 (pow_le_int he)

theorem level_any (d : Nat) (q : Int) (W : World) (h : At d q) (hd : d ≤ 40) : Calls Try.prog 57 #[.int .i64 q] W (fun e w' => e = .returned (.int .i64 (d : Int)) ∧ w' = W) := by
  have h1 := h.pos
  have h2 : q < 9223372036854775807 := by
    have := at_le h (show d + 1 ≤ 41 by omega)
    omega
  have HB := Lib.hid (bitLen_at d q.toNat (at_nat h).1 (at_nat h).2 (by omega))
  clear h
  go_enter Try.func57, Try.ntmps57
  go_wp2_with fail
  refine (Try.bits_Len _ _ (by omega) (by omega)).mono ?_
  rw [HB.out]
  rintro e w' ⟨rfl, rfl⟩
  go_wp2
  go_ret
  exact ⟨by simp, rfl⟩

/-- A digest in memory: its value and its tree. -/
def dval (L F : Int) (tb : Nat) : Value := .agg #[.int .i64 L, .int .i64 F, .pointer (some ⟨tb, 0, none⟩)]

set_option maxHeartbeats 1000000 in
theorem limit_any (l f : Int) (tb mb : Nat) (n : Int) (c : Int → Int) (W : World) (h : Tree W tb mb n c) (hf : 1 ≤ f) (hf2 : f ≤ 1000) (hn : 0 ≤ n) (hn2 : n ≤ 1099511627776) :
    Calls Try.prog 49 #[.agg #[.int .i64 l, .int .i64 f, .pointer (some ⟨tb, 0, none⟩)]] W (fun e w' => e = .returned (.int .i64 (n / f)) ∧ Below W.heap.size W w') := by
  have hbe : Below W.heap.size W (W.alloc (.cells #[.int .i64 l, .int .i64 f, .pointer (some ⟨tb, 0, none⟩)] 28)) := (Below.refl _ _).alloc (Nat.le_refl _) _
  have c1 := cell_later hbe h.c1
  have HB := Lib.hid hbe
  clear h hbe
  go_enter Try.func49, Try.ntmps49
  go_wp2_with fail
  go_quiet (fail)
  go_wp2
  go_ret
  exact ⟨rfl, below_drewN HB.out _⟩

theorem wrap_sh (q : Int) (k : Nat) (h0 : 0 ≤ q) (h1 : q * 2 ^ k ≤ 4194304) : IntKind.i64.wrap (q * 2 ^ k) = q * 2 ^ k := IntWalk.i64_in _ ⟨by have : (0 : Int) ≤ q * 2 ^ k := Int.mul_nonneg h0 (Int.le_of_lt (Int.pow_pos (by omega))); omega, by omega⟩

/-- the range of a node -/
def lo (L : Nat) (d : Nat) (q : Int) : Int := q * 2 ^ (L - d) - 2 ^ L
def hi (L : Nat) (d : Nat) (q : Int) : Int := (q + 1) * 2 ^ (L - d) - 2 ^ L - 1

theorem span_bound {L d : Nat} {q : Int} (h : At d q) (hd : d ≤ L) : 2 ^ L ≤ q * 2 ^ (L - d) ∧ (q + 1) * 2 ^ (L - d) ≤ 2 ^ (L + 1) := by
  have e1 : (2 : Int) ^ L = 2 ^ d * 2 ^ (L - d) := by rw [← Int.pow_add]; congr 1; omega
  have e2 : (2 : Int) ^ (L + 1) = 2 ^ (d + 1) * 2 ^ (L - d) := by rw [← Int.pow_add]; congr 1; omega
  have hp : (0 : Int) ≤ 2 ^ (L - d) := Int.le_of_lt (Int.pow_pos (by omega))
  rw [e1, e2]
  exact ⟨Int.mul_le_mul_of_nonneg_right h.1 hp, Int.mul_le_mul_of_nonneg_right (by have := h.2; omega) hp⟩

set_option maxHeartbeats 2000000 in
theorem span_any (L d : Nat) (f q : Int) (W : World) (hL : L ≤ 20) (h : At d q) (hd : d ≤ L) :
    Calls Try.prog 38 #[.agg #[.int .i64 (L : Int), .int .i64 f], .int .i64 q] W (fun e w' => e = .returned (.tuple #[.int .i64 (lo L d q), .int .i64 (hi L d q)]) ∧ Below W.heap.size W w') := by
  have hbe : Below W.heap.size W (W.alloc (.cells #[.int .i64 (L : Int), .int .i64 f] 25)) := (Below.refl _ _).alloc (Nat.le_refl _) _
  have HA := Lib.hid h
  have HB := Lib.hid hbe
  have h1 := h.pos
  have h2 : q < 2097152 := by have := at_le h (show d + 1 ≤ 21 by omega); simpa using this
  have l0 : (0 : Int) ≤ (L : Int) := by omega
  have l1 : (L : Int) ≤ 20 := by omega
  have l2 : (0 : Int) ≤ (L : Int) - (d : Int) := by omega
  have hb := span_bound h hd
  have hp : (2 : Int) ^ (L + 1) ≤ 2097152 := by have := pow_le_int (show L + 1 ≤ 21 by omega); simpa using this
  have hq0 : (0 : Int) < 2 ^ (L - d) := Int.pow_pos (by omega)
  have hx : (q + 1) * 2 ^ (L - d) = q * 2 ^ (L - d) + 2 ^ (L - d) := by rw [Int.add_mul, Int.one_mul]
  have e0 : (0 : Int) < 2 ^ L := Int.pow_pos (by omega)
  have e3 : (2 : Int) ^ (L + 1) = 2 * 2 ^ L := by rw [Int.pow_succ]; omega
  have hv : Hid (lo L d q = q * 2 ^ (L - d) - 2 ^ L ∧ hi L d q = (q + 1) * 2 ^ (L - d) - 2 ^ L - 1) := ⟨rfl, rfl⟩
  obtain ⟨X, hX⟩ : ∃ x, x = q * (2 : Int) ^ (L - d) := ⟨_, rfl⟩
  obtain ⟨Y, hY⟩ : ∃ x, x = (q + 1) * (2 : Int) ^ (L - d) := ⟨_, rfl⟩
  obtain ⟨Z, hZ⟩ : ∃ x, x = (2 : Int) ^ L := ⟨_, rfl⟩
  rw [← hX, ← hY, ← hZ] at hv
  have HXW : Hid (IntKind.i64.wrap X = X) := IntWalk.i64_in _ (by omega)
  have HYW : Hid (IntKind.i64.wrap Y = Y) := IntWalk.i64_in _ (by omega)
  have bX : 0 ≤ X ∧ X ≤ 2097152 := by omega
  have bY : 0 ≤ Y ∧ Y ≤ 2097152 := by omega
  have bZ : 0 ≤ Z ∧ Z ≤ 2097152 := by omega
  have HE1 : Hid (IntKind.i64.wrap (IntKind.i64.wrap (q * 2 ^ (L - d)) - 2 ^ L) = lo L d q) := by
    rw [hv.out.1, ← hX, ← hZ, HXW.out]
    exact IntWalk.i64_in _ (by omega)
  have HE2 : Hid (IntKind.i64.wrap (IntKind.i64.wrap (IntKind.i64.wrap (IntKind.i64.wrap (q + 1) * 2 ^ (L - d)) - 2 ^ L) - 1) = hi L d q) := by
    rw [hv.out.2, IntWalk.i64_in (q + 1) (by omega), ← hY, ← hZ, HYW.out, IntWalk.i64_in (Y - Z) (by omega)]
    exact IntWalk.i64_in _ (by omega)
  have HL := Lib.hid (show ((L : Int) - (d : Int)).toNat = L - d by omega)
  clear h hbe hb hp hq0 hx e0 e3 hv bX bY bZ hX hY hZ HXW HYW
  go_enter Try.func38, Try.ntmps38
  go_wp2_with fail
  go_quiet ((go_at_call 57; exact Calls.quiet_of_same (level_any d q _ HA.out (by omega))))
  go_upto_region 2 with fail
  have c00 : (W.alloc (.cells #[.int .i64 (L : Int), .int .i64 f] 25)).cell? ⟨W.heap.size, 0, none⟩ = some (.int .i64 (L : Int)) := by simp
  have c01 : (W.alloc (.cells #[.int .i64 (L : Int), .int .i64 f] 25)).cell? ⟨W.heap.size, 1, none⟩ = some (.int .i64 f) := by simp
  go_region_held3 (fun w' => w'.cell? ⟨W.heap.size, 0, none⟩ = some (.int .i64 (L : Int)) ∧ w'.cell? ⟨W.heap.size, 1, none⟩ = some (.int .i64 f)) (go_keep)
    (first | (go_at_call 41; have _t := c50; refine (values_any _ _ _ l0 l1).mono ?_; rintro e w6 ⟨rfl, hb6⟩; have c60 := cell_later hb6 c50; have c61 := cell_later hb6 c51; have B6 := Lib.hid (below_then B5.out hb6); clear hb6) | (go_at_call 41; refine (values_any _ _ _ l0 l1).mono ?_; rintro e w5 ⟨rfl, hb5⟩; have c50 : w5.cell? ⟨W.heap.size, 0, none⟩ = some (.int .i64 (L : Int)) := cell_later hb5 c00; have c51 : w5.cell? ⟨W.heap.size, 1, none⟩ = some (.int .i64 f) := cell_later hb5 c01; have B5 := Lib.hid (below_then (below_drewN HB.out _) hb5); clear hb5))
  go_wp2
  go_ret2
  refine ⟨?_, B6.out⟩
  rw [← HE1.out, ← HE2.out]
  rfl
end Go.Proofs.Ythjmiimkplhffaa

/- The program's rows.add: each node is laid to the row of its depth. -/
set_option linter.unusedVariables false
set_option linter.unusedSimpArgs false
namespace Go.Proofs.Ythjmiimkplhffaa
open Go.RowKit Go.Maps

/-- behind rows.add -/
def Added (W : World) (R : Nat) (X : Nat → Prop) (r0 rs : Nat → List Int) (w' : World) : Prop :=
  (∃ Y : Nat → Prop, RowsAt w' R Y rs ∧ (∀ b, Y b → X b ∨ W.heap.size ≤ b) ∧ Only (fun b => b = R ∨ X b) W w') ∧ ∀ i, i < 20 → rs i = r0 i → w'.cell? ⟨R, i, none⟩ = W.cell? ⟨R, i, none⟩

/-- Memory that rows.add does not write. -/
def Off (ao : Option Addr) (R : Nat) (X : Nat → Prop) : Prop := ∀ a, ao = some a → a.block ≠ R ∧ ¬ X a.block

theorem Il.only {w w' : World} {ao : Option Addr} {len : Nat} {xs : List Int} {P : Nat → Prop} (h : Il w ao len xs) (ho : Only P w w') (hx : ∀ a, ao = some a → ¬ P a.block) : Il w' ao len xs := by
  obtain ⟨h1, b, off, h2, h3⟩ := h
  by_cases h0 : 0 < len
  · exact ⟨h1, b, off, h2, fun i hi => ho.cell (h3 i hi) (by have := hx _ (h2 h0); exact this)⟩
  · exact ⟨h1, b, off, h2, fun i hi => absurd hi (by omega)⟩

/-- one node more -/
theorem Added.step {W wr w2 : World} {R : Nat} {X : Nat → Prop} {rs : Nat → List Int} {l : List Int} {d : Nat} {p : Int} (h : Added W R X rs (addL rs l) wr) (hp : At d p) (hd : d < 20)
    (h2 : ∀ Y vs, wr.heap[R]? = some (.cells vs.toArray 93 (0, 0)) → RowsV wr Y vs (addL rs l) → ¬ Y R → (∀ b, Y b → X b ∨ W.heap.size ≤ b) →
      ∃ (wa wb : World) (v' : Value) (g : Nat), Below wr.heap.size wr wa ∧ wa.grownBy wb (nth vs d).ownBlock ∧ OwnI wb 0 3 v' ((addL rs l d).length + 1) (addL rs l d ++ [p]) ∧ v'.ownBlock = some g ∧ ((nth vs d).ownBlock = some g ∨ g = wa.heap.size) ∧ Drew (wb.setCell ⟨R, d, none⟩ v') w2) :
    Added W R X rs (addL rs (l ++ [p])) w2 := by
  obtain ⟨⟨Y, ⟨vs, hR, hV, hYR⟩, hY, hO⟩, hsame⟩ := h
  obtain ⟨wa, wb, v', g, ha, hb, hown, hg, hn, hw⟩ := h2 Y vs hR hV hYR hY
  have hRl : R < wr.heap.size := (Array.getElem?_eq_some_iff.1 hR).1
  have hl := hV.len
  have o1 : Only (fun b => (nth vs d).ownBlock = some b) wr wb := ⟨hb.os.trans ha.os, hb.tape.trans ha.tape, hb.output.trans ha.output, Nat.le_trans ha.size hb.size, fun k hk hp' => (hb.block k (by have := ha.size; omega) (fun e => hp' e.symm)).trans (ha.block k hk)⟩
  have hown' : OwnI wb 0 3 v' (addL rs l d ++ [p]).length (addL rs l d ++ [p]) := by simpa using hown
  have hV2 := hV.put hd o1 hown' hg (hn.imp id (fun e => by have := ha.size; omega))
  have hgR : g ≠ R := by
    rcases hn with e | e
    · exact fun k => hYR (by rw [← k]; exact hV.foot d g hd e)
    · have := ha.size; omega
  have hR2 : wb.heap[R]? = some (.cells vs.toArray 93 (0, 0)) := (o1.block R hRl (fun e => hYR (hV.foot d R hd e))).trans hR
  have o2 : Only (fun i => i = R) wb (wb.setCell ⟨R, d, none⟩ v') := Only.setCell wb ⟨R, d, none⟩ v'
  have hV3 := hV2.only o2 (fun b hb' e => by
    rcases hb' with k | k
    · exact hYR (e ▸ k)
    · exact hgR (k.symm.trans e))
  have hR3 := set_rows hR2 (i := d) v'
  obtain ⟨k, rfl⟩ := hw
  refine ⟨⟨fun b => Y b ∨ b = g, ⟨vs.set d v', hR3, ?_, ?_⟩, ?_, ?_⟩, fun i hi he => ?_⟩
  · rw [addL_snoc rs l hp]
    exact ⟨hV3.len, hV3.own, hV3.foot, hV3.apart⟩
  · rintro (k | k)
    · exact hYR k
    · exact hgR k.symm
  · rintro b (k | rfl)
    · exact hY b k
    · rcases hn with e | e
      · exact hY b (hV.foot d b hd e)
      · right; have := ha.size; have := hO.size; omega
  · have o3 : Only (fun b => (nth vs d).ownBlock = some b ∨ b = R) wr (wb.setCell ⟨R, d, none⟩ v') := (o1.mono (fun i hi => Or.inl hi)).trans (o2.mono (fun i hi => Or.inr hi))
    have o4 := hO.andThen o3 (fun i hi => by
      rcases hi with e | e
      · exact (hY i (hV.foot d i hd e)).imp Or.inr id
      · exact .inl (.inl e))
    exact ⟨o4.os, o4.tape, o4.output, o4.size, o4.block⟩
  · have hid : i ≠ d := by
      rintro rfl
      rw [addL_snoc rs l hp] at he
      simp only [if_pos rfl] at he
      have h1 := congrArg List.length he
      unfold addL at h1
      simp at h1
    have he2 : addL rs l i = rs i := by
      rw [addL_snoc rs l hp] at he
      simpa [hid] using he
    rw [← hsame i hi he2]
    show (wb.setCell ⟨R, d, none⟩ v').cell? ⟨R, i, none⟩ = _
    rw [cell_rows hR3 (by simp; omega), cell_rows hR (by omega), nth_set_other hid]

theorem keep_app {w w2 : World} {o : Obj} {row : Option Nat} {R d : Nat} {v : Value} (hg : (w.alloc o).grownBy w2 row) (hc : w.cell? ⟨R, d, none⟩ = some v) (hf : w.frozen? ⟨R, d, none⟩ = false) (hR : R < w.heap.size) (hne : some R ≠ row) :
    w2.cell? ⟨R, d, none⟩ = some v ∧ w2.frozen? ⟨R, d, none⟩ = false := by
  have h : w2.heap[R]? = w.heap[R]? := (hg.block R (by simp; omega) hne).trans (Below.heap_alloc w o R hR)
  exact ⟨(World.cell?_of_block (w := w) (a := ⟨R, d, none⟩) h).trans hc, (World.frozen?_of_block (w := w) (a := ⟨R, d, none⟩) h).trans hf⟩

theorem keep_new {w : World} {o : Obj} {R d : Nat} {v : Value} (hc : w.cell? ⟨R, d, none⟩ = some v) (hf : w.frozen? ⟨R, d, none⟩ = false) (hR : R < w.heap.size) :
    (w.alloc o).drew.cell? ⟨R, d, none⟩ = some v ∧ (w.alloc o).drew.frozen? ⟨R, d, none⟩ = false :=
  ⟨(World.cell?_of_block (w := w) (a := ⟨R, d, none⟩) (Below.heap_alloc w o R hR)).trans hc, (World.frozen?_of_block (w := w) (a := ⟨R, d, none⟩) (Below.heap_alloc w o R hR)).trans hf⟩

set_option maxHeartbeats 4000000 in
set_option maxRecDepth 100000 in
theorem add_any (R : Nat) (X : Nat → Prop) (rs : Nat → List Int) (ao : Option Addr) (la ca : Nat) (xs : List Int) (W : World) (hR : RowsAt W R X rs) (hs : Il W ao la xs) (hoff : Off ao R X)
    (hat : ∀ x ∈ xs, ∃ d, d < 20 ∧ At d x) (hlen : ∀ i, (rs i).length + la ≤ 8800000000000) :
    Calls Try.prog 60 #[.pointer (some ⟨R, 0, none⟩), .slice ao la ca] W (fun e w' => e = .returned (.tuple #[]) ∧ Added W R X rs (addL rs xs) w') := by
  have H0 : Hid (Added W R X rs (addL rs (xs.take 0)) W) := by
    show Added W R X rs _ W
    rw [List.take_zero, addL_nil]
    exact ⟨⟨X, hR, fun b hb => .inl hb, Only.refl _ _⟩, fun i hi he => rfl⟩
  have HS := Lib.hid hs
  have HL := Lib.hid hs.len
  have HO := Lib.hid hoff
  have HA := Lib.hid hat
  have HN := Lib.hid hlen
  have hla : la ≤ 8800000000000 := by have := hlen 0; omega
  clear hR hs hoff hat hlen
  go_enter Try.func60, Try.ntmps60
  go_wp2_with fail
  go_loopw [8] (fun t wr => ∃ k : Nat, k ≤ la ∧ t = .int .i64 (k : Int) ∧ Hid (Added W R X rs (addL rs (xs.take k)) wr)) (fun t wr => la - (intOf t).toNat)
  case atStart => exact ⟨0, by omega, rfl, H0⟩
  case round =>
    obtain ⟨k, hk, rfl, HI⟩ := hrel
    clear H0
    by_cases h1 : k < la
    · have u1 : (k : Int) < (la : Int) := by omega
      have u0 : (0 : Int) ≤ (k : Int) := by omega
      have hkx : k < xs.length := by rw [HL.out]; exact h1
      obtain ⟨d, hd, hAt⟩ := HA.out (xs[k]) (List.getElem_mem hkx)
      have HD := Lib.hid hAt
      obtain ⟨b, off, rfl, hc⟩ := HS.out.at (by omega)
      obtain ⟨⟨Y, ⟨vs, hRc, hV, hYR⟩, hY, hOn⟩, _⟩ := HI.out
      have ck : wr.cell? ⟨b, off + k, none⟩ = some (.int .i64 (xs[k]?.getD 0)) := hOn.cell (hc k h1) (by rintro (e | e); exact (HO.out _ rfl).1 e; exact (HO.out _ rfl).2 e)
      rw [List.getElem?_eq_getElem hkx] at ck
      simp only [Option.getD_some] at ck
      have cR : wr.cell? ⟨R, d, none⟩ = some (nth vs d) := cell_rows hRc (by rw [hV.len]; exact hd)
      have fR : wr.frozen? ⟨R, d, none⟩ = false := frozen_rows hRc
      have HV := Lib.hid hV
      have HY := Lib.hid hY
      have HYR := Lib.hid hYR
      have HR := Lib.hid hRc
      have HOW := Lib.hid (hV.own d hd)
      have hRl : R < wr.heap.size := (Array.getElem?_eq_some_iff.1 hRc).1
      have HRN := Lib.hid (show some R ≠ (nth vs d).ownBlock from fun e => hYR (hV.foot d R hd e.symm))
      have d0 : (0 : Int) ≤ (d : Int) := by omega
      have d1 : (d : Int) < 20 := by omega
      have HLE := Lib.hid (show (addL rs (xs.take k) d).length ≤ 8800000000000 by
        have h2 := HN.out d
        have h3 := List.length_filter_le (fun p => decide (At d p)) (xs.take k)
        unfold addL
        rw [List.length_append]
        rw [List.length_take] at h3
        omega)
      obtain ⟨x, hx⟩ : ∃ x, x = xs[k] := ⟨_, rfl⟩
      obtain ⟨v, hv⟩ : ∃ v, v = nth vs d := ⟨_, rfl⟩
      have HX := Lib.hid hx
      have HVV := Lib.hid hv
      rw [← hx] at ck HD
      rw [← hv] at cR HOW HRN
      clear hAt hc hV hY hYR hRc hOn hx hv
      go_upto_region 3 with fail
      have hk0 := keep_new (o := .cells #[.int .i64 x] 3) cR fR hRl
      have hk01 := hk0.1
      have hk02 := hk0.2
      go_region_law ((first | ((try go_simp); go_at_call 57; refine (level_any d x _ HD.out (by omega)).mono ?_; rintro e w5 ⟨he, hw⟩; subst he; subst hw) | (refine step_addX (w := wr.drew) (by rfl) (.tmp 20) (.tmp 22) 79 (by rfl) Try.underlying79 (by kernel_rfl) (v := v) (n := (addL rs (xs.take k) d).length) (xs := addL rs (xs.take k) d) (by rfl) (by exact HOW.out) (z := x) (by rfl) (by have := HLE.out; omega) ?_; intro g cap w2 hown' hg' hn'; have hk1 := (keep_app (w := wr.drew) hg' cR fR hRl HRN.out).1; have hk2 := (keep_app (w := wr.drew) hg' cR fR hRl HRN.out).2)))
      all_goals
        go_wp2
        go_roundw
        case rel =>
          refine ⟨k + 1, by omega, by go_num, ?_⟩
          show Added W R X rs (addL rs (xs.take (k + 1))) _
          rw [List.take_succ_eq_append_getElem hkx, ← HX.out]
          refine Added.step HI.out HD.out hd ?_
          intro Y' vs' h1' h2' h3' h4'
          have e : vs' = vs := by
            have e2 := h1'.symm.trans HR.out
            simpa using e2
          subst e
          exact ⟨wr.drew.alloc (.cells #[.int .i64 x] 3), w2, .slice (some ⟨g, 0, none⟩) ((addL rs (xs.take k) d).length + 1) cap, g, ((Below.refl _ _).drew).alloc (Nat.le_refl _) _, by rw [← HVV.out]; exact hg', hown', rfl, by rw [← HVV.out]; exact hn'.imp id (fun e => by rw [e]; simp), ⟨0, rfl⟩⟩
        case measure => simp only [intOf]; omega
    · have u1 : ¬ (k : Int) < (la : Int) := by omega
      go_wp2
      go_end0
      refine ⟨rfl, ?_⟩
      have e := HI.out
      rw [List.take_of_length_le (by rw [HL.out]; omega)] at e
      exact e
end Go.Proofs.Ythjmiimkplhffaa

/- Plain mathematics of a pass: what waits, what will wait, what has climbed. -/
set_option linter.unusedVariables false
namespace Go.Proofs.Ythjmiimkplhffaa

/-- after the nodes of S at one depth have climbed, just those may that might and are not in S -/
theorem can_lvlS {t : Int} {c : Int → Int} {S : Int → Prop} [DecidablePred S] {d : Nat} (hS : ∀ p, S p → At d p) {p : Int} (hp : At d p) : can t (lvlS t c S) p ↔ can t c p ∧ ¬ S p := by
  have h1 := hp.pos
  by_cases g : S p ∧ can t c p
  · constructor
    · intro h
      exfalso
      apply h.1
      have e1 : ¬ (S (2 * p) ∧ can t c (2 * p)) := fun k => (hS _ k.1).ne2 hp |>.1 rfl
      have e2 : ¬ (S (2 * p + 1) ∧ can t c (2 * p + 1)) := fun k => (hS _ k.1).ne2 hp |>.2 rfl
      have e3 : 2 * p / 2 = p := by omega
      have e4 : (2 * p + 1) / 2 = p := by omega
      unfold lvlS
      rw [if_neg e1, if_neg e2, e3, e4, if_pos g, if_pos g]
      rfl
    · exact fun h => absurd g.1 h.2
  · have a : lvlS t c S p = c p := by
      unfold lvlS
      rw [if_neg g, if_neg (fun k => hp.ne3 (hS _ k.1))]
    have b : lvlS t c S (2 * p) = c (2 * p) := by
      unfold lvlS
      rw [if_neg (fun k => (hS _ k.1).ne2 hp |>.1 rfl), if_neg (by rw [show 2 * p / 2 = p by omega]; exact g)]
    have e : lvlS t c S (2 * p + 1) = c (2 * p + 1) := by
      unfold lvlS
      rw [if_neg (fun k => (hS _ k.1).ne2 hp |>.2 rfl), if_neg (by rw [show (2 * p + 1) / 2 = p by omega]; exact g)]
    unfold can
    rw [a, b, e]
    constructor
    · exact fun h => ⟨h, fun k => g ⟨k, h⟩⟩
    · exact fun h => h.1

theorem can_fold {t : Int} {c : Int → Int} {d : Nat} {l : List Int} (hl : ∀ p ∈ l, At d p) {p : Int} (hp : At d p) : can t (foldF t c l) p ↔ can t c p ∧ p ∉ l := by
  rw [fold_lvl t d l c hl]
  exact can_lvlS hl hp

/-- nodes of another depth: what the climbs at the depth d leave -/
theorem lvl_far {t : Int} {c : Int → Int} {d : Nat} {q : Int} (h1 : ¬ At d q) (h2 : ¬ At d (q / 2)) : lvl t d c q = c q := by
  unfold lvl lvlS
  rw [if_neg (fun k => h1 k.1), if_neg (fun k => h2 k.1)]
theorem can_up {t : Int} {c : Int → Int} {d e : Nat} (he : e < d) {p : Int} (hp : At e p) (h : can t (lvl t d c) p) : can t c p ∨ (e + 1 = d ∧ (can t c (2 * p) ∨ can t c (2 * p + 1))) := by
  have n1 : ¬ At d p := fun k => by have := hp.same k; omega
  have n2 : ¬ At d (p / 2) := by
    intro k
    have := k.child
    have h3 : At (d + 1) p := by
      rcases Int.emod_two_eq p with h | h
      · have : p = 2 * (p / 2) := by omega
        rw [this]; exact k.child.1
      · have : p = 2 * (p / 2) + 1 := by omega
        rw [this]; exact k.child.2
    have := hp.same h3; omega
  have a := lvl_far (t := t) (c := c) n1 n2
  by_cases ed : e + 1 = d
  · subst ed
    by_cases k1 : can t c (2 * p)
    · exact .inr ⟨rfl, .inl k1⟩
    · by_cases k2 : can t c (2 * p + 1)
      · exact .inr ⟨rfl, .inr k2⟩
      · left
        have b : lvl t (e + 1) c (2 * p) = c (2 * p) := by
          unfold lvl lvlS
          rw [if_neg (fun k => k1 k.2), show 2 * p / 2 = p by omega, if_neg (fun k => n1 k.1)]
        have b2 : lvl t (e + 1) c (2 * p + 1) = c (2 * p + 1) := by
          unfold lvl lvlS
          rw [if_neg (fun k => k2 k.2), show (2 * p + 1) / 2 = p by omega, if_neg (fun k => n1 k.1)]
        unfold can at h ⊢
        rw [a, b, b2] at h
        exact h
  · left
    have c1 := hp.child
    have m1 : ¬ At d (2 * p) := fun k => by have := c1.1.same k; omega
    have m2 : ¬ At d (2 * p + 1) := fun k => by have := c1.2.same k; omega
    have b := lvl_far (t := t) (c := c) m1 (by rw [show 2 * p / 2 = p by omega]; exact n1)
    have b2 := lvl_far (t := t) (c := c) m2 (by rw [show (2 * p + 1) / 2 = p by omega]; exact n1)
    unfold can at h ⊢
    rw [a, b, b2] at h
    exact h
theorem can_down {t : Int} {c : Int → Int} {d e : Nat} (he : d ≤ e) {p : Int} (hp : At e p) (h : can t (lvl t d c) p) : (can t c p ∧ d < e) ∨ (e = d + 1 ∧ can t c (p / 2) ∧ At d (p / 2)) := by
  rcases Nat.eq_or_lt_of_le he with rfl | hlt
  · exact absurd ((can_lvlS (fun q hq => hq) hp).1 h).2 (fun k => k hp)
  · by_cases k : At d (p / 2) ∧ can t c (p / 2)
    · right
      refine ⟨?_, k.2, k.1⟩
      have h3 : At (d + 1) p := by
        rcases Int.emod_two_eq p with g | g
        · have : p = 2 * (p / 2) := by omega
          rw [this]; exact k.1.child.1
        · have : p = 2 * (p / 2) + 1 := by omega
          rw [this]; exact k.1.child.2
      exact hp.same h3
    · left
      refine ⟨?_, hlt⟩
      have n1 : ¬ At d p := fun k => by have := hp.same k; omega
      have a : lvl t d c p = c p := by
        unfold lvl lvlS
        rw [if_neg (fun x => n1 x.1), if_neg k]
      have c1 := hp.child
      have b := lvl_far (t := t) (c := c) (d := d) (q := 2 * p) (fun x => by have := c1.1.same x; omega) (by rw [show 2 * p / 2 = p by omega]; exact n1)
      have b2 := lvl_far (t := t) (c := c) (d := d) (q := 2 * p + 1) (fun x => by have := c1.2.same x; omega) (by rw [show (2 * p + 1) / 2 = p by omega]; exact n1)
      unfold can at h ⊢
      rw [a, b, b2] at h
      exact h

/-- the rows hold nodes of their depths, above the leaves -/
def Wf (L : Nat) (rs : Nat → List Int) : Prop := ∀ e x, x ∈ rs e → At e x ∧ e < L
/-- they hold all that may climb at the depths from a to b -/
def Holds (t : Int) (c : Int → Int) (a b : Nat) (rs : Nat → List Int) : Prop := ∀ e, a ≤ e → e < b → ∀ p, At e p → can t c p → p ∈ rs e

/-- a pass whose next depth is d - 1 -/
structure Outer (t : Int) (L : Nat) (K : Nat) (cI : Int → Int) (d : Nat) (c : Int → Int) (rs ns : Nat → List Int) (chg : Bool) : Prop where
  left : passF t L cI = passF t d c
  mv : moved t L cI ↔ (chg = true ∨ moved t d c)
  good : Good L c
  tot : tot L c = tot L cI
  wts : wt L c ≤ wt L cI
  ws : chg = true → wt L c < wt L cI
  wait : Holds t c 0 d rs
  next : Holds t c d L ns
  wf1 : Wf L rs
  wf2 : Wf L ns
  len1 : ∀ e, ((rs e).length : Int) ≤ K + (wt L cI - wt L c)
  len2 : ∀ e, ((ns e).length : Int) ≤ 2 * (wt L cI - wt L c)

theorem Outer.start {t : Int} {L K : Nat} {c : Int → Int} {rs : Nat → List Int} (hg : Good L c) (hw : Holds t c 0 L rs) (hf : Wf L rs) (hl : ∀ e, (rs e).length ≤ K) : Outer t L K c L c rs (fun _ => []) false :=
  ⟨rfl, by simp, hg, rfl, Int.le_refl _, fun h => by simp at h, hw, fun e h1 h2 => absurd h2 (by omega), hf, fun e x hx => absurd hx (by simp), fun e => by have := hl e; omega, fun e => by simp⟩

/-- within the depth d, behind the nodes l -/
structure Inner (t : Int) (L : Nat) (K : Nat) (cI : Int → Int) (d : Nat) (c : Int → Int) (rs ns : Nat → List Int) (chg : Bool) (l : List Int) (ck : Int → Int) (rk nk : Nat → List Int) (bk : Bool) : Prop where
  fold : ck = foldF t c l
  r0 : ∀ e, d ≤ e + 0 → rk e = rs e
  r1 : ∀ e x, x ∈ rs e → x ∈ rk e
  r2 : ∀ p, p ∈ l → can t c p → ∀ e, e + 1 = d → p / 2 ∈ rk e
  n1 : ∀ e x, x ∈ ns e → x ∈ nk e
  n2 : ∀ p, p ∈ l → can t c p → d + 1 < L → 2 * p ∈ nk (d + 1) ∧ 2 * p + 1 ∈ nk (d + 1)
  wf1 : Wf L rk
  wf2 : Wf L nk
  len1 : ∀ e, ((rk e).length : Int) ≤ K + (wt L cI - wt L ck)
  len2 : ∀ e, ((nk e).length : Int) ≤ 2 * (wt L cI - wt L ck)
  b : bk = true ↔ (chg = true ∨ ∃ p, p ∈ l ∧ can t c p)
  good : Good L ck
  tot : tot L ck = tot L cI
  wts : wt L ck ≤ wt L cI
  ws : bk = true → wt L ck < wt L cI

section
variable {t : Int} {L K : Nat} {cI c : Int → Int} {d : Nat} {rs ns : Nat → List Int} {chg : Bool}

theorem Inner.start (h : Outer t L K cI (d + 1) c rs ns chg) : Inner t L K cI d c rs ns chg [] c rs ns chg :=
  ⟨rfl, fun _ _ => rfl, fun _ _ h => h, fun p hp => absurd hp (by simp), fun _ _ h => h, fun p hp => absurd hp (by simp), h.wf1, h.wf2, h.len1, h.len2, by simp, h.good, h.tot, h.wts, h.ws⟩

/-- a node that does not climb -/
theorem Inner.no {l : List Int} {ck : Int → Int} {rk nk : Nat → List Int} {bk : Bool} (h : Inner t L K cI d c rs ns chg l ck rk nk bk) (hl : ∀ p ∈ l, At d p) {p : Int} (hp : At d p) (hn : ¬ can t ck p) :
    Inner t L K cI d c rs ns chg (l ++ [p]) ck rk nk bk := by
  have hf := h.fold
  have e : can t c p → p ∈ l := fun k => by
    rw [hf, can_fold hl hp] at hn
    exact Classical.byContradiction fun g => hn ⟨k, g⟩
  have hm : ∀ q, q ∈ l ++ [p] → can t c q → q ∈ l := fun q hq hc => by
    rcases List.mem_append.1 hq with k | k
    · exact k
    · simp at k; subst k; exact e hc
  refine ⟨?_, h.r0, h.r1, fun q hq hc => h.r2 q (hm q hq hc) hc, h.n1, fun q hq hc => h.n2 q (hm q hq hc) hc, h.wf1, h.wf2, h.len1, h.len2, ?_, h.good, h.tot, h.wts, h.ws⟩
  · unfold foldF
    rw [List.foldl_append]
    show ck = stepF t (foldF t c l) p
    rw [← hf]
    unfold stepF
    rw [if_neg hn]
  · rw [h.b]
    constructor
    · rintro (k | ⟨q, k1, k2⟩)
      · exact .inl k
      · exact .inr ⟨q, List.mem_append_left _ k1, k2⟩
    · rintro (k | ⟨q, k1, k2⟩)
      · exact .inl k
      · exact .inr ⟨q, hm q k1 k2, k2⟩

/-- rows, of which one may have got more -/
def More (rk rk' : Nat → List Int) (e : Nat) (xs : List Int) : Prop := ∀ i, rk' i = if i = e then rk i ++ xs else rk i

/-- a node that climbs -/
theorem Inner.yes {l : List Int} {ck : Int → Int} {rk nk rk' nk' : Nat → List Int} {bk : Bool} (h : Inner t L K cI d c rs ns chg l ck rk nk bk) (hl : ∀ p ∈ l, At d p) {p : Int} (hp : At d p) (hd : d < L) (hc : can t ck p)
    (hr : (d = 0 ∧ rk' = rk) ∨ ∃ e, e + 1 = d ∧ More rk rk' e [p / 2]) (hn : (¬ d + 1 < L ∧ nk' = nk) ∨ (d + 1 < L ∧ More nk nk' (d + 1) [2 * p, 2 * p + 1])) :
    Inner t L K cI d c rs ns chg (l ++ [p]) (climbF ck p) rk' nk' true := by
  have hf := h.fold
  have hcp : can t c p ∧ p ∉ l := by rw [hf, can_fold hl hp] at hc; exact hc
  have h1 := hp.pos
  have h2 : p < 2 ^ L := Int.lt_of_lt_of_le hp.2 (by exact_mod_cast Nat.pow_le_pow_right (by omega) (by omega : d + 1 ≤ L))
  have hw := wt_climb h.good h1 h2 hc
  have rin : ∀ e x, x ∈ rk e → x ∈ rk' e := fun e x hx => by
    rcases hr with ⟨_, rfl⟩ | ⟨e', _, hm⟩
    · exact hx
    · rw [hm e]; split
      · exact List.mem_append_left _ hx
      · exact hx
  have nin : ∀ e x, x ∈ nk e → x ∈ nk' e := fun e x hx => by
    rcases hn with ⟨_, rfl⟩ | ⟨_, hm⟩
    · exact hx
    · rw [hm e]; split
      · exact List.mem_append_left _ hx
      · exact hx
  refine ⟨?_, fun e he => ?_, fun e x hx => rin e x (h.r1 e x hx), fun q hq hcq e he => ?_, fun e x hx => nin e x (h.n1 e x hx), fun q hq hcq hL => ?_, fun e x hx => ?_, fun e x hx => ?_, fun e => ?_, fun e => ?_, ?_, good_climb h.good h1 h2, ?_, ?_, fun _ => ?_⟩
  · unfold foldF
    rw [List.foldl_append]
    show climbF ck p = stepF t (foldF t c l) p
    rw [← hf]
    unfold stepF
    rw [if_pos hc]
  · rcases hr with ⟨_, rfl⟩ | ⟨e', k, hm⟩
    · exact h.r0 e he
    · rw [hm e, if_neg (by omega)]; exact h.r0 e he
  · rcases List.mem_append.1 hq with k | k
    · exact rin e _ (h.r2 q k hcq e he)
    · simp at k; subst k
      rcases hr with ⟨k, _⟩ | ⟨e', k, hm⟩
      · omega
      · rw [hm e, if_pos (by omega)]; simp
  · rcases List.mem_append.1 hq with k | k
    · have := h.n2 q k hcq hL
      exact ⟨nin _ _ this.1, nin _ _ this.2⟩
    · simp at k; subst k
      rcases hn with ⟨k, _⟩ | ⟨_, hm⟩
      · exact absurd hL k
      · rw [hm (d + 1), if_pos rfl]; simp
  · rcases hr with ⟨_, rfl⟩ | ⟨e', k, hm⟩
    · exact h.wf1 e x hx
    · rw [hm e] at hx
      split at hx
      · rcases List.mem_append.1 hx with g | g
        · exact h.wf1 e x g
        · simp at g; subst g; subst k; subst_vars
          exact ⟨hp.parent, by omega⟩
      · exact h.wf1 e x hx
  · rcases hn with ⟨_, rfl⟩ | ⟨g0, hm⟩
    · exact h.wf2 e x hx
    · rw [hm e] at hx
      split at hx
      · rcases List.mem_append.1 hx with g | g
        · exact h.wf2 e x g
        · subst_vars
          simp at g
          rcases g with rfl | rfl
          · exact ⟨hp.child.1, g0⟩
          · exact ⟨hp.child.2, g0⟩
      · exact h.wf2 e x hx
  · have := h.len1 e
    rcases hr with ⟨_, rfl⟩ | ⟨e', k, hm⟩
    · omega
    · rw [hm e]; split
      · rw [List.length_append]; simp; omega
      · omega
  · have := h.len2 e
    rcases hn with ⟨_, rfl⟩ | ⟨_, hm⟩
    · omega
    · rw [hm e]; split
      · rw [List.length_append]; simp; omega
      · omega
  · constructor
    · exact fun _ => .inr ⟨p, by simp, hcp.1⟩
    · exact fun _ => rfl
  · rw [tot_climb h1 h2]; exact h.tot
  · have := h.wts; omega
  · have := h.wts; omega

/-- the depth is done -/
theorem Inner.done {ck : Int → Int} {rk nk : Nat → List Int} {bk : Bool} (h0 : Outer t L K cI (d + 1) c rs ns chg) (hd : d < L) (h : Inner t L K cI d c rs ns chg (rs d) ck rk nk bk) : Outer t L K cI d ck rk nk bk := by
  have hl : ∀ p ∈ rs d, At d p := fun p hp => (h0.wf1 d p hp).1
  have hin : ∀ p, At d p → can t c p → p ∈ rs d := fun p hp hc => h0.wait d (Nat.zero_le _) (by omega) p hp hc
  have e : ck = lvl t d c := by rw [h.fold]; exact fold_all t d (rs d) c hl hin
  refine ⟨?_, ?_, h.good, h.tot, h.wts, h.ws, fun e' _ he p hp hc => ?_, fun e' he he2 p hp hc => ?_, h.wf1, h.wf2, h.len1, h.len2⟩
  · rw [h0.left, e]; rfl
  · rw [h0.mv, h.b, e]
    constructor
    · rintro (k | k)
      · exact .inl (.inl k)
      · rcases k with ⟨p, k1, k2⟩ | k
        · exact .inl (.inr ⟨p, hin p k1 k2, k2⟩)
        · exact .inr k
    · rintro ((k | ⟨p, k1, k2⟩) | k)
      · exact .inl k
      · exact .inr (.inl ⟨p, hl p k1, k2⟩)
      · exact .inr (.inr k)
  · rw [e] at hc
    rcases can_up he hp hc with k | ⟨k1, k2⟩
    · exact h.r1 e' p (h0.wait e' (Nat.zero_le _) (by omega) p hp k)
    · subst k1
      rcases k2 with k | k
      · have := h.r2 (2 * p) (hin _ hp.child.1 k) k e' rfl
        rwa [show 2 * p / 2 = p by omega] at this
      · have := h.r2 (2 * p + 1) (hin _ hp.child.2 k) k e' rfl
        rwa [show (2 * p + 1) / 2 = p by omega] at this
  · rw [e] at hc
    rcases can_down he hp hc with ⟨k1, k2⟩ | ⟨k1, k2, k3⟩
    · exact h.n1 e' p (h0.next e' (by omega) he2 p hp k1)
    · subst k1
      have := h.n2 (p / 2) (hin _ k3 k2) k2 (by omega)
      rcases Int.emod_two_eq p with g | g
      · have e5 : 2 * (p / 2) = p := by omega
        rw [e5] at this; exact this.1
      · have e5 : 2 * (p / 2) + 1 = p := by omega
        rw [e5] at this; exact this.2
end
end Go.Proofs.Ythjmiimkplhffaa
