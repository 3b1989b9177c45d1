/- For all integers a, b and c, NumRing(a, b, c) returns true, ends, and turns nothing that was there. For every input; no condition. -/
import Derived.Test.YtdnnjjclklcihaaRows
import Derived.WalkKit
import Derived.ProofKit
import Derived.OpenShut
import Derived.Test.YtdnnjjclklcihaaPart10
namespace Go.Proofs.Ytdnnjjclklcihaa.numRing
open Go.ChangeShapes Go.WideShapes Go.ChangeAt Go.RowKit Go.Proofs.Ytdnnjjclklcihaa
set_option linter.unusedVariables false

theorem own : ownKnob Try.prog.godebug = none := by kernel_rfl

set_option maxHeartbeats 16000000 in
set_option maxRecDepth 4000 in
theorem walk (s1 s2 s3 : Bool) (a1 a2 a3 : Option Addr) (l1 l2 l3 c1 c2 c3 : Nat) (xs ys zs : List Nat) (W : World) (hs1 : Sl .u16 W a1 l1 xs) (hd1 : Dig B16 xs) (hl1 : l1 ≤ 9223372036854775807) (hs2 : Sl .u16 W a2 l2 ys) (hd2 : Dig B16 ys) (hl2 : l2 ≤ 9223372036854775807)
    (hs3 : Sl .u16 W a3 l3 zs) (hd3 : Dig B16 zs) (hl3 : l3 ≤ 9223372036854775807) :
    Calls Try.prog 11 #[.agg #[.bool s1, .slice a1 l1 c1], .agg #[.bool s2, .slice a2 l2 c2], .agg #[.bool s3, .slice a3 l3 c3]] W fun e w' => e = .returned (.bool true) ∧ Below W.heap.size W w' := by
  have hf : Fr W (((W.alloc (.cells #[.bool s1, .slice a1 l1 c1] 46)).alloc (.cells #[.bool s2, .slice a2 l2 c2] 46)).alloc (.cells #[.bool s3, .slice a3 l3 c3] 46))
      [(46, #[.bool s1, .slice a1 l1 c1]), (46, #[.bool s2, .slice a2 l2 c2]), (46, #[.bool s3, .slice a3 l3 c3])] := (((Fr.nil W).alloc rfl _ _).alloc (by simp) _ _).alloc (by simp) _ _
  have FP0 := Lib.hid hf
  have HS1 := Lib.hid (hs1.keep hf.below)
  have HS2 := Lib.hid (hs2.keep hf.below)
  have HS3 := Lib.hid (hs3.keep hf.below)
  have HD1 := Lib.hid hd1
  have HD2 := Lib.hid hd2
  have HD3 := Lib.hid hd3
  obtain ⟨x, hx⟩ : ∃ x, x = rawZ s1 xs 200 := ⟨_, rfl⟩
  obtain ⟨y, hy⟩ : ∃ y, y = rawZ s2 ys 200 := ⟨_, rfl⟩
  obtain ⟨z, hz⟩ : ∃ z, z = rawZ s3 zs 200 := ⟨_, rfl⟩
  have KX : Hid (Bl 3200 x) := by rw [hx]; exact rawZ_bl s1 xs hd1 200
  have KY : Hid (Bl 3200 y) := by rw [hy]; exact rawZ_bl s2 ys hd2 200
  have KZ : Hid (Bl 3200 z) := by rw [hz]; exact rawZ_bl s3 zs hd3 200
  have HX := Lib.hid hx
  have HY := Lib.hid hy
  have HZ := Lib.hid hz
  clear hf hs1 hs2 hs3 hd1 hd2 hd3 hx hy hz
  go_enter Try.func11, Try.ntmps11
  go_wp2_with fail
  rename_i Q0 K0 hK0
  refine two_two 39 40 41 42 43 38 44 45 46 7 8 9 3 4 28 34 (.int .i64 200) (.bool s1) (.slice a1 l1 c1) (.bool s2) (.slice a2 l2 c2) W.heap.size (W.heap.size + 1) x y _ _ Try.func28 (by kernel_rfl) rfl Try.func34 (by kernel_rfl) rfl (by kernel_rfl)
    rfl rfl rfl rfl rfl rfl rfl rfl rfl rfl rfl rfl rfl rfl rfl rfl (by decide) (by decide) (by first | (simp; done) | (simp; omega)) (by first | (simp; done) | (simp; omega))
    (FP0.out.cell 0 0 rfl rfl) (FP0.out.cell 0 1 rfl rfl) (FP0.out.cell 1 0 rfl rfl) (FP0.out.cell 1 1 rfl rfl)
    (fun w hb hsz => by rw [HX.out]; exact lawOf_any s1 _ _ _ xs _ 200 w (HS1.out.keep hb) HD1.out rfl (by decide) hl1) (fun w hb hsz => by rw [HY.out]; exact lawOf_any s2 _ _ _ ys _ 200 w (HS2.out.keep hb) HD2.out rfl (by decide) hl2)
    (fun w n1 x1 m1 k1 n2 x2 m2 k2 h1 h2 => (two_any n1 n2 x1 x2 m1 m2 k1 k2 x y w h1 h2 (Nat.le_trans (fits_len16 h1 (KX.out.fits (by decide))) (by decide)) (Nat.le_trans (fits_len16 h2 (KY.out.fits (by decide))) (by decide))).mono fun e w h => h.fits (KX.out.fits (by decide)) (KY.out.fits (by decide))) ?_
  intro w1 b1 b2 nx ox lx cx ny oy ly cy d1 d3 d4 d5 hb1 hb11 hb12 hne hbx1 hbx2 hlx hly hz1 hz2
  refine hK0 _ _ ?_
  have BX1 := Lib.hid hbx1
  have BY1 := Lib.hid hbx2
  have HX1 := Lib.hid hz1
  have HY1 := Lib.hid hz2
  have FP1 := Lib.hid (FP0.out.later hb1)
  have HS4 := Lib.hid (HS3.out.keep hb1)
  clear hb1 hb11 hb12 hne hbx1 hbx2 hz1 hz2 FP0 HS1 HS2 HS3 hK0
  simp only [puts, Act.put]
  have pp0 : w1.cell? ⟨W.heap.size + 2, 0, none⟩ = some (.bool s3) := FP1.out.cell 2 0 rfl rfl
  have pp1 : w1.cell? ⟨W.heap.size + 2, 1, none⟩ = some (.slice a3 l3 c3) := FP1.out.cell 2 1 rfl rfl
  go_wp2_with fail
  refine (lawOf_any s3 _ _ _ zs _ 200 _ HS4.out HD3.out rfl (by decide) hl3).mono ?_
  rw [← HZ.out]
  rintro e w2 ⟨nj, oj, lj, cj, rfl, hlcj, hcmj, hzj, hb2⟩
  clear pp0 pp1
  have hlj : lj ≤ 1000000 := Nat.le_trans (fits_len16 hzj (KZ.out.fits (by decide))) (by decide)
  have HJ := Lib.hid hzj
  clear hzj
  have FP2 := Lib.hid (FP1.out.later hb2)
  have BX2 := Lib.hid (BX1.out.below hb2 BX1.out.lt)
  have BY2 := Lib.hid (BY1.out.below hb2 BY1.out.lt)
  have HX2 := Lib.hid (HX1.out.keep hb2)
  have HY2 := Lib.hid (HY1.out.keep hb2)
  clear hb2 HS4
  go_wp2_with fail
  refine ((made_law _ _ _ _ z _ HJ.out hlj).mono fun e w h => h.fits (KZ.out.fits (by decide))).mono ?_
  rintro e w3 ⟨nz, oz, lz, cz, rfl, hlz, hzz, hb3⟩
  have FP3 := Lib.hid (FP2.out.later hb3)
  have BX3 := Lib.hid (BX2.out.below hb3 BX2.out.lt)
  have BY3 := Lib.hid (BY2.out.below hb3 BY2.out.lt)
  have HX3 := Lib.hid (HX2.out.keep hb3)
  have HY3 := Lib.hid (HY2.out.keep hb3)
  have hf : Fr w3 (w3.alloc (.cells #[.bool nz, .slice oz lz cz] 24)) [(24, #[.bool nz, .slice oz lz cz])] := (Fr.nil w3).alloc rfl _ _
  have FP4 := Lib.hid (FP3.out.later hf.below)
  have BX4 := Lib.hid (BX3.out.below hf.below BX3.out.lt)
  have BY4 := Lib.hid (BY3.out.below hf.below BY3.out.lt)
  have HX4 := Lib.hid (HX3.out.keep hf.below)
  have HY4 := Lib.hid (HY3.out.keep hf.below)
  have FZ4 := Lib.hid hf
  have HZ4 := Lib.hid (hzz.keep hf.below)
  clear hb3 hzz hf HJ
  have hlx1 : lx ≤ 100000000 := by omega
  have hly1 : ly ≤ 100000000 := by omega
  have hlz1 : lz ≤ 100000000 := by omega
  have KS : Hid (Bl 3201 (x + y)) := KX.out.add KY.out
  have KT : Hid (Bl 3201 (y + x)) := KY.out.add KX.out
  have KU : Hid (Bl 3202 (x + y + z)) := KS.out.add (KZ.out.mono (by decide))
  have KV : Hid (Bl 3201 (y + z)) := KY.out.add KZ.out
  have KR : Hid (Bl 3202 (x + (y + z))) := (KX.out.mono (by decide)).add KV.out
  have KI : Hid (Bl 6400 (x * y)) := KX.out.mul KY.out
  have KJ : Hid (Bl 6400 (y * x)) := KY.out.mul KX.out
  have KL : Hid (Bl 6401 ((x + y) * z)) := KS.out.mul KZ.out
  have KM : Hid (Bl 6400 (x * z)) := KX.out.mul KZ.out
  have KN : Hid (Bl 6400 (y * z)) := KY.out.mul KZ.out
  have KO : Hid (Bl 6401 (x * z + y * z)) := KM.out.add KN.out
  have KD : Hid (Bl 3201 (x - y)) := KX.out.sub KY.out
  have KK : Hid (Bl 3201 (x + -y)) := (KX.out).add KY.out.neg
  have qq0 : (w3.alloc (.cells #[.bool nz, .slice oz lz cz] 24)).cell? ⟨b1, 0, none⟩ = some (.bool nx) := BX4.out.cell 0
  have qq1 : (w3.alloc (.cells #[.bool nz, .slice oz lz cz] 24)).cell? ⟨b1, 1, none⟩ = some (.slice ox lx cx) := BX4.out.cell 1
  have qq2 : (w3.alloc (.cells #[.bool nz, .slice oz lz cz] 24)).cell? ⟨b2, 0, none⟩ = some (.bool ny) := BY4.out.cell 0
  have qq3 : (w3.alloc (.cells #[.bool nz, .slice oz lz cz] 24)).cell? ⟨b2, 1, none⟩ = some (.slice oy ly cy) := BY4.out.cell 1
  go_wp2_with fail
  refine ((addI_any _ _ _ _ _ _ _ _ x y _ HX4.out HY4.out hlx1 hly1).mono fun e w h => h.fine (KS.out.fits (by decide))).mono ?_
  rintro e w5 ⟨ns, os, ls, cs, rfl, hls, hz, hb⟩
  clear qq0 qq1 qq2 qq3
  have FP5a := Lib.hid (FP4.out.later hb)
  have FZ5a := Lib.hid (FZ4.out.later hb)
  have BX5a := Lib.hid (BX4.out.below hb BX4.out.lt)
  have BY5a := Lib.hid (BY4.out.below hb BY4.out.lt)
  have HX5a := Lib.hid (HX4.out.keep hb)
  have HY5a := Lib.hid (HY4.out.keep hb)
  have HZ5a := Lib.hid (HZ4.out.keep hb)
  have hf : Fr w5 (w5.alloc (.cells #[.bool ns, .slice os ls cs] 24)) [(24, #[.bool ns, .slice os ls cs])] := (Fr.nil w5).alloc rfl _ _
  have FP5b := Lib.hid (FP5a.out.later hf.below)
  have FZ5b := Lib.hid (FZ5a.out.later hf.below)
  have BX5b := Lib.hid (BX5a.out.below hf.below BX5a.out.lt)
  have BY5b := Lib.hid (BY5a.out.below hf.below BY5a.out.lt)
  have HX5b := Lib.hid (HX5a.out.keep hf.below)
  have HY5b := Lib.hid (HY5a.out.keep hf.below)
  have HZ5b := Lib.hid (HZ5a.out.keep hf.below)
  have FS5b := Lib.hid hf
  have HS5 := Lib.hid (hz.keep hf.below)
  clear hb hz hf
  have hls1 : ls ≤ 100000000 := by omega
  have qq0 : (w5.alloc (.cells #[.bool ns, .slice os ls cs] 24)).cell? ⟨b1, 0, none⟩ = some (.bool nx) := BX5b.out.cell 0
  have qq1 : (w5.alloc (.cells #[.bool ns, .slice os ls cs] 24)).cell? ⟨b1, 1, none⟩ = some (.slice ox lx cx) := BX5b.out.cell 1
  have qq2 : (w5.alloc (.cells #[.bool ns, .slice os ls cs] 24)).cell? ⟨b2, 0, none⟩ = some (.bool ny) := BY5b.out.cell 0
  have qq3 : (w5.alloc (.cells #[.bool ns, .slice os ls cs] 24)).cell? ⟨b2, 1, none⟩ = some (.slice oy ly cy) := BY5b.out.cell 1
  go_wp2_with fail
  refine ((addI_any _ _ _ _ _ _ _ _ y x _ HY5b.out HX5b.out hly1 hlx1).mono fun e w h => h.fine (KT.out.fits (by decide))).mono ?_
  rintro e w6 ⟨nt, ot, lt, ct, rfl, hlt, hz, hb⟩
  clear qq0 qq1 qq2 qq3
  have FP6a := Lib.hid (FP5b.out.later hb)
  have FZ6a := Lib.hid (FZ5b.out.later hb)
  have FS6a := Lib.hid (FS5b.out.later hb)
  have BX6a := Lib.hid (BX5b.out.below hb BX5b.out.lt)
  have BY6a := Lib.hid (BY5b.out.below hb BY5b.out.lt)
  have HX6a := Lib.hid (HX5b.out.keep hb)
  have HY6a := Lib.hid (HY5b.out.keep hb)
  have HZ6a := Lib.hid (HZ5b.out.keep hb)
  have HS6a := Lib.hid (HS5.out.keep hb)
  have hf : Fr w6 (w6.alloc (.cells #[.bool nt, .slice ot lt ct] 24)) [(24, #[.bool nt, .slice ot lt ct])] := (Fr.nil w6).alloc rfl _ _
  have FP6b := Lib.hid (FP6a.out.later hf.below)
  have FZ6b := Lib.hid (FZ6a.out.later hf.below)
  have FS6b := Lib.hid (FS6a.out.later hf.below)
  have BX6b := Lib.hid (BX6a.out.below hf.below BX6a.out.lt)
  have BY6b := Lib.hid (BY6a.out.below hf.below BY6a.out.lt)
  have HX6b := Lib.hid (HX6a.out.keep hf.below)
  have HY6b := Lib.hid (HY6a.out.keep hf.below)
  have HZ6b := Lib.hid (HZ6a.out.keep hf.below)
  have HS6b := Lib.hid (HS6a.out.keep hf.below)
  have FT6b := Lib.hid hf
  have HT6 := Lib.hid (hz.keep hf.below)
  clear hb hz hf
  have hlt1 : lt ≤ 100000000 := by omega
  have qq0 : (w6.alloc (.cells #[.bool nt, .slice ot lt ct] 24)).cell? ⟨w3.heap.size, 0, none⟩ = some (.bool nz) := FZ6b.out.cell 0 0 rfl rfl
  have qq1 : (w6.alloc (.cells #[.bool nt, .slice ot lt ct] 24)).cell? ⟨w3.heap.size, 1, none⟩ = some (.slice oz lz cz) := FZ6b.out.cell 0 1 rfl rfl
  have qq2 : (w6.alloc (.cells #[.bool nt, .slice ot lt ct] 24)).cell? ⟨w5.heap.size, 0, none⟩ = some (.bool ns) := FS6b.out.cell 0 0 rfl rfl
  have qq3 : (w6.alloc (.cells #[.bool nt, .slice ot lt ct] 24)).cell? ⟨w5.heap.size, 1, none⟩ = some (.slice os ls cs) := FS6b.out.cell 0 1 rfl rfl
  go_wp2_with fail
  refine ((addI_any _ _ _ _ _ _ _ _ (x + y) z _ HS6b.out HZ6b.out hls1 hlz1).mono fun e w h => h.fine (KU.out.fits (by decide))).mono ?_
  rintro e w7 ⟨nu, ou, lu, cu, rfl, hlu, hz, hb⟩
  clear qq0 qq1 qq2 qq3
  have FP7a := Lib.hid (FP6b.out.later hb)
  have FZ7a := Lib.hid (FZ6b.out.later hb)
  have FS7a := Lib.hid (FS6b.out.later hb)
  have FT7a := Lib.hid (FT6b.out.later hb)
  have BX7a := Lib.hid (BX6b.out.below hb BX6b.out.lt)
  have BY7a := Lib.hid (BY6b.out.below hb BY6b.out.lt)
  have HX7a := Lib.hid (HX6b.out.keep hb)
  have HY7a := Lib.hid (HY6b.out.keep hb)
  have HZ7a := Lib.hid (HZ6b.out.keep hb)
  have HS7a := Lib.hid (HS6b.out.keep hb)
  have HT7a := Lib.hid (HT6.out.keep hb)
  have hf : Fr w7 (w7.alloc (.cells #[.bool nu, .slice ou lu cu] 24)) [(24, #[.bool nu, .slice ou lu cu])] := (Fr.nil w7).alloc rfl _ _
  have FP7b := Lib.hid (FP7a.out.later hf.below)
  have FZ7b := Lib.hid (FZ7a.out.later hf.below)
  have FS7b := Lib.hid (FS7a.out.later hf.below)
  have FT7b := Lib.hid (FT7a.out.later hf.below)
  have BX7b := Lib.hid (BX7a.out.below hf.below BX7a.out.lt)
  have BY7b := Lib.hid (BY7a.out.below hf.below BY7a.out.lt)
  have HX7b := Lib.hid (HX7a.out.keep hf.below)
  have HY7b := Lib.hid (HY7a.out.keep hf.below)
  have HZ7b := Lib.hid (HZ7a.out.keep hf.below)
  have HS7b := Lib.hid (HS7a.out.keep hf.below)
  have HT7b := Lib.hid (HT7a.out.keep hf.below)
  have FU7b := Lib.hid hf
  have HU7 := Lib.hid (hz.keep hf.below)
  clear hb hz hf
  have hlu1 : lu ≤ 100000000 := by omega
  have qq0 : (w7.alloc (.cells #[.bool nu, .slice ou lu cu] 24)).cell? ⟨w3.heap.size, 0, none⟩ = some (.bool nz) := FZ7b.out.cell 0 0 rfl rfl
  have qq1 : (w7.alloc (.cells #[.bool nu, .slice ou lu cu] 24)).cell? ⟨w3.heap.size, 1, none⟩ = some (.slice oz lz cz) := FZ7b.out.cell 0 1 rfl rfl
  have qq2 : (w7.alloc (.cells #[.bool nu, .slice ou lu cu] 24)).cell? ⟨b2, 0, none⟩ = some (.bool ny) := BY7b.out.cell 0
  have qq3 : (w7.alloc (.cells #[.bool nu, .slice ou lu cu] 24)).cell? ⟨b2, 1, none⟩ = some (.slice oy ly cy) := BY7b.out.cell 1
  go_wp2_with fail
  refine ((addI_any _ _ _ _ _ _ _ _ y z _ HY7b.out HZ7b.out hly1 hlz1).mono fun e w h => h.fine (KV.out.fits (by decide))).mono ?_
  rintro e w8 ⟨nv, ov, lv, cv, rfl, hlv, hz, hb⟩
  clear qq0 qq1 qq2 qq3
  have FP8a := Lib.hid (FP7b.out.later hb)
  have FZ8a := Lib.hid (FZ7b.out.later hb)
  have FS8a := Lib.hid (FS7b.out.later hb)
  have FT8a := Lib.hid (FT7b.out.later hb)
  have FU8a := Lib.hid (FU7b.out.later hb)
  have BX8a := Lib.hid (BX7b.out.below hb BX7b.out.lt)
  have BY8a := Lib.hid (BY7b.out.below hb BY7b.out.lt)
  have HX8a := Lib.hid (HX7b.out.keep hb)
  have HY8a := Lib.hid (HY7b.out.keep hb)
  have HZ8a := Lib.hid (HZ7b.out.keep hb)
  have HS8a := Lib.hid (HS7b.out.keep hb)
  have HT8a := Lib.hid (HT7b.out.keep hb)
  have HU8a := Lib.hid (HU7.out.keep hb)
  have hf : Fr w8 (w8.alloc (.cells #[.bool nv, .slice ov lv cv] 24)) [(24, #[.bool nv, .slice ov lv cv])] := (Fr.nil w8).alloc rfl _ _
  have FP8b := Lib.hid (FP8a.out.later hf.below)
  have FZ8b := Lib.hid (FZ8a.out.later hf.below)
  have FS8b := Lib.hid (FS8a.out.later hf.below)
  have FT8b := Lib.hid (FT8a.out.later hf.below)
  have FU8b := Lib.hid (FU8a.out.later hf.below)
  have BX8b := Lib.hid (BX8a.out.below hf.below BX8a.out.lt)
  have BY8b := Lib.hid (BY8a.out.below hf.below BY8a.out.lt)
  have HX8b := Lib.hid (HX8a.out.keep hf.below)
  have HY8b := Lib.hid (HY8a.out.keep hf.below)
  have HZ8b := Lib.hid (HZ8a.out.keep hf.below)
  have HS8b := Lib.hid (HS8a.out.keep hf.below)
  have HT8b := Lib.hid (HT8a.out.keep hf.below)
  have HU8b := Lib.hid (HU8a.out.keep hf.below)
  have FV8b := Lib.hid hf
  have HV8 := Lib.hid (hz.keep hf.below)
  clear hb hz hf
  have hlv1 : lv ≤ 100000000 := by omega
  have qq0 : (w8.alloc (.cells #[.bool nv, .slice ov lv cv] 24)).cell? ⟨w8.heap.size, 0, none⟩ = some (.bool nv) := FV8b.out.cell 0 0 rfl rfl
  have qq1 : (w8.alloc (.cells #[.bool nv, .slice ov lv cv] 24)).cell? ⟨w8.heap.size, 1, none⟩ = some (.slice ov lv cv) := FV8b.out.cell 0 1 rfl rfl
  have qq2 : (w8.alloc (.cells #[.bool nv, .slice ov lv cv] 24)).cell? ⟨b1, 0, none⟩ = some (.bool nx) := BX8b.out.cell 0
  have qq3 : (w8.alloc (.cells #[.bool nv, .slice ov lv cv] 24)).cell? ⟨b1, 1, none⟩ = some (.slice ox lx cx) := BX8b.out.cell 1
  go_wp2_with fail
  refine ((addI_any _ _ _ _ _ _ _ _ x (y + z) _ HX8b.out HV8.out hlx1 hlv1).mono fun e w h => h.fine (KR.out.fits (by decide))).mono ?_
  rintro e w9 ⟨nr, or, lr, cr, rfl, hlr, hz, hb⟩
  clear qq0 qq1 qq2 qq3
  have FP9a := Lib.hid (FP8b.out.later hb)
  have FZ9a := Lib.hid (FZ8b.out.later hb)
  have FS9a := Lib.hid (FS8b.out.later hb)
  have FT9a := Lib.hid (FT8b.out.later hb)
  have FU9a := Lib.hid (FU8b.out.later hb)
  have FV9a := Lib.hid (FV8b.out.later hb)
  have BX9a := Lib.hid (BX8b.out.below hb BX8b.out.lt)
  have BY9a := Lib.hid (BY8b.out.below hb BY8b.out.lt)
  have HX9a := Lib.hid (HX8b.out.keep hb)
  have HY9a := Lib.hid (HY8b.out.keep hb)
  have HZ9a := Lib.hid (HZ8b.out.keep hb)
  have HS9a := Lib.hid (HS8b.out.keep hb)
  have HT9a := Lib.hid (HT8b.out.keep hb)
  have HU9a := Lib.hid (HU8b.out.keep hb)
  have HV9a := Lib.hid (HV8.out.keep hb)
  have hf : Fr w9 (w9.alloc (.cells #[.bool nr, .slice or lr cr] 24)) [(24, #[.bool nr, .slice or lr cr])] := (Fr.nil w9).alloc rfl _ _
  have FP9b := Lib.hid (FP9a.out.later hf.below)
  have FZ9b := Lib.hid (FZ9a.out.later hf.below)
  have FS9b := Lib.hid (FS9a.out.later hf.below)
  have FT9b := Lib.hid (FT9a.out.later hf.below)
  have FU9b := Lib.hid (FU9a.out.later hf.below)
  have FV9b := Lib.hid (FV9a.out.later hf.below)
  have BX9b := Lib.hid (BX9a.out.below hf.below BX9a.out.lt)
  have BY9b := Lib.hid (BY9a.out.below hf.below BY9a.out.lt)
  have HX9b := Lib.hid (HX9a.out.keep hf.below)
  have HY9b := Lib.hid (HY9a.out.keep hf.below)
  have HZ9b := Lib.hid (HZ9a.out.keep hf.below)
  have HS9b := Lib.hid (HS9a.out.keep hf.below)
  have HT9b := Lib.hid (HT9a.out.keep hf.below)
  have HU9b := Lib.hid (HU9a.out.keep hf.below)
  have HV9b := Lib.hid (HV9a.out.keep hf.below)
  have FR9b := Lib.hid hf
  have HR9 := Lib.hid (hz.keep hf.below)
  clear hb hz hf
  have hlr1 : lr ≤ 100000000 := by omega
  have qq0 : (w9.alloc (.cells #[.bool nr, .slice or lr cr] 24)).cell? ⟨b1, 0, none⟩ = some (.bool nx) := BX9b.out.cell 0
  have qq1 : (w9.alloc (.cells #[.bool nr, .slice or lr cr] 24)).cell? ⟨b1, 1, none⟩ = some (.slice ox lx cx) := BX9b.out.cell 1
  have qq2 : (w9.alloc (.cells #[.bool nr, .slice or lr cr] 24)).cell? ⟨b2, 0, none⟩ = some (.bool ny) := BY9b.out.cell 0
  have qq3 : (w9.alloc (.cells #[.bool nr, .slice or lr cr] 24)).cell? ⟨b2, 1, none⟩ = some (.slice oy ly cy) := BY9b.out.cell 1
  go_wp2_with fail
  refine ((mulI_any _ _ _ _ _ _ _ _ x y _ HX9b.out HY9b.out hlx1 hly1).mono fun e w h => h.fine (KI.out.fits (by decide))).mono ?_
  rintro e w10 ⟨ni, oi, li, ci, rfl, hli, hz, hb⟩
  clear qq0 qq1 qq2 qq3
  have FP10a := Lib.hid (FP9b.out.later hb)
  have FZ10a := Lib.hid (FZ9b.out.later hb)
  have FS10a := Lib.hid (FS9b.out.later hb)
  have FT10a := Lib.hid (FT9b.out.later hb)
  have FU10a := Lib.hid (FU9b.out.later hb)
  have FV10a := Lib.hid (FV9b.out.later hb)
  have FR10a := Lib.hid (FR9b.out.later hb)
  have BX10a := Lib.hid (BX9b.out.below hb BX9b.out.lt)
  have BY10a := Lib.hid (BY9b.out.below hb BY9b.out.lt)
  have HX10a := Lib.hid (HX9b.out.keep hb)
  have HY10a := Lib.hid (HY9b.out.keep hb)
  have HZ10a := Lib.hid (HZ9b.out.keep hb)
  have HS10a := Lib.hid (HS9b.out.keep hb)
  have HT10a := Lib.hid (HT9b.out.keep hb)
  have HU10a := Lib.hid (HU9b.out.keep hb)
  have HV10a := Lib.hid (HV9b.out.keep hb)
  have HR10a := Lib.hid (HR9.out.keep hb)
  have hf : Fr w10 (w10.alloc (.cells #[.bool ni, .slice oi li ci] 24)) [(24, #[.bool ni, .slice oi li ci])] := (Fr.nil w10).alloc rfl _ _
  have FP10b := Lib.hid (FP10a.out.later hf.below)
  have FZ10b := Lib.hid (FZ10a.out.later hf.below)
  have FS10b := Lib.hid (FS10a.out.later hf.below)
  have FT10b := Lib.hid (FT10a.out.later hf.below)
  have FU10b := Lib.hid (FU10a.out.later hf.below)
  have FV10b := Lib.hid (FV10a.out.later hf.below)
  have FR10b := Lib.hid (FR10a.out.later hf.below)
  have BX10b := Lib.hid (BX10a.out.below hf.below BX10a.out.lt)
  have BY10b := Lib.hid (BY10a.out.below hf.below BY10a.out.lt)
  have HX10b := Lib.hid (HX10a.out.keep hf.below)
  have HY10b := Lib.hid (HY10a.out.keep hf.below)
  have HZ10b := Lib.hid (HZ10a.out.keep hf.below)
  have HS10b := Lib.hid (HS10a.out.keep hf.below)
  have HT10b := Lib.hid (HT10a.out.keep hf.below)
  have HU10b := Lib.hid (HU10a.out.keep hf.below)
  have HV10b := Lib.hid (HV10a.out.keep hf.below)
  have HR10b := Lib.hid (HR10a.out.keep hf.below)
  have FI10b := Lib.hid hf
  have HI10 := Lib.hid (hz.keep hf.below)
  clear hb hz hf
  have hli1 : li ≤ 100000000 := by omega
  have qq0 : (w10.alloc (.cells #[.bool ni, .slice oi li ci] 24)).cell? ⟨b1, 0, none⟩ = some (.bool nx) := BX10b.out.cell 0
  have qq1 : (w10.alloc (.cells #[.bool ni, .slice oi li ci] 24)).cell? ⟨b1, 1, none⟩ = some (.slice ox lx cx) := BX10b.out.cell 1
  have qq2 : (w10.alloc (.cells #[.bool ni, .slice oi li ci] 24)).cell? ⟨b2, 0, none⟩ = some (.bool ny) := BY10b.out.cell 0
  have qq3 : (w10.alloc (.cells #[.bool ni, .slice oi li ci] 24)).cell? ⟨b2, 1, none⟩ = some (.slice oy ly cy) := BY10b.out.cell 1
  go_wp2_with fail
  refine ((mulI_any _ _ _ _ _ _ _ _ y x _ HY10b.out HX10b.out hly1 hlx1).mono fun e w h => h.fine (KJ.out.fits (by decide))).mono ?_
  rintro e w11 ⟨nj, oj, lj, cj, rfl, hlj, hz, hb⟩
  clear qq0 qq1 qq2 qq3
  have FP11a := Lib.hid (FP10b.out.later hb)
  have FZ11a := Lib.hid (FZ10b.out.later hb)
  have FS11a := Lib.hid (FS10b.out.later hb)
  have FT11a := Lib.hid (FT10b.out.later hb)
  have FU11a := Lib.hid (FU10b.out.later hb)
  have FV11a := Lib.hid (FV10b.out.later hb)
  have FR11a := Lib.hid (FR10b.out.later hb)
  have FI11a := Lib.hid (FI10b.out.later hb)
  have BX11a := Lib.hid (BX10b.out.below hb BX10b.out.lt)
  have BY11a := Lib.hid (BY10b.out.below hb BY10b.out.lt)
  have HX11a := Lib.hid (HX10b.out.keep hb)
  have HY11a := Lib.hid (HY10b.out.keep hb)
  have HZ11a := Lib.hid (HZ10b.out.keep hb)
  have HS11a := Lib.hid (HS10b.out.keep hb)
  have HT11a := Lib.hid (HT10b.out.keep hb)
  have HU11a := Lib.hid (HU10b.out.keep hb)
  have HV11a := Lib.hid (HV10b.out.keep hb)
  have HR11a := Lib.hid (HR10b.out.keep hb)
  have HI11a := Lib.hid (HI10.out.keep hb)
  have hf : Fr w11 (w11.alloc (.cells #[.bool nj, .slice oj lj cj] 24)) [(24, #[.bool nj, .slice oj lj cj])] := (Fr.nil w11).alloc rfl _ _
  have FP11b := Lib.hid (FP11a.out.later hf.below)
  have FZ11b := Lib.hid (FZ11a.out.later hf.below)
  have FS11b := Lib.hid (FS11a.out.later hf.below)
  have FT11b := Lib.hid (FT11a.out.later hf.below)
  have FU11b := Lib.hid (FU11a.out.later hf.below)
  have FV11b := Lib.hid (FV11a.out.later hf.below)
  have FR11b := Lib.hid (FR11a.out.later hf.below)
  have FI11b := Lib.hid (FI11a.out.later hf.below)
  have BX11b := Lib.hid (BX11a.out.below hf.below BX11a.out.lt)
  have BY11b := Lib.hid (BY11a.out.below hf.below BY11a.out.lt)
  have HX11b := Lib.hid (HX11a.out.keep hf.below)
  have HY11b := Lib.hid (HY11a.out.keep hf.below)
  have HZ11b := Lib.hid (HZ11a.out.keep hf.below)
  have HS11b := Lib.hid (HS11a.out.keep hf.below)
  have HT11b := Lib.hid (HT11a.out.keep hf.below)
  have HU11b := Lib.hid (HU11a.out.keep hf.below)
  have HV11b := Lib.hid (HV11a.out.keep hf.below)
  have HR11b := Lib.hid (HR11a.out.keep hf.below)
  have HI11b := Lib.hid (HI11a.out.keep hf.below)
  have FJ11b := Lib.hid hf
  have HJ11 := Lib.hid (hz.keep hf.below)
  clear hb hz hf
  have hlj1 : lj ≤ 100000000 := by omega
  have qq0 : (w11.alloc (.cells #[.bool nj, .slice oj lj cj] 24)).cell? ⟨w3.heap.size, 0, none⟩ = some (.bool nz) := FZ11b.out.cell 0 0 rfl rfl
  have qq1 : (w11.alloc (.cells #[.bool nj, .slice oj lj cj] 24)).cell? ⟨w3.heap.size, 1, none⟩ = some (.slice oz lz cz) := FZ11b.out.cell 0 1 rfl rfl
  have qq2 : (w11.alloc (.cells #[.bool nj, .slice oj lj cj] 24)).cell? ⟨w5.heap.size, 0, none⟩ = some (.bool ns) := FS11b.out.cell 0 0 rfl rfl
  have qq3 : (w11.alloc (.cells #[.bool nj, .slice oj lj cj] 24)).cell? ⟨w5.heap.size, 1, none⟩ = some (.slice os ls cs) := FS11b.out.cell 0 1 rfl rfl
  go_wp2_with fail
  refine ((mulI_any _ _ _ _ _ _ _ _ (x + y) z _ HS11b.out HZ11b.out hls1 hlz1).mono fun e w h => h.fine (KL.out.fits (by decide))).mono ?_
  rintro e w12 ⟨nl, ol, ll, cl, rfl, hll, hz, hb⟩
  clear qq0 qq1 qq2 qq3
  have FP12a := Lib.hid (FP11b.out.later hb)
  have FZ12a := Lib.hid (FZ11b.out.later hb)
  have FS12a := Lib.hid (FS11b.out.later hb)
  have FT12a := Lib.hid (FT11b.out.later hb)
  have FU12a := Lib.hid (FU11b.out.later hb)
  have FV12a := Lib.hid (FV11b.out.later hb)
  have FR12a := Lib.hid (FR11b.out.later hb)
  have FI12a := Lib.hid (FI11b.out.later hb)
  have FJ12a := Lib.hid (FJ11b.out.later hb)
  have BX12a := Lib.hid (BX11b.out.below hb BX11b.out.lt)
  have BY12a := Lib.hid (BY11b.out.below hb BY11b.out.lt)
  have HX12a := Lib.hid (HX11b.out.keep hb)
  have HY12a := Lib.hid (HY11b.out.keep hb)
  have HZ12a := Lib.hid (HZ11b.out.keep hb)
  have HS12a := Lib.hid (HS11b.out.keep hb)
  have HT12a := Lib.hid (HT11b.out.keep hb)
  have HU12a := Lib.hid (HU11b.out.keep hb)
  have HV12a := Lib.hid (HV11b.out.keep hb)
  have HR12a := Lib.hid (HR11b.out.keep hb)
  have HI12a := Lib.hid (HI11b.out.keep hb)
  have HJ12a := Lib.hid (HJ11.out.keep hb)
  have hf : Fr w12 (w12.alloc (.cells #[.bool nl, .slice ol ll cl] 24)) [(24, #[.bool nl, .slice ol ll cl])] := (Fr.nil w12).alloc rfl _ _
  have FP12b := Lib.hid (FP12a.out.later hf.below)
  have FZ12b := Lib.hid (FZ12a.out.later hf.below)
  have FS12b := Lib.hid (FS12a.out.later hf.below)
  have FT12b := Lib.hid (FT12a.out.later hf.below)
  have FU12b := Lib.hid (FU12a.out.later hf.below)
  have FV12b := Lib.hid (FV12a.out.later hf.below)
  have FR12b := Lib.hid (FR12a.out.later hf.below)
  have FI12b := Lib.hid (FI12a.out.later hf.below)
  have FJ12b := Lib.hid (FJ12a.out.later hf.below)
  have BX12b := Lib.hid (BX12a.out.below hf.below BX12a.out.lt)
  have BY12b := Lib.hid (BY12a.out.below hf.below BY12a.out.lt)
  have HX12b := Lib.hid (HX12a.out.keep hf.below)
  have HY12b := Lib.hid (HY12a.out.keep hf.below)
  have HZ12b := Lib.hid (HZ12a.out.keep hf.below)
  have HS12b := Lib.hid (HS12a.out.keep hf.below)
  have HT12b := Lib.hid (HT12a.out.keep hf.below)
  have HU12b := Lib.hid (HU12a.out.keep hf.below)
  have HV12b := Lib.hid (HV12a.out.keep hf.below)
  have HR12b := Lib.hid (HR12a.out.keep hf.below)
  have HI12b := Lib.hid (HI12a.out.keep hf.below)
  have HJ12b := Lib.hid (HJ12a.out.keep hf.below)
  have FL12b := Lib.hid hf
  have HL12 := Lib.hid (hz.keep hf.below)
  clear hb hz hf
  have hll1 : ll ≤ 100000000 := by omega
  have qq0 : (w12.alloc (.cells #[.bool nl, .slice ol ll cl] 24)).cell? ⟨w3.heap.size, 0, none⟩ = some (.bool nz) := FZ12b.out.cell 0 0 rfl rfl
  have qq1 : (w12.alloc (.cells #[.bool nl, .slice ol ll cl] 24)).cell? ⟨w3.heap.size, 1, none⟩ = some (.slice oz lz cz) := FZ12b.out.cell 0 1 rfl rfl
  have qq2 : (w12.alloc (.cells #[.bool nl, .slice ol ll cl] 24)).cell? ⟨b1, 0, none⟩ = some (.bool nx) := BX12b.out.cell 0
  have qq3 : (w12.alloc (.cells #[.bool nl, .slice ol ll cl] 24)).cell? ⟨b1, 1, none⟩ = some (.slice ox lx cx) := BX12b.out.cell 1
  go_wp2_with fail
  refine ((mulI_any _ _ _ _ _ _ _ _ x z _ HX12b.out HZ12b.out hlx1 hlz1).mono fun e w h => h.fine (KM.out.fits (by decide))).mono ?_
  rintro e w13 ⟨nm, om, lm, cm, rfl, hlm, hz, hb⟩
  clear qq0 qq1 qq2 qq3
  have FP13a := Lib.hid (FP12b.out.later hb)
  have FZ13a := Lib.hid (FZ12b.out.later hb)
  have FS13a := Lib.hid (FS12b.out.later hb)
  have FT13a := Lib.hid (FT12b.out.later hb)
  have FU13a := Lib.hid (FU12b.out.later hb)
  have FV13a := Lib.hid (FV12b.out.later hb)
  have FR13a := Lib.hid (FR12b.out.later hb)
  have FI13a := Lib.hid (FI12b.out.later hb)
  have FJ13a := Lib.hid (FJ12b.out.later hb)
  have FL13a := Lib.hid (FL12b.out.later hb)
  have BX13a := Lib.hid (BX12b.out.below hb BX12b.out.lt)
  have BY13a := Lib.hid (BY12b.out.below hb BY12b.out.lt)
  have HX13a := Lib.hid (HX12b.out.keep hb)
  have HY13a := Lib.hid (HY12b.out.keep hb)
  have HZ13a := Lib.hid (HZ12b.out.keep hb)
  have HS13a := Lib.hid (HS12b.out.keep hb)
  have HT13a := Lib.hid (HT12b.out.keep hb)
  have HU13a := Lib.hid (HU12b.out.keep hb)
  have HV13a := Lib.hid (HV12b.out.keep hb)
  have HR13a := Lib.hid (HR12b.out.keep hb)
  have HI13a := Lib.hid (HI12b.out.keep hb)
  have HJ13a := Lib.hid (HJ12b.out.keep hb)
  have HL13a := Lib.hid (HL12.out.keep hb)
  have hf : Fr w13 (w13.alloc (.cells #[.bool nm, .slice om lm cm] 24)) [(24, #[.bool nm, .slice om lm cm])] := (Fr.nil w13).alloc rfl _ _
  have FP13b := Lib.hid (FP13a.out.later hf.below)
  have FZ13b := Lib.hid (FZ13a.out.later hf.below)
  have FS13b := Lib.hid (FS13a.out.later hf.below)
  have FT13b := Lib.hid (FT13a.out.later hf.below)
  have FU13b := Lib.hid (FU13a.out.later hf.below)
  have FV13b := Lib.hid (FV13a.out.later hf.below)
  have FR13b := Lib.hid (FR13a.out.later hf.below)
  have FI13b := Lib.hid (FI13a.out.later hf.below)
  have FJ13b := Lib.hid (FJ13a.out.later hf.below)
  have FL13b := Lib.hid (FL13a.out.later hf.below)
  have BX13b := Lib.hid (BX13a.out.below hf.below BX13a.out.lt)
  have BY13b := Lib.hid (BY13a.out.below hf.below BY13a.out.lt)
  have HX13b := Lib.hid (HX13a.out.keep hf.below)
  have HY13b := Lib.hid (HY13a.out.keep hf.below)
  have HZ13b := Lib.hid (HZ13a.out.keep hf.below)
  have HS13b := Lib.hid (HS13a.out.keep hf.below)
  have HT13b := Lib.hid (HT13a.out.keep hf.below)
  have HU13b := Lib.hid (HU13a.out.keep hf.below)
  have HV13b := Lib.hid (HV13a.out.keep hf.below)
  have HR13b := Lib.hid (HR13a.out.keep hf.below)
  have HI13b := Lib.hid (HI13a.out.keep hf.below)
  have HJ13b := Lib.hid (HJ13a.out.keep hf.below)
  have HL13b := Lib.hid (HL13a.out.keep hf.below)
  have FM13b := Lib.hid hf
  have HM13 := Lib.hid (hz.keep hf.below)
  clear hb hz hf
  have hlm1 : lm ≤ 100000000 := by omega
  have qq0 : (w13.alloc (.cells #[.bool nm, .slice om lm cm] 24)).cell? ⟨w3.heap.size, 0, none⟩ = some (.bool nz) := FZ13b.out.cell 0 0 rfl rfl
  have qq1 : (w13.alloc (.cells #[.bool nm, .slice om lm cm] 24)).cell? ⟨w3.heap.size, 1, none⟩ = some (.slice oz lz cz) := FZ13b.out.cell 0 1 rfl rfl
  have qq2 : (w13.alloc (.cells #[.bool nm, .slice om lm cm] 24)).cell? ⟨b2, 0, none⟩ = some (.bool ny) := BY13b.out.cell 0
  have qq3 : (w13.alloc (.cells #[.bool nm, .slice om lm cm] 24)).cell? ⟨b2, 1, none⟩ = some (.slice oy ly cy) := BY13b.out.cell 1
  go_wp2_with fail
  refine ((mulI_any _ _ _ _ _ _ _ _ y z _ HY13b.out HZ13b.out hly1 hlz1).mono fun e w h => h.fine (KN.out.fits (by decide))).mono ?_
  rintro e w14 ⟨nn, on, ln, cn, rfl, hln, hz, hb⟩
  clear qq0 qq1 qq2 qq3
  have FP14a := Lib.hid (FP13b.out.later hb)
  have FZ14a := Lib.hid (FZ13b.out.later hb)
  have FS14a := Lib.hid (FS13b.out.later hb)
  have FT14a := Lib.hid (FT13b.out.later hb)
  have FU14a := Lib.hid (FU13b.out.later hb)
  have FV14a := Lib.hid (FV13b.out.later hb)
  have FR14a := Lib.hid (FR13b.out.later hb)
  have FI14a := Lib.hid (FI13b.out.later hb)
  have FJ14a := Lib.hid (FJ13b.out.later hb)
  have FL14a := Lib.hid (FL13b.out.later hb)
  have FM14a := Lib.hid (FM13b.out.later hb)
  have BX14a := Lib.hid (BX13b.out.below hb BX13b.out.lt)
  have BY14a := Lib.hid (BY13b.out.below hb BY13b.out.lt)
  have HX14a := Lib.hid (HX13b.out.keep hb)
  have HY14a := Lib.hid (HY13b.out.keep hb)
  have HZ14a := Lib.hid (HZ13b.out.keep hb)
  have HS14a := Lib.hid (HS13b.out.keep hb)
  have HT14a := Lib.hid (HT13b.out.keep hb)
  have HU14a := Lib.hid (HU13b.out.keep hb)
  have HV14a := Lib.hid (HV13b.out.keep hb)
  have HR14a := Lib.hid (HR13b.out.keep hb)
  have HI14a := Lib.hid (HI13b.out.keep hb)
  have HJ14a := Lib.hid (HJ13b.out.keep hb)
  have HL14a := Lib.hid (HL13b.out.keep hb)
  have HM14a := Lib.hid (HM13.out.keep hb)
  have hf : Fr w14 (w14.alloc (.cells #[.bool nn, .slice on ln cn] 24)) [(24, #[.bool nn, .slice on ln cn])] := (Fr.nil w14).alloc rfl _ _
  have FP14b := Lib.hid (FP14a.out.later hf.below)
  have FZ14b := Lib.hid (FZ14a.out.later hf.below)
  have FS14b := Lib.hid (FS14a.out.later hf.below)
  have FT14b := Lib.hid (FT14a.out.later hf.below)
  have FU14b := Lib.hid (FU14a.out.later hf.below)
  have FV14b := Lib.hid (FV14a.out.later hf.below)
  have FR14b := Lib.hid (FR14a.out.later hf.below)
  have FI14b := Lib.hid (FI14a.out.later hf.below)
  have FJ14b := Lib.hid (FJ14a.out.later hf.below)
  have FL14b := Lib.hid (FL14a.out.later hf.below)
  have FM14b := Lib.hid (FM14a.out.later hf.below)
  have BX14b := Lib.hid (BX14a.out.below hf.below BX14a.out.lt)
  have BY14b := Lib.hid (BY14a.out.below hf.below BY14a.out.lt)
  have HX14b := Lib.hid (HX14a.out.keep hf.below)
  have HY14b := Lib.hid (HY14a.out.keep hf.below)
  have HZ14b := Lib.hid (HZ14a.out.keep hf.below)
  have HS14b := Lib.hid (HS14a.out.keep hf.below)
  have HT14b := Lib.hid (HT14a.out.keep hf.below)
  have HU14b := Lib.hid (HU14a.out.keep hf.below)
  have HV14b := Lib.hid (HV14a.out.keep hf.below)
  have HR14b := Lib.hid (HR14a.out.keep hf.below)
  have HI14b := Lib.hid (HI14a.out.keep hf.below)
  have HJ14b := Lib.hid (HJ14a.out.keep hf.below)
  have HL14b := Lib.hid (HL14a.out.keep hf.below)
  have HM14b := Lib.hid (HM14a.out.keep hf.below)
  have FN14b := Lib.hid hf
  have HN14 := Lib.hid (hz.keep hf.below)
  clear hb hz hf
  have hln1 : ln ≤ 100000000 := by omega
  have qq0 : (w14.alloc (.cells #[.bool nn, .slice on ln cn] 24)).cell? ⟨w13.heap.size, 0, none⟩ = some (.bool nm) := FM14b.out.cell 0 0 rfl rfl
  have qq1 : (w14.alloc (.cells #[.bool nn, .slice on ln cn] 24)).cell? ⟨w13.heap.size, 1, none⟩ = some (.slice om lm cm) := FM14b.out.cell 0 1 rfl rfl
  have qq2 : (w14.alloc (.cells #[.bool nn, .slice on ln cn] 24)).cell? ⟨w14.heap.size, 0, none⟩ = some (.bool nn) := FN14b.out.cell 0 0 rfl rfl
  have qq3 : (w14.alloc (.cells #[.bool nn, .slice on ln cn] 24)).cell? ⟨w14.heap.size, 1, none⟩ = some (.slice on ln cn) := FN14b.out.cell 0 1 rfl rfl
  go_wp2_with fail
  refine ((addI_any _ _ _ _ _ _ _ _ (x * z) (y * z) _ HM14b.out HN14.out hlm1 hln1).mono fun e w h => h.fine (KO.out.fits (by decide))).mono ?_
  rintro e w15 ⟨no, oo, lo, co, rfl, hlo, hz, hb⟩
  clear qq0 qq1 qq2 qq3
  have FP15a := Lib.hid (FP14b.out.later hb)
  have FZ15a := Lib.hid (FZ14b.out.later hb)
  have FS15a := Lib.hid (FS14b.out.later hb)
  have FT15a := Lib.hid (FT14b.out.later hb)
  have FU15a := Lib.hid (FU14b.out.later hb)
  have FR15a := Lib.hid (FR14b.out.later hb)
  have FI15a := Lib.hid (FI14b.out.later hb)
  have FJ15a := Lib.hid (FJ14b.out.later hb)
  have FL15a := Lib.hid (FL14b.out.later hb)
  have FM15a := Lib.hid (FM14b.out.later hb)
  have FN15a := Lib.hid (FN14b.out.later hb)
  have BX15a := Lib.hid (BX14b.out.below hb BX14b.out.lt)
  have BY15a := Lib.hid (BY14b.out.below hb BY14b.out.lt)
  have HX15a := Lib.hid (HX14b.out.keep hb)
  have HY15a := Lib.hid (HY14b.out.keep hb)
  have HZ15a := Lib.hid (HZ14b.out.keep hb)
  have HS15a := Lib.hid (HS14b.out.keep hb)
  have HT15a := Lib.hid (HT14b.out.keep hb)
  have HU15a := Lib.hid (HU14b.out.keep hb)
  have HR15a := Lib.hid (HR14b.out.keep hb)
  have HI15a := Lib.hid (HI14b.out.keep hb)
  have HJ15a := Lib.hid (HJ14b.out.keep hb)
  have HL15a := Lib.hid (HL14b.out.keep hb)
  have HM15a := Lib.hid (HM14b.out.keep hb)
  have HN15a := Lib.hid (HN14.out.keep hb)
  have hf : Fr w15 (w15.alloc (.cells #[.bool no, .slice oo lo co] 24)) [(24, #[.bool no, .slice oo lo co])] := (Fr.nil w15).alloc rfl _ _
  have FP15b := Lib.hid (FP15a.out.later hf.below)
  have FZ15b := Lib.hid (FZ15a.out.later hf.below)
  have FS15b := Lib.hid (FS15a.out.later hf.below)
  have FT15b := Lib.hid (FT15a.out.later hf.below)
  have FU15b := Lib.hid (FU15a.out.later hf.below)
  have FR15b := Lib.hid (FR15a.out.later hf.below)
  have FI15b := Lib.hid (FI15a.out.later hf.below)
  have FJ15b := Lib.hid (FJ15a.out.later hf.below)
  have FL15b := Lib.hid (FL15a.out.later hf.below)
  have FM15b := Lib.hid (FM15a.out.later hf.below)
  have FN15b := Lib.hid (FN15a.out.later hf.below)
  have BX15b := Lib.hid (BX15a.out.below hf.below BX15a.out.lt)
  have BY15b := Lib.hid (BY15a.out.below hf.below BY15a.out.lt)
  have HX15b := Lib.hid (HX15a.out.keep hf.below)
  have HY15b := Lib.hid (HY15a.out.keep hf.below)
  have HZ15b := Lib.hid (HZ15a.out.keep hf.below)
  have HS15b := Lib.hid (HS15a.out.keep hf.below)
  have HT15b := Lib.hid (HT15a.out.keep hf.below)
  have HU15b := Lib.hid (HU15a.out.keep hf.below)
  have HR15b := Lib.hid (HR15a.out.keep hf.below)
  have HI15b := Lib.hid (HI15a.out.keep hf.below)
  have HJ15b := Lib.hid (HJ15a.out.keep hf.below)
  have HL15b := Lib.hid (HL15a.out.keep hf.below)
  have HM15b := Lib.hid (HM15a.out.keep hf.below)
  have HN15b := Lib.hid (HN15a.out.keep hf.below)
  have FO15b := Lib.hid hf
  have HO15 := Lib.hid (hz.keep hf.below)
  clear hb hz hf
  have hlo1 : lo ≤ 100000000 := by omega
  have qq0 : (w15.alloc (.cells #[.bool no, .slice oo lo co] 24)).cell? ⟨b1, 0, none⟩ = some (.bool nx) := BX15b.out.cell 0
  have qq1 : (w15.alloc (.cells #[.bool no, .slice oo lo co] 24)).cell? ⟨b1, 1, none⟩ = some (.slice ox lx cx) := BX15b.out.cell 1
  have qq2 : (w15.alloc (.cells #[.bool no, .slice oo lo co] 24)).cell? ⟨b2, 0, none⟩ = some (.bool ny) := BY15b.out.cell 0
  have qq3 : (w15.alloc (.cells #[.bool no, .slice oo lo co] 24)).cell? ⟨b2, 1, none⟩ = some (.slice oy ly cy) := BY15b.out.cell 1
  go_wp2_with fail
  refine ((subI_any _ _ _ _ _ _ _ _ x y _ HX15b.out HY15b.out hlx1 hly1).mono fun e w h => h.fine (KD.out.fits (by decide))).mono ?_
  rintro e w16 ⟨nd, od, ld, cd, rfl, hld, hz, hb⟩
  clear qq0 qq1 qq2 qq3
  have FP16a := Lib.hid (FP15b.out.later hb)
  have FS16a := Lib.hid (FS15b.out.later hb)
  have FT16a := Lib.hid (FT15b.out.later hb)
  have FU16a := Lib.hid (FU15b.out.later hb)
  have FR16a := Lib.hid (FR15b.out.later hb)
  have FI16a := Lib.hid (FI15b.out.later hb)
  have FJ16a := Lib.hid (FJ15b.out.later hb)
  have FL16a := Lib.hid (FL15b.out.later hb)
  have FO16a := Lib.hid (FO15b.out.later hb)
  have BX16a := Lib.hid (BX15b.out.below hb BX15b.out.lt)
  have BY16a := Lib.hid (BY15b.out.below hb BY15b.out.lt)
  have HX16a := Lib.hid (HX15b.out.keep hb)
  have HY16a := Lib.hid (HY15b.out.keep hb)
  have HS16a := Lib.hid (HS15b.out.keep hb)
  have HT16a := Lib.hid (HT15b.out.keep hb)
  have HU16a := Lib.hid (HU15b.out.keep hb)
  have HR16a := Lib.hid (HR15b.out.keep hb)
  have HI16a := Lib.hid (HI15b.out.keep hb)
  have HJ16a := Lib.hid (HJ15b.out.keep hb)
  have HL16a := Lib.hid (HL15b.out.keep hb)
  have HO16a := Lib.hid (HO15.out.keep hb)
  have hf : Fr w16 (w16.alloc (.cells #[.bool nd, .slice od ld cd] 24)) [(24, #[.bool nd, .slice od ld cd])] := (Fr.nil w16).alloc rfl _ _
  have FP16b := Lib.hid (FP16a.out.later hf.below)
  have FS16b := Lib.hid (FS16a.out.later hf.below)
  have FT16b := Lib.hid (FT16a.out.later hf.below)
  have FU16b := Lib.hid (FU16a.out.later hf.below)
  have FR16b := Lib.hid (FR16a.out.later hf.below)
  have FI16b := Lib.hid (FI16a.out.later hf.below)
  have FJ16b := Lib.hid (FJ16a.out.later hf.below)
  have FL16b := Lib.hid (FL16a.out.later hf.below)
  have FO16b := Lib.hid (FO16a.out.later hf.below)
  have BX16b := Lib.hid (BX16a.out.below hf.below BX16a.out.lt)
  have BY16b := Lib.hid (BY16a.out.below hf.below BY16a.out.lt)
  have HX16b := Lib.hid (HX16a.out.keep hf.below)
  have HY16b := Lib.hid (HY16a.out.keep hf.below)
  have HS16b := Lib.hid (HS16a.out.keep hf.below)
  have HT16b := Lib.hid (HT16a.out.keep hf.below)
  have HU16b := Lib.hid (HU16a.out.keep hf.below)
  have HR16b := Lib.hid (HR16a.out.keep hf.below)
  have HI16b := Lib.hid (HI16a.out.keep hf.below)
  have HJ16b := Lib.hid (HJ16a.out.keep hf.below)
  have HL16b := Lib.hid (HL16a.out.keep hf.below)
  have HO16b := Lib.hid (HO16a.out.keep hf.below)
  have FD16b := Lib.hid hf
  have HD16 := Lib.hid (hz.keep hf.below)
  clear hb hz hf
  have hld1 : ld ≤ 100000000 := by omega
  go_wp2_with fail
  rename_i Q1 K1 hK1
  refine nested 126 127 128 129 125 130 131 36 37 7 8 32 35 (.bool nx) (.slice ox lx cx) (.bool ny) (.slice oy ly cy) b1 b2 (-y) (x + -y) _ _ Try.func32 (by kernel_rfl) rfl Try.func35 (by kernel_rfl) rfl (by kernel_rfl)
    rfl rfl rfl rfl rfl rfl rfl rfl rfl rfl rfl rfl (by decide) (by decide) BX16b.out.lt BY16b.out.lt (BX16b.out.cell 0) (BX16b.out.cell 1) (BY16b.out.cell 0) (BY16b.out.cell 1)
    (fun w hb => (neg_any _ _ _ _ y w (HY16b.out.keep hb) (by omega)).mono fun e w h => h.small (KY.out.neg.fits (by decide)))
    (fun w n u l c hb hl hz => (addI_any _ _ _ _ _ _ _ _ x (-y) w (HX16b.out.keep hb) hz hlx1 (by omega)).mono fun e w h => h.noErr (KK.out.fits (by decide))) ?_
  intro w20 b3 nk ok lk ck d2 d6 d7 hb hb3 hbk hlk hzk
  refine hK1 _ _ ?_
  have FPk := Lib.hid (FP16b.out.later hb)
  have FSk := Lib.hid (FS16b.out.later hb)
  have FTk := Lib.hid (FT16b.out.later hb)
  have FUk := Lib.hid (FU16b.out.later hb)
  have FRk := Lib.hid (FR16b.out.later hb)
  have FIk := Lib.hid (FI16b.out.later hb)
  have FJk := Lib.hid (FJ16b.out.later hb)
  have FLk := Lib.hid (FL16b.out.later hb)
  have FOk := Lib.hid (FO16b.out.later hb)
  have FDk := Lib.hid (FD16b.out.later hb)
  have BXk := Lib.hid (BX16b.out.below hb BX16b.out.lt)
  have BYk := Lib.hid (BY16b.out.below hb BY16b.out.lt)
  have HXk := Lib.hid (HX16b.out.keep hb)
  have HYk := Lib.hid (HY16b.out.keep hb)
  have HSk := Lib.hid (HS16b.out.keep hb)
  have HTk := Lib.hid (HT16b.out.keep hb)
  have HUk := Lib.hid (HU16b.out.keep hb)
  have HRk := Lib.hid (HR16b.out.keep hb)
  have HIk := Lib.hid (HI16b.out.keep hb)
  have HJk := Lib.hid (HJ16b.out.keep hb)
  have HLk := Lib.hid (HL16b.out.keep hb)
  have HOk := Lib.hid (HO16b.out.keep hb)
  have HDk := Lib.hid (HD16.out.keep hb)
  have BKk := Lib.hid hbk
  have HKk := Lib.hid hzk
  clear hb hb3 hbk hzk hK1
  have hlk1 : lk ≤ 100000000 := by omega
  simp only [puts, Act.put]
  have qq0 : w20.cell? ⟨w5.heap.size, 0, none⟩ = some (.bool ns) := FSk.out.cell 0 0 rfl rfl
  have qq1 : w20.cell? ⟨w5.heap.size, 1, none⟩ = some (.slice os ls cs) := FSk.out.cell 0 1 rfl rfl
  have qq2 : w20.cell? ⟨w6.heap.size, 0, none⟩ = some (.bool nt) := FTk.out.cell 0 0 rfl rfl
  have qq3 : w20.cell? ⟨w6.heap.size, 1, none⟩ = some (.slice ot lt ct) := FTk.out.cell 0 1 rfl rfl
  have qq4 : w20.cell? ⟨w7.heap.size, 0, none⟩ = some (.bool nu) := FUk.out.cell 0 0 rfl rfl
  have qq5 : w20.cell? ⟨w7.heap.size, 1, none⟩ = some (.slice ou lu cu) := FUk.out.cell 0 1 rfl rfl
  have qq6 : w20.cell? ⟨w9.heap.size, 0, none⟩ = some (.bool nr) := FRk.out.cell 0 0 rfl rfl
  have qq7 : w20.cell? ⟨w9.heap.size, 1, none⟩ = some (.slice or lr cr) := FRk.out.cell 0 1 rfl rfl
  have qq8 : w20.cell? ⟨w10.heap.size, 0, none⟩ = some (.bool ni) := FIk.out.cell 0 0 rfl rfl
  have qq9 : w20.cell? ⟨w10.heap.size, 1, none⟩ = some (.slice oi li ci) := FIk.out.cell 0 1 rfl rfl
  have qq10 : w20.cell? ⟨w11.heap.size, 0, none⟩ = some (.bool nj) := FJk.out.cell 0 0 rfl rfl
  have qq11 : w20.cell? ⟨w11.heap.size, 1, none⟩ = some (.slice oj lj cj) := FJk.out.cell 0 1 rfl rfl
  have qq12 : w20.cell? ⟨w12.heap.size, 0, none⟩ = some (.bool nl) := FLk.out.cell 0 0 rfl rfl
  have qq13 : w20.cell? ⟨w12.heap.size, 1, none⟩ = some (.slice ol ll cl) := FLk.out.cell 0 1 rfl rfl
  have qq14 : w20.cell? ⟨w15.heap.size, 0, none⟩ = some (.bool no) := FOk.out.cell 0 0 rfl rfl
  have qq15 : w20.cell? ⟨w15.heap.size, 1, none⟩ = some (.slice oo lo co) := FOk.out.cell 0 1 rfl rfl
  have qq16 : w20.cell? ⟨w16.heap.size, 0, none⟩ = some (.bool nd) := FDk.out.cell 0 0 rfl rfl
  have qq17 : w20.cell? ⟨w16.heap.size, 1, none⟩ = some (.slice od ld cd) := FDk.out.cell 0 1 rfl rfl
  have qq18 : w20.cell? ⟨b3, 0, none⟩ = some (.bool nk) := BKk.out.cell 0
  have qq19 : w20.cell? ⟨b3, 1, none⟩ = some (.slice ok lk ck) := BKk.out.cell 1
  go_wp2_with fail
  have hls2 : ls ≤ 1000000000 := by omega
  have hlt2 : lt ≤ 1000000000 := by omega
  have hlu2 : lu ≤ 1000000000 := by omega
  have hlr2 : lr ≤ 1000000000 := by omega
  have hli2 : li ≤ 1000000000 := by omega
  have hlj2 : lj ≤ 1000000000 := by omega
  have hll2 : ll ≤ 1000000000 := by omega
  have hlo2 : lo ≤ 1000000000 := by omega
  have hld2 : ld ≤ 1000000000 := by omega
  have hlk2 : lk ≤ 1000000000 := by omega
  refine ((fine_any _ 13 _ _ (zeros_sl w20 36 13 _ rfl) (by decide)).mono fun e w h => (⟨h.1, h.2 ▸ (Below.refl _ _).alloc (Nat.le_refl _) _⟩ : e = .returned (.bool true) ∧ Below w20.heap.size w20 w)).mono ?_
  rintro e rw0 ⟨rfl, hb⟩
  clear qq0 qq1 qq2 qq3 qq4 qq5 qq6 qq7 qq8 qq9 qq10 qq11 qq12 qq13 qq14 qq15 qq16 qq17 qq18 qq19
  have FPr0 := Lib.hid (FPk.out.later hb)
  have FSr0 := Lib.hid (FSk.out.later hb)
  have FTr0 := Lib.hid (FTk.out.later hb)
  have FUr0 := Lib.hid (FUk.out.later hb)
  have FRr0 := Lib.hid (FRk.out.later hb)
  have FIr0 := Lib.hid (FIk.out.later hb)
  have FJr0 := Lib.hid (FJk.out.later hb)
  have FLr0 := Lib.hid (FLk.out.later hb)
  have FOr0 := Lib.hid (FOk.out.later hb)
  have FDr0 := Lib.hid (FDk.out.later hb)
  have BKr0 := Lib.hid (BKk.out.below hb BKk.out.lt)
  have HSr0 := Lib.hid (HSk.out.keep hb)
  have HTr0 := Lib.hid (HTk.out.keep hb)
  have HUr0 := Lib.hid (HUk.out.keep hb)
  have HRr0 := Lib.hid (HRk.out.keep hb)
  have HIr0 := Lib.hid (HIk.out.keep hb)
  have HJr0 := Lib.hid (HJk.out.keep hb)
  have HLr0 := Lib.hid (HLk.out.keep hb)
  have HOr0 := Lib.hid (HOk.out.keep hb)
  have HDr0 := Lib.hid (HDk.out.keep hb)
  have HKr0 := Lib.hid (HKk.out.keep hb)
  clear hb
  have qq0 : rw0.cell? ⟨w5.heap.size, 0, none⟩ = some (.bool ns) := FSr0.out.cell 0 0 rfl rfl
  have qq1 : rw0.cell? ⟨w5.heap.size, 1, none⟩ = some (.slice os ls cs) := FSr0.out.cell 0 1 rfl rfl
  have qq2 : rw0.cell? ⟨w6.heap.size, 0, none⟩ = some (.bool nt) := FTr0.out.cell 0 0 rfl rfl
  have qq3 : rw0.cell? ⟨w6.heap.size, 1, none⟩ = some (.slice ot lt ct) := FTr0.out.cell 0 1 rfl rfl
  go_wp2_with fail
  refine ((cmpI_any _ _ _ _ _ _ _ _ (x + y) (y + x) _ HSr0.out HTr0.out hls2 hlt2).mono fun e w h => (⟨h.1.trans (congrArg (fun t => Ending.returned (.int .i64 t)) (by rw [show (x + y) - (y + x) = 0 by grind]; rfl)), h.2⟩ : e = .returned (.int .i64 0) ∧ _)).mono ?_
  rintro e rw1 ⟨rfl, hb⟩
  clear qq0 qq1 qq2 qq3
  have FPr1 := Lib.hid (FPr0.out.later hb)
  have FSr1 := Lib.hid (FSr0.out.later hb)
  have FTr1 := Lib.hid (FTr0.out.later hb)
  have FUr1 := Lib.hid (FUr0.out.later hb)
  have FRr1 := Lib.hid (FRr0.out.later hb)
  have FIr1 := Lib.hid (FIr0.out.later hb)
  have FJr1 := Lib.hid (FJr0.out.later hb)
  have FLr1 := Lib.hid (FLr0.out.later hb)
  have FOr1 := Lib.hid (FOr0.out.later hb)
  have FDr1 := Lib.hid (FDr0.out.later hb)
  have BKr1 := Lib.hid (BKr0.out.below hb BKr0.out.lt)
  have HSr1 := Lib.hid (HSr0.out.keep hb)
  have HTr1 := Lib.hid (HTr0.out.keep hb)
  have HUr1 := Lib.hid (HUr0.out.keep hb)
  have HRr1 := Lib.hid (HRr0.out.keep hb)
  have HIr1 := Lib.hid (HIr0.out.keep hb)
  have HJr1 := Lib.hid (HJr0.out.keep hb)
  have HLr1 := Lib.hid (HLr0.out.keep hb)
  have HOr1 := Lib.hid (HOr0.out.keep hb)
  have HDr1 := Lib.hid (HDr0.out.keep hb)
  have HKr1 := Lib.hid (HKr0.out.keep hb)
  clear hb
  have qq0 : rw1.cell? ⟨w7.heap.size, 0, none⟩ = some (.bool nu) := FUr1.out.cell 0 0 rfl rfl
  have qq1 : rw1.cell? ⟨w7.heap.size, 1, none⟩ = some (.slice ou lu cu) := FUr1.out.cell 0 1 rfl rfl
  have qq2 : rw1.cell? ⟨w9.heap.size, 0, none⟩ = some (.bool nr) := FRr1.out.cell 0 0 rfl rfl
  have qq3 : rw1.cell? ⟨w9.heap.size, 1, none⟩ = some (.slice or lr cr) := FRr1.out.cell 0 1 rfl rfl
  go_wp2_with fail
  refine ((cmpI_any _ _ _ _ _ _ _ _ (x + y + z) (x + (y + z)) _ HUr1.out HRr1.out hlu2 hlr2).mono fun e w h => (⟨h.1.trans (congrArg (fun t => Ending.returned (.int .i64 t)) (by rw [show (x + y + z) - (x + (y + z)) = 0 by grind]; rfl)), h.2⟩ : e = .returned (.int .i64 0) ∧ _)).mono ?_
  rintro e rw2 ⟨rfl, hb⟩
  clear qq0 qq1 qq2 qq3
  have FPr2 := Lib.hid (FPr1.out.later hb)
  have FSr2 := Lib.hid (FSr1.out.later hb)
  have FTr2 := Lib.hid (FTr1.out.later hb)
  have FUr2 := Lib.hid (FUr1.out.later hb)
  have FRr2 := Lib.hid (FRr1.out.later hb)
  have FIr2 := Lib.hid (FIr1.out.later hb)
  have FJr2 := Lib.hid (FJr1.out.later hb)
  have FLr2 := Lib.hid (FLr1.out.later hb)
  have FOr2 := Lib.hid (FOr1.out.later hb)
  have FDr2 := Lib.hid (FDr1.out.later hb)
  have BKr2 := Lib.hid (BKr1.out.below hb BKr1.out.lt)
  have HSr2 := Lib.hid (HSr1.out.keep hb)
  have HTr2 := Lib.hid (HTr1.out.keep hb)
  have HUr2 := Lib.hid (HUr1.out.keep hb)
  have HRr2 := Lib.hid (HRr1.out.keep hb)
  have HIr2 := Lib.hid (HIr1.out.keep hb)
  have HJr2 := Lib.hid (HJr1.out.keep hb)
  have HLr2 := Lib.hid (HLr1.out.keep hb)
  have HOr2 := Lib.hid (HOr1.out.keep hb)
  have HDr2 := Lib.hid (HDr1.out.keep hb)
  have HKr2 := Lib.hid (HKr1.out.keep hb)
  clear hb
  have qq0 : rw2.cell? ⟨w10.heap.size, 0, none⟩ = some (.bool ni) := FIr2.out.cell 0 0 rfl rfl
  have qq1 : rw2.cell? ⟨w10.heap.size, 1, none⟩ = some (.slice oi li ci) := FIr2.out.cell 0 1 rfl rfl
  have qq2 : rw2.cell? ⟨w11.heap.size, 0, none⟩ = some (.bool nj) := FJr2.out.cell 0 0 rfl rfl
  have qq3 : rw2.cell? ⟨w11.heap.size, 1, none⟩ = some (.slice oj lj cj) := FJr2.out.cell 0 1 rfl rfl
  go_wp2_with fail
  refine ((cmpI_any _ _ _ _ _ _ _ _ (x * y) (y * x) _ HIr2.out HJr2.out hli2 hlj2).mono fun e w h => (⟨h.1.trans (congrArg (fun t => Ending.returned (.int .i64 t)) (by rw [show (x * y) - (y * x) = 0 by grind]; rfl)), h.2⟩ : e = .returned (.int .i64 0) ∧ _)).mono ?_
  rintro e rw3 ⟨rfl, hb⟩
  clear qq0 qq1 qq2 qq3
  have FPr3 := Lib.hid (FPr2.out.later hb)
  have FSr3 := Lib.hid (FSr2.out.later hb)
  have FTr3 := Lib.hid (FTr2.out.later hb)
  have FUr3 := Lib.hid (FUr2.out.later hb)
  have FRr3 := Lib.hid (FRr2.out.later hb)
  have FIr3 := Lib.hid (FIr2.out.later hb)
  have FJr3 := Lib.hid (FJr2.out.later hb)
  have FLr3 := Lib.hid (FLr2.out.later hb)
  have FOr3 := Lib.hid (FOr2.out.later hb)
  have FDr3 := Lib.hid (FDr2.out.later hb)
  have BKr3 := Lib.hid (BKr2.out.below hb BKr2.out.lt)
  have HSr3 := Lib.hid (HSr2.out.keep hb)
  have HTr3 := Lib.hid (HTr2.out.keep hb)
  have HUr3 := Lib.hid (HUr2.out.keep hb)
  have HRr3 := Lib.hid (HRr2.out.keep hb)
  have HIr3 := Lib.hid (HIr2.out.keep hb)
  have HJr3 := Lib.hid (HJr2.out.keep hb)
  have HLr3 := Lib.hid (HLr2.out.keep hb)
  have HOr3 := Lib.hid (HOr2.out.keep hb)
  have HDr3 := Lib.hid (HDr2.out.keep hb)
  have HKr3 := Lib.hid (HKr2.out.keep hb)
  clear hb
  have qq0 : rw3.cell? ⟨w12.heap.size, 0, none⟩ = some (.bool nl) := FLr3.out.cell 0 0 rfl rfl
  have qq1 : rw3.cell? ⟨w12.heap.size, 1, none⟩ = some (.slice ol ll cl) := FLr3.out.cell 0 1 rfl rfl
  have qq2 : rw3.cell? ⟨w15.heap.size, 0, none⟩ = some (.bool no) := FOr3.out.cell 0 0 rfl rfl
  have qq3 : rw3.cell? ⟨w15.heap.size, 1, none⟩ = some (.slice oo lo co) := FOr3.out.cell 0 1 rfl rfl
  go_wp2_with fail
  refine ((cmpI_any _ _ _ _ _ _ _ _ ((x + y) * z) (x * z + y * z) _ HLr3.out HOr3.out hll2 hlo2).mono fun e w h => (⟨h.1.trans (congrArg (fun t => Ending.returned (.int .i64 t)) (by rw [show ((x + y) * z) - (x * z + y * z) = 0 by grind]; rfl)), h.2⟩ : e = .returned (.int .i64 0) ∧ _)).mono ?_
  rintro e rw4 ⟨rfl, hb⟩
  clear qq0 qq1 qq2 qq3
  have FPr4 := Lib.hid (FPr3.out.later hb)
  have FSr4 := Lib.hid (FSr3.out.later hb)
  have FTr4 := Lib.hid (FTr3.out.later hb)
  have FUr4 := Lib.hid (FUr3.out.later hb)
  have FRr4 := Lib.hid (FRr3.out.later hb)
  have FIr4 := Lib.hid (FIr3.out.later hb)
  have FJr4 := Lib.hid (FJr3.out.later hb)
  have FLr4 := Lib.hid (FLr3.out.later hb)
  have FOr4 := Lib.hid (FOr3.out.later hb)
  have FDr4 := Lib.hid (FDr3.out.later hb)
  have BKr4 := Lib.hid (BKr3.out.below hb BKr3.out.lt)
  have HSr4 := Lib.hid (HSr3.out.keep hb)
  have HTr4 := Lib.hid (HTr3.out.keep hb)
  have HUr4 := Lib.hid (HUr3.out.keep hb)
  have HRr4 := Lib.hid (HRr3.out.keep hb)
  have HIr4 := Lib.hid (HIr3.out.keep hb)
  have HJr4 := Lib.hid (HJr3.out.keep hb)
  have HLr4 := Lib.hid (HLr3.out.keep hb)
  have HOr4 := Lib.hid (HOr3.out.keep hb)
  have HDr4 := Lib.hid (HDr3.out.keep hb)
  have HKr4 := Lib.hid (HKr3.out.keep hb)
  clear hb
  have qq0 : rw4.cell? ⟨w16.heap.size, 0, none⟩ = some (.bool nd) := FDr4.out.cell 0 0 rfl rfl
  have qq1 : rw4.cell? ⟨w16.heap.size, 1, none⟩ = some (.slice od ld cd) := FDr4.out.cell 0 1 rfl rfl
  have qq2 : rw4.cell? ⟨b3, 0, none⟩ = some (.bool nk) := BKr4.out.cell 0
  have qq3 : rw4.cell? ⟨b3, 1, none⟩ = some (.slice ok lk ck) := BKr4.out.cell 1
  go_wp2_with fail
  refine ((cmpI_any _ _ _ _ _ _ _ _ (x - y) (x + -y) _ HDr4.out HKr4.out hld2 hlk2).mono fun e w h => (⟨h.1.trans (congrArg (fun t => Ending.returned (.int .i64 t)) (by rw [show (x - y) - (x + -y) = 0 by grind]; rfl)), h.2⟩ : e = .returned (.int .i64 0) ∧ _)).mono ?_
  rintro e rw5 ⟨rfl, hb⟩
  clear qq0 qq1 qq2 qq3
  have FPr5 := Lib.hid (FPr4.out.later hb)
  have FSr5 := Lib.hid (FSr4.out.later hb)
  have FTr5 := Lib.hid (FTr4.out.later hb)
  have FUr5 := Lib.hid (FUr4.out.later hb)
  have FRr5 := Lib.hid (FRr4.out.later hb)
  have FIr5 := Lib.hid (FIr4.out.later hb)
  have FJr5 := Lib.hid (FJr4.out.later hb)
  have FLr5 := Lib.hid (FLr4.out.later hb)
  have FOr5 := Lib.hid (FOr4.out.later hb)
  have FDr5 := Lib.hid (FDr4.out.later hb)
  have BKr5 := Lib.hid (BKr4.out.below hb BKr4.out.lt)
  have HSr5 := Lib.hid (HSr4.out.keep hb)
  have HTr5 := Lib.hid (HTr4.out.keep hb)
  have HUr5 := Lib.hid (HUr4.out.keep hb)
  have HRr5 := Lib.hid (HRr4.out.keep hb)
  have HIr5 := Lib.hid (HIr4.out.keep hb)
  have HJr5 := Lib.hid (HJr4.out.keep hb)
  have HLr5 := Lib.hid (HLr4.out.keep hb)
  have HOr5 := Lib.hid (HOr4.out.keep hb)
  have HDr5 := Lib.hid (HDr4.out.keep hb)
  have HKr5 := Lib.hid (HKr4.out.keep hb)
  clear hb
  go_wp2_with fail
  refine (awake_any _).mono ?_
  rintro e rw6 ⟨rfl, hb⟩
  have FPr6 := Lib.hid (FPr5.out.later hb)
  have FSr6 := Lib.hid (FSr5.out.later hb)
  have FTr6 := Lib.hid (FTr5.out.later hb)
  have FUr6 := Lib.hid (FUr5.out.later hb)
  have FRr6 := Lib.hid (FRr5.out.later hb)
  have FIr6 := Lib.hid (FIr5.out.later hb)
  have FJr6 := Lib.hid (FJr5.out.later hb)
  have FLr6 := Lib.hid (FLr5.out.later hb)
  have FOr6 := Lib.hid (FOr5.out.later hb)
  have FDr6 := Lib.hid (FDr5.out.later hb)
  have BKr6 := Lib.hid (BKr5.out.below hb BKr5.out.lt)
  have HSr6 := Lib.hid (HSr5.out.keep hb)
  have HTr6 := Lib.hid (HTr5.out.keep hb)
  have HUr6 := Lib.hid (HUr5.out.keep hb)
  have HRr6 := Lib.hid (HRr5.out.keep hb)
  have HIr6 := Lib.hid (HIr5.out.keep hb)
  have HJr6 := Lib.hid (HJr5.out.keep hb)
  have HLr6 := Lib.hid (HLr5.out.keep hb)
  have HOr6 := Lib.hid (HOr5.out.keep hb)
  have HDr6 := Lib.hid (HDr5.out.keep hb)
  have HKr6 := Lib.hid (HKr5.out.keep hb)
  go_wp2
  go_ret
  exact ⟨rfl, FPr6.out.below⟩

set_option maxRecDepth 100000 in
theorem lifted (os : Os) (started : os.Started) (H : Type) (enc : TypeId × Value → H) :
    ReturnsInHanded {} Try.checked os 11 .any (Rows.numRingSpec.pre6 enc Try.prog Try.f11 Rows.numRingRow.domain false) (Rows.numRingSpec.post enc Try.prog Try.f11 false true false false) := by
  refine returnsInHanded_of_change (C := Try.checked) own started (by kernel_rfl) Try.func11
    (ChangeSpec.witness6 (enc := enc) (C := Try.checked) false ⟨#[], #[.agg #[.bool false, .slice none 0 0], .agg #[.bool false, .slice none 0 0], .agg #[.bool false, .slice none 0 0]], []⟩ 8 (by kernel_rfl) (by kernel_rfl) (by kernel_rfl) (by kernel_rfl)) ?_
  intro W base args ds gs before hval0 hW hcnd _
  have hval : ∀ (j : Nat) t v, Try.f11.params[j]? = some t → args[j]? = some v → Value.okWide Try.prog W .any base t v := hval0
  have hW' := hW
  obtain ⟨p, q, hA0, hV, rfl, hfz, hnd⟩ := hW
  have hA : DataW.TrodAll enc Try.prog W 0 (fun _ => true) true Try.f11.params.toList args.toList ds p := hA0
  have hAk := hA
  rw [Try.params11] at hA hval
  obtain ⟨v0, vs0, d0, ds0, p0, q0, hargs, rfl, rfl, h0, r0⟩ := trodAll_cons hA
  obtain ⟨v1, vs1, d1, ds1, p1, q1, rfl, rfl, rfl, h1, r1⟩ := trodAll_cons r0
  obtain ⟨v2, vs2, d2, ds2, p2, q2, rfl, rfl, rfl, h2, r2⟩ := trodAll_cons r1
  obtain ⟨rfl, rfl, rfl⟩ := trodAll_nil r2
  obtain rfl : args = #[v0, v1, v2] := by cases args; simp_all
  obtain ⟨rfl, rfl⟩ := trodVars_none hV
  obtain ⟨s, ao, la, ca, xs, rfl, hs, hd, hla⟩ := open_raw (hval 0 46 v0 rfl rfl) h0
  obtain ⟨s2, ao2, la2, ca2, ys, rfl, hs2, hd2, hla2⟩ := open_raw (hval 1 46 v1 rfl rfl) h1
  obtain ⟨s3, ao3, la3, ca3, zs, rfl, hs3, hd3, hla3⟩ := open_raw (hval 2 46 v2 rfl rfl) h2
  clear hA0 hval0
  rw [List.append_nil] at hW'
  refine (walk s s2 s3 ao ao2 ao3 la la2 la3 ca ca2 ca3 xs ys zs W hs hd hla hs2 hd2 hla2 hs3 hd3 hla3).mono fun e W' ⟨he, hg⟩ => ?_
  subst he
  exact ⟨_, rfl, post_law (by kernel_rfl) (by rw [Try.params11]; intro t ht; simp at ht; subst ht; exact ⟨by kernel_rfl, of_decide_eq_true (by kernel_rfl)⟩) hW' rfl rfl Try.underlying4 hAk rfl rfl rfl hg⟩

theorem over : Rows.numRingRow.holds Try.pinned (OpenSpec.ofChange Rows.numRingSpec) :=
  OpenClaim.holds_of_wide 11 Try.f11 rfl rfl rfl rfl rfl rfl rfl ⟨rfl, rfl, rfl, rfl, rfl⟩ rfl rfl rfl rfl rfl (by kernel_rfl) Try.func11 (by kernel_rfl)
    (of_decide_eq_true (by kernel_rfl)) (by unfold Func.isWrapper; first | (rw [if_pos (by decide +kernel)]; kernel_rfl) | (rw [if_neg (by decide +kernel)]; exact ⟨rfl, rfl⟩))
    (fun os started H enc _ => lifted os started H enc)

/-- the statement -/
theorem proved : Rows.NumRingSaid :=
  over
end Go.Proofs.Ytdnnjjclklcihaa.numRing
