import Derived.Test.YtgfchpbdoebmbaaC7
import Derived.Deep.RegionHeld3
namespace Go.Proofs.Ytgfchpbdoebmbaa
open Go.RowKit
set_option linter.unusedVariables false
set_option linter.unusedSimpArgs false

set_option maxRecDepth 100000 in
set_option maxHeartbeats 8000000 in
theorem exactApart_any (a0 a1 a2 a3 a4 a5 a6 a7 : Option Addr) (c0 c1 c2 c3 c4 c5 c6 c7 : Nat) (V : Ef) (b0 b1 b2 b3 b4 b5 b6 b7 : Option Addr) (d0 d1 d2 d3 d4 d5 d6 d7 : Nat) (U : Ef) (w : World) (hV : InE w 0 a0 a1 a2 a3 a4 a5 a6 a7 V) (mV : mEf V) (hU : InE w 0 b0 b1 b2 b3 b4 b5 b6 b7 U) (mU : mEf U) :
    Calls Try.prog 5 #[.agg #[.slice a0 V.l0.length c0, .slice a1 V.l1.length c1, .slice a2 V.l2.length c2, .slice a3 V.l3.length c3, .slice a4 V.l4.length c4, .slice a5 V.l5.length c5, .slice a6 V.l6.length c6, .slice a7 V.l7.length c7, .bool V.sp, .bool V.kl], .agg #[.slice b0 U.l0.length d0, .slice b1 U.l1.length d1, .slice b2 U.l2.length d2, .slice b3 U.l3.length d3, .slice b4 U.l4.length d4, .slice b5 U.l5.length d5, .slice b6 U.l6.length d6, .slice b7 U.l7.length d7, .bool U.sp, .bool U.kl]] w fun e w' => e = .returned (.bool true) ∧ Below w.heap.size w w' := by
  obtain ⟨k0, k1, L0⟩ := blkTwoE w #[.slice a0 V.l0.length c0, .slice a1 V.l1.length c1, .slice a2 V.l2.length c2, .slice a3 V.l3.length c3, .slice a4 V.l4.length c4, .slice a5 V.l5.length c5, .slice a6 V.l6.length c6, .slice a7 V.l7.length c7, .bool V.sp, .bool V.kl] #[.slice b0 U.l0.length d0, .slice b1 U.l1.length d1, .slice b2 U.l2.length d2, .slice b3 U.l3.length d3, .slice b4 U.l4.length d4, .slice b5 U.l5.length d5, .slice b6 U.l6.length d6, .slice b7 U.l7.length d7, .bool U.sp, .bool U.kl] 24 24
  obtain ⟨x0, x1, x2, x3, x4, x5, x6, x7, x8, x9, xf⟩ := k0.ten
  have HV : Hid (InE w 0 a0 a1 a2 a3 a4 a5 a6 a7 V) := hV
  have HU : Hid (InE w 0 b0 b1 b2 b3 b4 b5 b6 b7 U) := hU
  clear hV hU
  go_enter Try.func5, Try.ntmps5
  go_wp2_with fail
  refine (szEffect_gen a0 a1 a2 a3 a4 a5 a6 a7 c0 c1 c2 c3 c4 c5 c6 c7 V 1048576 _ mV (by omega) (by omega)).mono ?_
  rintro e w1 ⟨⟨r, rfl, hr⟩, hb1⟩
  have L1 := bl_trans L0 hb1
  replace k0 := k0.later hb1
  replace k1 := k1.later hb1
  clear x0 x1 x2 x3 x4 x5 x6 x7 x8 x9 xf hb1 L0 mV
  rcases hr with rfl | ⟨r0, r1, kv⟩
  · go_wp2_with fail
    go_ret
    exact ⟨rfl, L1⟩
  have t1 : decide (r < 0) = false := by simp; omega
  have KV : Hid (kEf V) := kv
  clear kv
  obtain ⟨y0, y1, y2, y3, y4, y5, y6, y7, y8, y9, yf⟩ := k1.ten
  go_wp2_with fail
  refine (szEffect_gen b0 b1 b2 b3 b4 b5 b6 b7 d0 d1 d2 d3 d4 d5 d6 d7 U r _ mU r0 (by omega)).mono ?_
  rintro e w2 ⟨⟨r', rfl, hr⟩, hb2⟩
  have L2 := bl_trans L1 hb2
  replace k0 := k0.later hb2
  replace k1 := k1.later hb2
  clear y0 y1 y2 y3 y4 y5 y6 y7 y8 y9 yf hb2 L1 t1 mU
  rcases hr with rfl | ⟨r0', r1', ku⟩
  · go_wp2_with fail
    go_ret
    exact ⟨rfl, L2⟩
  have t1 : decide (r' < 0) = false := by simp; omega
  have KU : Hid (kEf U) := ku
  clear ku r0 r1 r0' r1'
  have KLV : Hid (V.l0.length ≤ 4398046511104 ∧ V.l1.length ≤ 4398046511104 ∧ V.l2.length ≤ 4398046511104 ∧ V.l3.length ≤ 4398046511104 ∧ V.l4.length ≤ 4398046511104 ∧ V.l5.length ≤ 4398046511104 ∧ V.l6.length ≤ 4398046511104 ∧ V.l7.length ≤ 4398046511104) := by obtain ⟨m0, m1, m2, m3, m4, m5, m6, m7⟩ := KV.out; show _ ∧ _; omega
  have KLU : Hid (U.l0.length ≤ 4398046511104 ∧ U.l1.length ≤ 4398046511104 ∧ U.l2.length ≤ 4398046511104 ∧ U.l3.length ≤ 4398046511104 ∧ U.l4.length ≤ 4398046511104 ∧ U.l5.length ≤ 4398046511104 ∧ U.l6.length ≤ 4398046511104 ∧ U.l7.length ≤ 4398046511104) := by obtain ⟨m0, m1, m2, m3, m4, m5, m6, m7⟩ := KU.out; show _ ∧ _; omega
  obtain ⟨x0, x1, x2, x3, x4, x5, x6, x7, x8, x9, xf⟩ := k0.ten
  obtain ⟨y0, y1, y2, y3, y4, y5, y6, y7, y8, y9, yf⟩ := k1.ten
  have K0 : Hid (Blk w2 w.heap.size #[.slice a0 V.l0.length c0, .slice a1 V.l1.length c1, .slice a2 V.l2.length c2, .slice a3 V.l3.length c3, .slice a4 V.l4.length c4, .slice a5 V.l5.length c5, .slice a6 V.l6.length c6, .slice a7 V.l7.length c7, .bool V.sp, .bool V.kl] 24) := k0
  have K1 : Hid (Blk w2 (w.heap.size + 1) #[.slice b0 U.l0.length d0, .slice b1 U.l1.length d1, .slice b2 U.l2.length d2, .slice b3 U.l3.length d3, .slice b4 U.l4.length d4, .slice b5 U.l5.length d5, .slice b6 U.l6.length d6, .slice b7 U.l7.length d7, .bool U.sp, .bool U.kl] 24) := k1
  clear k0 k1
  go_wp2_with fail
  go_region_held3 (fun w' => w'.cell? ⟨w.heap.size, 0, none⟩ = some (.slice a0 V.l0.length c0) ∧ w'.cell? ⟨w.heap.size, 1, none⟩ = some (.slice a1 V.l1.length c1) ∧ w'.cell? ⟨w.heap.size, 2, none⟩ = some (.slice a2 V.l2.length c2) ∧ w'.cell? ⟨w.heap.size, 3, none⟩ = some (.slice a3 V.l3.length c3) ∧ w'.cell? ⟨w.heap.size, 4, none⟩ = some (.slice a4 V.l4.length c4) ∧ w'.cell? ⟨w.heap.size, 5, none⟩ = some (.slice a5 V.l5.length c5) ∧ w'.cell? ⟨w.heap.size, 6, none⟩ = some (.slice a6 V.l6.length c6) ∧ w'.cell? ⟨w.heap.size, 7, none⟩ = some (.slice a7 V.l7.length c7) ∧ w'.cell? ⟨w.heap.size, 8, none⟩ = some (.bool V.sp) ∧ w'.cell? ⟨w.heap.size, 9, none⟩ = some (.bool V.kl) ∧ w'.cell? ⟨w.heap.size + 1, 0, none⟩ = some (.slice b0 U.l0.length d0) ∧ w'.cell? ⟨w.heap.size + 1, 1, none⟩ = some (.slice b1 U.l1.length d1) ∧ w'.cell? ⟨w.heap.size + 1, 2, none⟩ = some (.slice b2 U.l2.length d2) ∧ w'.cell? ⟨w.heap.size + 1, 3, none⟩ = some (.slice b3 U.l3.length d3) ∧ w'.cell? ⟨w.heap.size + 1, 4, none⟩ = some (.slice b4 U.l4.length d4) ∧ w'.cell? ⟨w.heap.size + 1, 5, none⟩ = some (.slice b5 U.l5.length d5) ∧ w'.cell? ⟨w.heap.size + 1, 6, none⟩ = some (.slice b6 U.l6.length d6) ∧ w'.cell? ⟨w.heap.size + 1, 7, none⟩ = some (.slice b7 U.l7.length d7) ∧ w'.cell? ⟨w.heap.size + 1, 8, none⟩ = some (.bool U.sp) ∧ w'.cell? ⟨w.heap.size + 1, 9, none⟩ = some (.bool U.kl)) (simp [x0, x1, x2, x3, x4, x5, x6, x7, x8, x9, y0, y1, y2, y3, y4, y5, y6, y7, y8, y9])
    (first
      | (go_at_call 9; first
          | (refine (toEffect_made b0 b1 b2 b3 b4 b5 b6 b7 d0 d1 d2 d3 d4 d5 d6 d7 U 0 _ (HU.out.later (bl_trans L2 hwa)) KU.out).mono ?_; rintro e wb ⟨⟨k0, k1, k2, k3, k4, k5, k6, k7, rfl, hIb⟩, hbb⟩; have hwb : Below w2.heap.size w2 wb := bl_trans hwa hbb; obtain ⟨x0, x1, x2, x3, x4, x5, x6, x7, x8, x9, xf⟩ := (K0.out.later hwb).ten; obtain ⟨y0, y1, y2, y3, y4, y5, y6, y7, y8, y9, yf⟩ := (K1.out.later hwb).ten)
          | (refine (toEffect_made a0 a1 a2 a3 a4 a5 a6 a7 c0 c1 c2 c3 c4 c5 c6 c7 V 0 _ (HV.out.later (bl_drew L2)) KV.out).mono ?_; rintro e wa ⟨⟨h0, h1, h2, h3, h4, h5, h6, h7, rfl, hIa⟩, hba⟩; have hwa : Below w2.heap.size w2 wa := bl_trans (bl_drew (Below.refl _ _)) hba; obtain ⟨x0, x1, x2, x3, x4, x5, x6, x7, x8, x9, xf⟩ := (K0.out.later hwa).ten; obtain ⟨y0, y1, y2, y3, y4, y5, y6, y7, y8, y9, yf⟩ := (K1.out.later hwa).ten))
      | (go_at_call 18; refine (specApart_any _ _ _ _ _ _ _ _ _ _ _ _ _ _ _ _ V _ _ _ _ _ _ _ _ _ _ _ _ _ _ _ _ U _ _ wb (hIa.later hbb) hIb KV.out KU.out ⟨Nat.le_refl _, Nat.le_refl _, Nat.le_refl _, Nat.le_refl _, Nat.le_refl _, Nat.le_refl _, Nat.le_refl _, Nat.le_refl _⟩ ⟨Nat.le_refl _, Nat.le_refl _, Nat.le_refl _, Nat.le_refl _, Nat.le_refl _, Nat.le_refl _, Nat.le_refl _, Nat.le_refl _⟩).mono ?_; rintro e wc ⟨rfl, hbc⟩; have hwc : Below w2.heap.size w2 wc := bl_trans hwb hbc; obtain ⟨x0, x1, x2, x3, x4, x5, x6, x7, x8, x9, xf⟩ := (K0.out.later hwc).ten; obtain ⟨y0, y1, y2, y3, y4, y5, y6, y7, y8, y9, yf⟩ := (K1.out.later hwc).ten))
  have L3 : Hid (Below w.heap.size w wc) := bl_trans L2 hwc
  replace K0 := K0.out.later hwc
  replace K1 := K1.out.later hwc
  clear hIa hIb hba hbb hbc hwa hwb hwc L2
  go_wp2_with fail
  refine (toEffect_made a0 a1 a2 a3 a4 a5 a6 a7 c0 c1 c2 c3 c4 c5 c6 c7 V 0 _ (HV.out.later L3.out) KV.out).mono ?_
  rintro e wd ⟨⟨h0, h1, h2, h3, h4, h5, h6, h7, rfl, hx⟩, hbd⟩
  have KX := Blk.new wd #[.slice (some ⟨h0, 0, none⟩) V.l0.length V.l0.length, .slice (some ⟨h1, 0, none⟩) V.l1.length V.l1.length, .slice (some ⟨h2, 0, none⟩) V.l2.length V.l2.length, .slice (some ⟨h3, 0, none⟩) V.l3.length V.l3.length, .slice (some ⟨h4, 0, none⟩) V.l4.length V.l4.length, .slice (some ⟨h5, 0, none⟩) V.l5.length V.l5.length, .slice (some ⟨h6, 0, none⟩) V.l6.length V.l6.length, .slice (some ⟨h7, 0, none⟩) V.l7.length V.l7.length, .bool V.sp, .bool V.kl] 28
  have LY : Below wd.heap.size wd (wd.alloc (.cells #[.slice (some ⟨h0, 0, none⟩) V.l0.length V.l0.length, .slice (some ⟨h1, 0, none⟩) V.l1.length V.l1.length, .slice (some ⟨h2, 0, none⟩) V.l2.length V.l2.length, .slice (some ⟨h3, 0, none⟩) V.l3.length V.l3.length, .slice (some ⟨h4, 0, none⟩) V.l4.length V.l4.length, .slice (some ⟨h5, 0, none⟩) V.l5.length V.l5.length, .slice (some ⟨h6, 0, none⟩) V.l6.length V.l6.length, .slice (some ⟨h7, 0, none⟩) V.l7.length V.l7.length, .bool V.sp, .bool V.kl] 28)) := bl_alloc (Below.refl _ _) _
  replace K0 := (K0.later hbd).later LY
  replace K1 := (K1.later hbd).later LY
  replace hx := hx.later LY
  have LD := bl_trans (bl_trans L3.out hbd) LY
  clear x0 x1 x2 x3 x4 x5 x6 x7 x8 x9 xf y0 y1 y2 y3 y4 y5 y6 y7 y8 y9 yf L3 hbd LY
  obtain ⟨y0, y1, y2, y3, y4, y5, y6, y7, y8, y9, yf⟩ := K1.ten
  go_wp2_with fail
  clear y0 y1 y2 y3 y4 y5 y6 y7 y8 y9 yf
  generalize hX : wd.alloc (.cells #[.slice (some ⟨h0, 0, none⟩) V.l0.length V.l0.length, .slice (some ⟨h1, 0, none⟩) V.l1.length V.l1.length, .slice (some ⟨h2, 0, none⟩) V.l2.length V.l2.length, .slice (some ⟨h3, 0, none⟩) V.l3.length V.l3.length, .slice (some ⟨h4, 0, none⟩) V.l4.length V.l4.length, .slice (some ⟨h5, 0, none⟩) V.l5.length V.l5.length, .slice (some ⟨h6, 0, none⟩) V.l6.length V.l6.length, .slice (some ⟨h7, 0, none⟩) V.l7.length V.l7.length, .bool V.sp, .bool V.kl] 28) = Y at KX K0 K1 LD hx ⊢
  clear hX
  refine (toEffect_made b0 b1 b2 b3 b4 b5 b6 b7 d0 d1 d2 d3 d4 d5 d6 d7 U 0 _ (HU.out.later LD) KU.out).mono ?_
  rintro e we ⟨⟨k0, k1, k2, k3, k4, k5, k6, k7, rfl, hy⟩, hbe⟩
  have KY := Blk.new we #[.slice (some ⟨k0, 0, none⟩) U.l0.length U.l0.length, .slice (some ⟨k1, 0, none⟩) U.l1.length U.l1.length, .slice (some ⟨k2, 0, none⟩) U.l2.length U.l2.length, .slice (some ⟨k3, 0, none⟩) U.l3.length U.l3.length, .slice (some ⟨k4, 0, none⟩) U.l4.length U.l4.length, .slice (some ⟨k5, 0, none⟩) U.l5.length U.l5.length, .slice (some ⟨k6, 0, none⟩) U.l6.length U.l6.length, .slice (some ⟨k7, 0, none⟩) U.l7.length U.l7.length, .bool U.sp, .bool U.kl] 28
  have LZ : Below we.heap.size we (we.alloc (.cells #[.slice (some ⟨k0, 0, none⟩) U.l0.length U.l0.length, .slice (some ⟨k1, 0, none⟩) U.l1.length U.l1.length, .slice (some ⟨k2, 0, none⟩) U.l2.length U.l2.length, .slice (some ⟨k3, 0, none⟩) U.l3.length U.l3.length, .slice (some ⟨k4, 0, none⟩) U.l4.length U.l4.length, .slice (some ⟨k5, 0, none⟩) U.l5.length U.l5.length, .slice (some ⟨k6, 0, none⟩) U.l6.length U.l6.length, .slice (some ⟨k7, 0, none⟩) U.l7.length U.l7.length, .bool U.sp, .bool U.kl] 28)) := bl_alloc (Below.refl _ _) _
  replace KX := (KX.later hbe).later LZ
  replace K0 := (K0.later hbe).later LZ
  replace K1 := (K1.later hbe).later LZ
  replace hx := (hx.later hbe).later LZ
  replace hy := hy.later LZ
  have LE := bl_trans (bl_trans LD hbe) LZ
  clear LD hbe LZ
  obtain ⟨x0, x1, x2, x3, x4, x5, x6, x7, x8, x9, xf⟩ := KX.ten
  obtain ⟨y0, y1, y2, y3, y4, y5, y6, y7, y8, y9, yf⟩ := KY.ten
  go_wp2_with fail
  generalize hZ : we.alloc (.cells #[.slice (some ⟨k0, 0, none⟩) U.l0.length U.l0.length, .slice (some ⟨k1, 0, none⟩) U.l1.length U.l1.length, .slice (some ⟨k2, 0, none⟩) U.l2.length U.l2.length, .slice (some ⟨k3, 0, none⟩) U.l3.length U.l3.length, .slice (some ⟨k4, 0, none⟩) U.l4.length U.l4.length, .slice (some ⟨k5, 0, none⟩) U.l5.length U.l5.length, .slice (some ⟨k6, 0, none⟩) U.l6.length U.l6.length, .slice (some ⟨k7, 0, none⟩) U.l7.length U.l7.length, .bool U.sp, .bool U.kl] 28) = Z at KX KY K0 K1 LE hx hy x0 x1 x2 x3 x4 x5 x6 x7 x8 x9 xf y0 y1 y2 y3 y4 y5 y6 y7 y8 y9 yf ⊢
  clear hZ
  refine (implApart_any _ _ _ _ _ _ _ _ _ _ _ _ _ _ _ _ V _ _ _ _ _ _ _ _ _ _ _ _ _ _ _ _ U _ _ Z hx hy KV.out KU.out).mono ?_
  rintro e wf ⟨rfl, hbf⟩
  have LF : Hid (Below w.heap.size w wf) := bl_trans LE hbf
  replace KX := KX.later hbf
  have KY : Hid (Blk wf we.heap.size #[.slice (some ⟨k0, 0, none⟩) U.l0.length U.l0.length, .slice (some ⟨k1, 0, none⟩) U.l1.length U.l1.length, .slice (some ⟨k2, 0, none⟩) U.l2.length U.l2.length, .slice (some ⟨k3, 0, none⟩) U.l3.length U.l3.length, .slice (some ⟨k4, 0, none⟩) U.l4.length U.l4.length, .slice (some ⟨k5, 0, none⟩) U.l5.length U.l5.length, .slice (some ⟨k6, 0, none⟩) U.l6.length U.l6.length, .slice (some ⟨k7, 0, none⟩) U.l7.length U.l7.length, .bool U.sp, .bool U.kl] 28) := KY.later hbf
  replace K0 := K0.later hbf
  have K1 : Hid (Blk wf (w.heap.size + 1) #[.slice b0 U.l0.length d0, .slice b1 U.l1.length d1, .slice b2 U.l2.length d2, .slice b3 U.l3.length d3, .slice b4 U.l4.length d4, .slice b5 U.l5.length d5, .slice b6 U.l6.length d6, .slice b7 U.l7.length d7, .bool U.sp, .bool U.kl] 24) := K1.later hbf
  have HX : Hid (InE wf _ (some ⟨h0, 0, none⟩) (some ⟨h1, 0, none⟩) (some ⟨h2, 0, none⟩) (some ⟨h3, 0, none⟩) (some ⟨h4, 0, none⟩) (some ⟨h5, 0, none⟩) (some ⟨h6, 0, none⟩) (some ⟨h7, 0, none⟩) V) := hx.later hbf
  have HY : Hid (InE wf _ (some ⟨k0, 0, none⟩) (some ⟨k1, 0, none⟩) (some ⟨k2, 0, none⟩) (some ⟨k3, 0, none⟩) (some ⟨k4, 0, none⟩) (some ⟨k5, 0, none⟩) (some ⟨k6, 0, none⟩) (some ⟨k7, 0, none⟩) U) := hy.later hbf
  clear LE hbf x0 x1 x2 x3 x4 x5 x6 x7 x8 x9 xf y0 y1 y2 y3 y4 y5 y6 y7 y8 y9 yf hx hy
  obtain ⟨x0, x1, x2, x3, x4, x5, x6, x7, x8, x9, xf⟩ := KX.ten
  obtain ⟨z0, z1, z2, z3, z4, z5, z6, z7, z8, z9, zf⟩ := K0.ten
  have KXH : Hid (Blk wf wd.heap.size #[.slice (some ⟨h0, 0, none⟩) V.l0.length V.l0.length, .slice (some ⟨h1, 0, none⟩) V.l1.length V.l1.length, .slice (some ⟨h2, 0, none⟩) V.l2.length V.l2.length, .slice (some ⟨h3, 0, none⟩) V.l3.length V.l3.length, .slice (some ⟨h4, 0, none⟩) V.l4.length V.l4.length, .slice (some ⟨h5, 0, none⟩) V.l5.length V.l5.length, .slice (some ⟨h6, 0, none⟩) V.l6.length V.l6.length, .slice (some ⟨h7, 0, none⟩) V.l7.length V.l7.length, .bool V.sp, .bool V.kl] 28) := KX
  have K0H : Hid (Blk wf w.heap.size #[.slice a0 V.l0.length c0, .slice a1 V.l1.length c1, .slice a2 V.l2.length c2, .slice a3 V.l3.length c3, .slice a4 V.l4.length c4, .slice a5 V.l5.length c5, .slice a6 V.l6.length c6, .slice a7 V.l7.length c7, .bool V.sp, .bool V.kl] 24) := K0
  have u1 : (decide (clB V U = []) != decide (clB V U = [])) = false := by simp
  clear KX K0
  go_wp2_with fail
  go_region_held3 (fun w' => w'.cell? ⟨wd.heap.size, 0, none⟩ = some (.slice (some ⟨h0, 0, none⟩) V.l0.length V.l0.length) ∧ w'.cell? ⟨wd.heap.size, 1, none⟩ = some (.slice (some ⟨h1, 0, none⟩) V.l1.length V.l1.length) ∧ w'.cell? ⟨wd.heap.size, 2, none⟩ = some (.slice (some ⟨h2, 0, none⟩) V.l2.length V.l2.length) ∧ w'.cell? ⟨wd.heap.size, 3, none⟩ = some (.slice (some ⟨h3, 0, none⟩) V.l3.length V.l3.length) ∧ w'.cell? ⟨wd.heap.size, 4, none⟩ = some (.slice (some ⟨h4, 0, none⟩) V.l4.length V.l4.length) ∧ w'.cell? ⟨wd.heap.size, 5, none⟩ = some (.slice (some ⟨h5, 0, none⟩) V.l5.length V.l5.length) ∧ w'.cell? ⟨wd.heap.size, 6, none⟩ = some (.slice (some ⟨h6, 0, none⟩) V.l6.length V.l6.length) ∧ w'.cell? ⟨wd.heap.size, 7, none⟩ = some (.slice (some ⟨h7, 0, none⟩) V.l7.length V.l7.length) ∧ w'.cell? ⟨wd.heap.size, 8, none⟩ = some (.bool V.sp) ∧ w'.cell? ⟨wd.heap.size, 9, none⟩ = some (.bool V.kl) ∧ w'.cell? ⟨w.heap.size, 0, none⟩ = some (.slice a0 V.l0.length c0) ∧ w'.cell? ⟨w.heap.size, 1, none⟩ = some (.slice a1 V.l1.length c1) ∧ w'.cell? ⟨w.heap.size, 2, none⟩ = some (.slice a2 V.l2.length c2) ∧ w'.cell? ⟨w.heap.size, 3, none⟩ = some (.slice a3 V.l3.length c3) ∧ w'.cell? ⟨w.heap.size, 4, none⟩ = some (.slice a4 V.l4.length c4) ∧ w'.cell? ⟨w.heap.size, 5, none⟩ = some (.slice a5 V.l5.length c5) ∧ w'.cell? ⟨w.heap.size, 6, none⟩ = some (.slice a6 V.l6.length c6) ∧ w'.cell? ⟨w.heap.size, 7, none⟩ = some (.slice a7 V.l7.length c7) ∧ w'.cell? ⟨w.heap.size, 8, none⟩ = some (.bool V.sp) ∧ w'.cell? ⟨w.heap.size, 9, none⟩ = some (.bool V.kl)) (simp [x0, x1, x2, x3, x4, x5, x6, x7, x8, x9, z0, z1, z2, z3, z4, z5, z6, z7, z8, z9])
    (first
      | (go_at_call 9; refine (toEffect_made a0 a1 a2 a3 a4 a5 a6 a7 c0 c1 c2 c3 c4 c5 c6 c7 V 0 _ (HV.out.later (bl_drew LF.out)) KV.out).mono ?_; rintro e wg ⟨⟨q0, q1, q2, q3, q4, q5, q6, q7, rfl, hIg⟩, hbg⟩; have hwg : Below wf.heap.size wf wg := bl_trans (bl_drew (Below.refl _ _)) hbg; obtain ⟨x0, x1, x2, x3, x4, x5, x6, x7, x8, x9, xf⟩ := (KXH.out.later hwg).ten; obtain ⟨z0, z1, z2, z3, z4, z5, z6, z7, z8, z9, zf⟩ := (K0H.out.later hwg).ten)
      | (go_at_call 12; refine (eqEffect_self _ _ _ _ _ _ _ _ _ _ _ _ _ _ _ _ _ _ _ _ _ _ _ _ _ _ _ _ _ _ _ _ V _ _ wg (HX.out.later hwg) hIg KLV.out).mono ?_; rintro e wh ⟨rfl, hbh⟩; have hwh : Below wf.heap.size wf wh := bl_trans hwg hbh; obtain ⟨x0, x1, x2, x3, x4, x5, x6, x7, x8, x9, xf⟩ := (KXH.out.later hwh).ten; obtain ⟨z0, z1, z2, z3, z4, z5, z6, z7, z8, z9, zf⟩ := (K0H.out.later hwh).ten))
  have LH : Hid (Below w.heap.size w wh) := bl_trans LF.out hwh
  have KXH2 : Hid (Blk wh we.heap.size #[.slice (some ⟨k0, 0, none⟩) U.l0.length U.l0.length, .slice (some ⟨k1, 0, none⟩) U.l1.length U.l1.length, .slice (some ⟨k2, 0, none⟩) U.l2.length U.l2.length, .slice (some ⟨k3, 0, none⟩) U.l3.length U.l3.length, .slice (some ⟨k4, 0, none⟩) U.l4.length U.l4.length, .slice (some ⟨k5, 0, none⟩) U.l5.length U.l5.length, .slice (some ⟨k6, 0, none⟩) U.l6.length U.l6.length, .slice (some ⟨k7, 0, none⟩) U.l7.length U.l7.length, .bool U.sp, .bool U.kl] 28) := KY.out.later hwh
  have K0H2 : Hid (Blk wh (w.heap.size + 1) #[.slice b0 U.l0.length d0, .slice b1 U.l1.length d1, .slice b2 U.l2.length d2, .slice b3 U.l3.length d3, .slice b4 U.l4.length d4, .slice b5 U.l5.length d5, .slice b6 U.l6.length d6, .slice b7 U.l7.length d7, .bool U.sp, .bool U.kl] 24) := K1.out.later hwh
  have HY2 : Hid (InE wh _ (some ⟨k0, 0, none⟩) (some ⟨k1, 0, none⟩) (some ⟨k2, 0, none⟩) (some ⟨k3, 0, none⟩) (some ⟨k4, 0, none⟩) (some ⟨k5, 0, none⟩) (some ⟨k6, 0, none⟩) (some ⟨k7, 0, none⟩) U) := HY.out.later hwh
  clear LF hwg hbg hwh hbh hIg KXH K0H x0 x1 x2 x3 x4 x5 x6 x7 x8 x9 xf z0 z1 z2 z3 z4 z5 z6 z7 z8 z9 zf HX HY KY K1
  obtain ⟨x0, x1, x2, x3, x4, x5, x6, x7, x8, x9, xf⟩ := KXH2.out.ten
  obtain ⟨z0, z1, z2, z3, z4, z5, z6, z7, z8, z9, zf⟩ := K0H2.out.ten
  go_wp2_with fail
  go_region_held3 (fun w' => w'.cell? ⟨we.heap.size, 0, none⟩ = some (.slice (some ⟨k0, 0, none⟩) U.l0.length U.l0.length) ∧ w'.cell? ⟨we.heap.size, 1, none⟩ = some (.slice (some ⟨k1, 0, none⟩) U.l1.length U.l1.length) ∧ w'.cell? ⟨we.heap.size, 2, none⟩ = some (.slice (some ⟨k2, 0, none⟩) U.l2.length U.l2.length) ∧ w'.cell? ⟨we.heap.size, 3, none⟩ = some (.slice (some ⟨k3, 0, none⟩) U.l3.length U.l3.length) ∧ w'.cell? ⟨we.heap.size, 4, none⟩ = some (.slice (some ⟨k4, 0, none⟩) U.l4.length U.l4.length) ∧ w'.cell? ⟨we.heap.size, 5, none⟩ = some (.slice (some ⟨k5, 0, none⟩) U.l5.length U.l5.length) ∧ w'.cell? ⟨we.heap.size, 6, none⟩ = some (.slice (some ⟨k6, 0, none⟩) U.l6.length U.l6.length) ∧ w'.cell? ⟨we.heap.size, 7, none⟩ = some (.slice (some ⟨k7, 0, none⟩) U.l7.length U.l7.length) ∧ w'.cell? ⟨we.heap.size, 8, none⟩ = some (.bool U.sp) ∧ w'.cell? ⟨we.heap.size, 9, none⟩ = some (.bool U.kl) ∧ w'.cell? ⟨w.heap.size + 1, 0, none⟩ = some (.slice b0 U.l0.length d0) ∧ w'.cell? ⟨w.heap.size + 1, 1, none⟩ = some (.slice b1 U.l1.length d1) ∧ w'.cell? ⟨w.heap.size + 1, 2, none⟩ = some (.slice b2 U.l2.length d2) ∧ w'.cell? ⟨w.heap.size + 1, 3, none⟩ = some (.slice b3 U.l3.length d3) ∧ w'.cell? ⟨w.heap.size + 1, 4, none⟩ = some (.slice b4 U.l4.length d4) ∧ w'.cell? ⟨w.heap.size + 1, 5, none⟩ = some (.slice b5 U.l5.length d5) ∧ w'.cell? ⟨w.heap.size + 1, 6, none⟩ = some (.slice b6 U.l6.length d6) ∧ w'.cell? ⟨w.heap.size + 1, 7, none⟩ = some (.slice b7 U.l7.length d7) ∧ w'.cell? ⟨w.heap.size + 1, 8, none⟩ = some (.bool U.sp) ∧ w'.cell? ⟨w.heap.size + 1, 9, none⟩ = some (.bool U.kl)) (simp [x0, x1, x2, x3, x4, x5, x6, x7, x8, x9, z0, z1, z2, z3, z4, z5, z6, z7, z8, z9])
    (first
      | (go_at_call 9; refine (toEffect_made b0 b1 b2 b3 b4 b5 b6 b7 d0 d1 d2 d3 d4 d5 d6 d7 U 0 _ (HU.out.later (bl_drew LH.out)) KU.out).mono ?_; rintro e wg ⟨⟨q0, q1, q2, q3, q4, q5, q6, q7, rfl, hIg⟩, hbg⟩; have hwg : Below wh.heap.size wh wg := bl_trans (bl_drew (Below.refl _ _)) hbg; obtain ⟨x0, x1, x2, x3, x4, x5, x6, x7, x8, x9, xf⟩ := (KXH2.out.later hwg).ten; obtain ⟨z0, z1, z2, z3, z4, z5, z6, z7, z8, z9, zf⟩ := (K0H2.out.later hwg).ten)
      | (go_at_call 12; refine (eqEffect_self _ _ _ _ _ _ _ _ _ _ _ _ _ _ _ _ _ _ _ _ _ _ _ _ _ _ _ _ _ _ _ _ U _ _ wg (HY2.out.later hwg) hIg KLU.out).mono ?_; rintro e wi ⟨rfl, hbi⟩; have hwi : Below wh.heap.size wh wi := bl_trans hwg hbi; obtain ⟨x0, x1, x2, x3, x4, x5, x6, x7, x8, x9, xf⟩ := (KXH2.out.later hwi).ten; obtain ⟨z0, z1, z2, z3, z4, z5, z6, z7, z8, z9, zf⟩ := (K0H2.out.later hwi).ten))
  have LI := bl_trans LH.out hwi
  clear x0 x1 x2 x3 x4 x5 x6 x7 x8 x9 xf z0 z1 z2 z3 z4 z5 z6 z7 z8 z9 zf
  go_wp2_with fail
  go_ret
  exact ⟨rfl, LI⟩
end Go.Proofs.Ytgfchpbdoebmbaa
