import Derived.Test.YtgfchpbdoebmbaaC10
import Derived.Test.YtgfchpbdoebmbaaC11
import Derived.Test.YtgfchpbdoebmbaaBex
import Derived.Deep.RegionHeld3
namespace Go.Proofs.Ytgfchpbdoebmbaa
open Go.RowKit
set_option linter.unusedVariables false
set_option linter.unusedSimpArgs false

set_option maxRecDepth 100000 in
set_option maxHeartbeats 16000000 in
theorem exactStrictly_any (a0 a1 a2 a3 a4 a5 a6 a7 : Option Addr) (c0 c1 c2 c3 c4 c5 c6 c7 : Nat) (V : Ef) (b0 b1 b2 b3 b4 b5 b6 b7 : Option Addr) (d0 d1 d2 d3 d4 d5 d6 d7 : Nat) (U : Ef) (n : Int) (w : World) (hV : InE w 0 a0 a1 a2 a3 a4 a5 a6 a7 V) (mV : mEf V) (hU : InE w 0 b0 b1 b2 b3 b4 b5 b6 b7 U) (mU : mEf U) :
    Calls Try.prog 4 #[.agg #[.slice a0 V.l0.length c0, .slice a1 V.l1.length c1, .slice a2 V.l2.length c2, .slice a3 V.l3.length c3, .slice a4 V.l4.length c4, .slice a5 V.l5.length c5, .slice a6 V.l6.length c6, .slice a7 V.l7.length c7, .bool V.sp, .bool V.kl], .agg #[.slice b0 U.l0.length d0, .slice b1 U.l1.length d1, .slice b2 U.l2.length d2, .slice b3 U.l3.length d3, .slice b4 U.l4.length d4, .slice b5 U.l5.length d5, .slice b6 U.l6.length d6, .slice b7 U.l7.length d7, .bool U.sp, .bool U.kl], .int .i64 n] w fun e w' => e = .returned (.bool true) ∧ Below w.heap.size w w' := by
  obtain ⟨k0, k1, L0⟩ := blkTwoE w #[.slice a0 V.l0.length c0, .slice a1 V.l1.length c1, .slice a2 V.l2.length c2, .slice a3 V.l3.length c3, .slice a4 V.l4.length c4, .slice a5 V.l5.length c5, .slice a6 V.l6.length c6, .slice a7 V.l7.length c7, .bool V.sp, .bool V.kl] #[.slice b0 U.l0.length d0, .slice b1 U.l1.length d1, .slice b2 U.l2.length d2, .slice b3 U.l3.length d3, .slice b4 U.l4.length d4, .slice b5 U.l5.length d5, .slice b6 U.l6.length d6, .slice b7 U.l7.length d7, .bool U.sp, .bool U.kl] 24 24
  obtain ⟨x0, x1, x2, x3, x4, x5, x6, x7, x8, x9, xf⟩ := k0.ten
  have HV : Hid (InE w 0 a0 a1 a2 a3 a4 a5 a6 a7 V) := hV
  have HU : Hid (InE w 0 b0 b1 b2 b3 b4 b5 b6 b7 U) := hU
  clear hV hU
  go_enter Try.func4, Try.ntmps4
  go_wp2_with fail
  refine (szEffect_gen a0 a1 a2 a3 a4 a5 a6 a7 c0 c1 c2 c3 c4 c5 c6 c7 V 1048576 _ mV (by omega) (by omega)).mono ?_
  rintro e w1 ⟨⟨r, rfl, hr⟩, hb1⟩
  have L1 := bl_trans L0 hb1
  replace k0 := k0.later hb1
  replace k1 := k1.later hb1
  clear x0 x1 x2 x3 x4 x5 x6 x7 x8 x9 xf hb1 L0 mV
  rcases hr with rfl | ⟨r0, r1, kv⟩
  · go_wp2_with fail
    go_ret
    exact ⟨rfl, L1⟩
  have t1 : decide (r < 0) = false := by simp; omega
  have KV : Hid (kEf V) := kv
  clear kv
  obtain ⟨y0, y1, y2, y3, y4, y5, y6, y7, y8, y9, yf⟩ := k1.ten
  go_wp2_with fail
  refine (szEffect_gen b0 b1 b2 b3 b4 b5 b6 b7 d0 d1 d2 d3 d4 d5 d6 d7 U r _ mU r0 (by omega)).mono ?_
  rintro e w2 ⟨⟨r', rfl, hr⟩, hb2⟩
  have L2 := bl_trans L1 hb2
  replace k0 := k0.later hb2
  replace k1 := k1.later hb2
  clear y0 y1 y2 y3 y4 y5 y6 y7 y8 y9 yf hb2 L1 t1 mU
  rcases hr with rfl | ⟨r0', r1', ku⟩
  · go_wp2_with fail
    go_ret
    exact ⟨rfl, L2⟩
  have t1 : decide (r' < 0) = false := by simp; omega
  have KU : Hid (kEf U) := ku
  clear ku r0 r1 r0' r1'
  have KLV : Hid (V.l0.length ≤ 4398046511104 ∧ V.l1.length ≤ 4398046511104 ∧ V.l2.length ≤ 4398046511104 ∧ V.l3.length ≤ 4398046511104 ∧ V.l4.length ≤ 4398046511104 ∧ V.l5.length ≤ 4398046511104 ∧ V.l6.length ≤ 4398046511104 ∧ V.l7.length ≤ 4398046511104) := by obtain ⟨m0, m1, m2, m3, m4, m5, m6, m7⟩ := KV.out; show _ ∧ _; omega
  have KLU : Hid (U.l0.length ≤ 4398046511104 ∧ U.l1.length ≤ 4398046511104 ∧ U.l2.length ≤ 4398046511104 ∧ U.l3.length ≤ 4398046511104 ∧ U.l4.length ≤ 4398046511104 ∧ U.l5.length ≤ 4398046511104 ∧ U.l6.length ≤ 4398046511104 ∧ U.l7.length ≤ 4398046511104) := by obtain ⟨m0, m1, m2, m3, m4, m5, m6, m7⟩ := KU.out; show _ ∧ _; omega
  obtain ⟨x0, x1, x2, x3, x4, x5, x6, x7, x8, x9, xf⟩ := k0.ten
  obtain ⟨y0, y1, y2, y3, y4, y5, y6, y7, y8, y9, yf⟩ := k1.ten
  have K0 : Hid (Blk w2 w.heap.size #[.slice a0 V.l0.length c0, .slice a1 V.l1.length c1, .slice a2 V.l2.length c2, .slice a3 V.l3.length c3, .slice a4 V.l4.length c4, .slice a5 V.l5.length c5, .slice a6 V.l6.length c6, .slice a7 V.l7.length c7, .bool V.sp, .bool V.kl] 24) := k0
  have K1 : Hid (Blk w2 (w.heap.size + 1) #[.slice b0 U.l0.length d0, .slice b1 U.l1.length d1, .slice b2 U.l2.length d2, .slice b3 U.l3.length d3, .slice b4 U.l4.length d4, .slice b5 U.l5.length d5, .slice b6 U.l6.length d6, .slice b7 U.l7.length d7, .bool U.sp, .bool U.kl] 24) := k1
  clear k0 k1
  go_wp2_with fail
  go_region_held3 (fun w' => w'.cell? ⟨w.heap.size, 0, none⟩ = some (.slice a0 V.l0.length c0) ∧ w'.cell? ⟨w.heap.size, 1, none⟩ = some (.slice a1 V.l1.length c1) ∧ w'.cell? ⟨w.heap.size, 2, none⟩ = some (.slice a2 V.l2.length c2) ∧ w'.cell? ⟨w.heap.size, 3, none⟩ = some (.slice a3 V.l3.length c3) ∧ w'.cell? ⟨w.heap.size, 4, none⟩ = some (.slice a4 V.l4.length c4) ∧ w'.cell? ⟨w.heap.size, 5, none⟩ = some (.slice a5 V.l5.length c5) ∧ w'.cell? ⟨w.heap.size, 6, none⟩ = some (.slice a6 V.l6.length c6) ∧ w'.cell? ⟨w.heap.size, 7, none⟩ = some (.slice a7 V.l7.length c7) ∧ w'.cell? ⟨w.heap.size, 8, none⟩ = some (.bool V.sp) ∧ w'.cell? ⟨w.heap.size, 9, none⟩ = some (.bool V.kl) ∧ w'.cell? ⟨w.heap.size + 1, 0, none⟩ = some (.slice b0 U.l0.length d0) ∧ w'.cell? ⟨w.heap.size + 1, 1, none⟩ = some (.slice b1 U.l1.length d1) ∧ w'.cell? ⟨w.heap.size + 1, 2, none⟩ = some (.slice b2 U.l2.length d2) ∧ w'.cell? ⟨w.heap.size + 1, 3, none⟩ = some (.slice b3 U.l3.length d3) ∧ w'.cell? ⟨w.heap.size + 1, 4, none⟩ = some (.slice b4 U.l4.length d4) ∧ w'.cell? ⟨w.heap.size + 1, 5, none⟩ = some (.slice b5 U.l5.length d5) ∧ w'.cell? ⟨w.heap.size + 1, 6, none⟩ = some (.slice b6 U.l6.length d6) ∧ w'.cell? ⟨w.heap.size + 1, 7, none⟩ = some (.slice b7 U.l7.length d7) ∧ w'.cell? ⟨w.heap.size + 1, 8, none⟩ = some (.bool U.sp) ∧ w'.cell? ⟨w.heap.size + 1, 9, none⟩ = some (.bool U.kl)) (simp [x0, x1, x2, x3, x4, x5, x6, x7, x8, x9, y0, y1, y2, y3, y4, y5, y6, y7, y8, y9])
    (first
      | (go_at_call 9; first
          | (refine (toEffect_made b0 b1 b2 b3 b4 b5 b6 b7 d0 d1 d2 d3 d4 d5 d6 d7 U 0 _ (HU.out.later (bl_trans L2 hwa)) KU.out).mono ?_; rintro e wb ⟨⟨k0, k1, k2, k3, k4, k5, k6, k7, rfl, hIb⟩, hbb⟩; have hwb : Below w2.heap.size w2 wb := bl_trans hwa hbb; obtain ⟨x0, x1, x2, x3, x4, x5, x6, x7, x8, x9, xf⟩ := (K0.out.later hwb).ten; obtain ⟨y0, y1, y2, y3, y4, y5, y6, y7, y8, y9, yf⟩ := (K1.out.later hwb).ten)
          | (refine (toEffect_made a0 a1 a2 a3 a4 a5 a6 a7 c0 c1 c2 c3 c4 c5 c6 c7 V 0 _ (HV.out.later (bl_drew L2)) KV.out).mono ?_; rintro e wa ⟨⟨h0, h1, h2, h3, h4, h5, h6, h7, rfl, hIa⟩, hba⟩; have hwa : Below w2.heap.size w2 wa := bl_trans (bl_drew (Below.refl _ _)) hba; obtain ⟨x0, x1, x2, x3, x4, x5, x6, x7, x8, x9, xf⟩ := (K0.out.later hwa).ten; obtain ⟨y0, y1, y2, y3, y4, y5, y6, y7, y8, y9, yf⟩ := (K1.out.later hwa).ten))
      | (go_at_call 16; refine (specStrictly_any _ _ _ _ _ _ _ _ _ _ _ _ _ _ _ _ V _ _ _ _ _ _ _ _ _ _ _ _ _ _ _ _ U n _ _ wb (hIa.later hbb) hIb KV.out KU.out ⟨Nat.le_refl _, Nat.le_refl _, Nat.le_refl _, Nat.le_refl _, Nat.le_refl _, Nat.le_refl _, Nat.le_refl _, Nat.le_refl _⟩ ⟨Nat.le_refl _, Nat.le_refl _, Nat.le_refl _, Nat.le_refl _, Nat.le_refl _, Nat.le_refl _, Nat.le_refl _, Nat.le_refl _⟩).mono ?_; rintro e wc ⟨⟨sw, cw, rfl, kw⟩, hbc⟩; have hwc : Below w2.heap.size w2 wc := bl_trans hwb hbc; obtain ⟨x0, x1, x2, x3, x4, x5, x6, x7, x8, x9, xf⟩ := (K0.out.later hwc).ten; obtain ⟨y0, y1, y2, y3, y4, y5, y6, y7, y8, y9, yf⟩ := (K1.out.later hwc).ten))
  have lG := Hid.mk2 (stB_len V U n KV.out KU.out)
  obtain ⟨G, hG⟩ : ∃ G, Hid (stB V U n = G) := ⟨_, rfl⟩
  rw [hG.out] at kw lG ⊢
  have lW : G.length ≤ 1073741824 := Nat.le_trans lG.out (by omega)
  have KW := Hid.mk2 (kw.mono (Nat.zero_le _))
  have bW : Hid (∀ g, (Value.slice sw G.length cw).ownBlock = some g → g < wc.heap.size) := fun g hg => (kw.lt g hg).2
  have L3 : Hid (Below w.heap.size w wc) := bl_trans L2 hwc
  replace K0 := K0.out.later hwc
  replace K1 := K1.out.later hwc
  have nK : Hid (w.heap.size + 1 < wc.heap.size) := K1.lt
  clear hIa hIb hba hbb hbc hwa hwb hwc L2 kw lG
  go_wp2_with fail
  refine (toEffect_made a0 a1 a2 a3 a4 a5 a6 a7 c0 c1 c2 c3 c4 c5 c6 c7 V 0 _ (HV.out.later L3.out) KV.out).mono ?_
  rintro e wd ⟨⟨h0, h1, h2, h3, h4, h5, h6, h7, rfl, hx⟩, hbd⟩
  have hcd : Hid (wc.heap.size ≤ wd.heap.size) := hbd.size
  have KX := Blk.new wd #[.slice (some ⟨h0, 0, none⟩) V.l0.length V.l0.length, .slice (some ⟨h1, 0, none⟩) V.l1.length V.l1.length, .slice (some ⟨h2, 0, none⟩) V.l2.length V.l2.length, .slice (some ⟨h3, 0, none⟩) V.l3.length V.l3.length, .slice (some ⟨h4, 0, none⟩) V.l4.length V.l4.length, .slice (some ⟨h5, 0, none⟩) V.l5.length V.l5.length, .slice (some ⟨h6, 0, none⟩) V.l6.length V.l6.length, .slice (some ⟨h7, 0, none⟩) V.l7.length V.l7.length, .bool V.sp, .bool V.kl] 28
  have LYY : Below wd.heap.size wd (wd.alloc (.cells #[.slice (some ⟨h0, 0, none⟩) V.l0.length V.l0.length, .slice (some ⟨h1, 0, none⟩) V.l1.length V.l1.length, .slice (some ⟨h2, 0, none⟩) V.l2.length V.l2.length, .slice (some ⟨h3, 0, none⟩) V.l3.length V.l3.length, .slice (some ⟨h4, 0, none⟩) V.l4.length V.l4.length, .slice (some ⟨h5, 0, none⟩) V.l5.length V.l5.length, .slice (some ⟨h6, 0, none⟩) V.l6.length V.l6.length, .slice (some ⟨h7, 0, none⟩) V.l7.length V.l7.length, .bool V.sp, .bool V.kl] 28)) := bl_alloc (Below.refl _ _) _
  replace K0 := (K0.later hbd).later LYY
  replace K1 := (K1.later hbd).later LYY
  replace hx := hx.later LYY
  have LD : Below wc.heap.size wc (wd.alloc (.cells #[.slice (some ⟨h0, 0, none⟩) V.l0.length V.l0.length, .slice (some ⟨h1, 0, none⟩) V.l1.length V.l1.length, .slice (some ⟨h2, 0, none⟩) V.l2.length V.l2.length, .slice (some ⟨h3, 0, none⟩) V.l3.length V.l3.length, .slice (some ⟨h4, 0, none⟩) V.l4.length V.l4.length, .slice (some ⟨h5, 0, none⟩) V.l5.length V.l5.length, .slice (some ⟨h6, 0, none⟩) V.l6.length V.l6.length, .slice (some ⟨h7, 0, none⟩) V.l7.length V.l7.length, .bool V.sp, .bool V.kl] 28)) := bl_trans hbd LYY
  clear x0 x1 x2 x3 x4 x5 x6 x7 x8 x9 xf y0 y1 y2 y3 y4 y5 y6 y7 y8 y9 yf hbd LYY
  obtain ⟨y0, y1, y2, y3, y4, y5, y6, y7, y8, y9, yf⟩ := K1.ten
  go_wp2_with fail
  clear y0 y1 y2 y3 y4 y5 y6 y7 y8 y9 yf
  generalize hX : wd.alloc (.cells #[.slice (some ⟨h0, 0, none⟩) V.l0.length V.l0.length, .slice (some ⟨h1, 0, none⟩) V.l1.length V.l1.length, .slice (some ⟨h2, 0, none⟩) V.l2.length V.l2.length, .slice (some ⟨h3, 0, none⟩) V.l3.length V.l3.length, .slice (some ⟨h4, 0, none⟩) V.l4.length V.l4.length, .slice (some ⟨h5, 0, none⟩) V.l5.length V.l5.length, .slice (some ⟨h6, 0, none⟩) V.l6.length V.l6.length, .slice (some ⟨h7, 0, none⟩) V.l7.length V.l7.length, .bool V.sp, .bool V.kl] 28) = Y at KX K0 K1 LD hx ⊢
  clear hX
  refine (toEffect_made b0 b1 b2 b3 b4 b5 b6 b7 d0 d1 d2 d3 d4 d5 d6 d7 U 0 _ (HU.out.later (bl_trans L3.out LD)) KU.out).mono ?_
  rintro e we ⟨⟨k0, k1, k2, k3, k4, k5, k6, k7, rfl, hy⟩, hbe⟩
  have hde : Hid (wc.heap.size ≤ we.heap.size) := by have := LD.size; have := hbe.size; show _ ≤ _; omega
  replace hy := hy.drop LD.size
  have KY := Blk.new we #[.slice (some ⟨k0, 0, none⟩) U.l0.length U.l0.length, .slice (some ⟨k1, 0, none⟩) U.l1.length U.l1.length, .slice (some ⟨k2, 0, none⟩) U.l2.length U.l2.length, .slice (some ⟨k3, 0, none⟩) U.l3.length U.l3.length, .slice (some ⟨k4, 0, none⟩) U.l4.length U.l4.length, .slice (some ⟨k5, 0, none⟩) U.l5.length U.l5.length, .slice (some ⟨k6, 0, none⟩) U.l6.length U.l6.length, .slice (some ⟨k7, 0, none⟩) U.l7.length U.l7.length, .bool U.sp, .bool U.kl] 28
  have LZ : Below we.heap.size we (we.alloc (.cells #[.slice (some ⟨k0, 0, none⟩) U.l0.length U.l0.length, .slice (some ⟨k1, 0, none⟩) U.l1.length U.l1.length, .slice (some ⟨k2, 0, none⟩) U.l2.length U.l2.length, .slice (some ⟨k3, 0, none⟩) U.l3.length U.l3.length, .slice (some ⟨k4, 0, none⟩) U.l4.length U.l4.length, .slice (some ⟨k5, 0, none⟩) U.l5.length U.l5.length, .slice (some ⟨k6, 0, none⟩) U.l6.length U.l6.length, .slice (some ⟨k7, 0, none⟩) U.l7.length U.l7.length, .bool U.sp, .bool U.kl] 28)) := bl_alloc (Below.refl _ _) _
  replace KX := (KX.later hbe).later LZ
  replace K0 := (K0.later hbe).later LZ
  replace K1 := (K1.later hbe).later LZ
  replace hx := (hx.later hbe).later LZ
  replace hy := hy.later LZ
  have LE := bl_trans (bl_trans LD hbe) LZ
  clear LD hbe LZ
  obtain ⟨x0, x1, x2, x3, x4, x5, x6, x7, x8, x9, xf⟩ := KX.ten
  obtain ⟨y0, y1, y2, y3, y4, y5, y6, y7, y8, y9, yf⟩ := KY.ten
  go_wp2_with fail
  generalize hZ : we.alloc (.cells #[.slice (some ⟨k0, 0, none⟩) U.l0.length U.l0.length, .slice (some ⟨k1, 0, none⟩) U.l1.length U.l1.length, .slice (some ⟨k2, 0, none⟩) U.l2.length U.l2.length, .slice (some ⟨k3, 0, none⟩) U.l3.length U.l3.length, .slice (some ⟨k4, 0, none⟩) U.l4.length U.l4.length, .slice (some ⟨k5, 0, none⟩) U.l5.length U.l5.length, .slice (some ⟨k6, 0, none⟩) U.l6.length U.l6.length, .slice (some ⟨k7, 0, none⟩) U.l7.length U.l7.length, .bool U.sp, .bool U.kl] 28) = Z at KX KY K0 K1 LE hx hy x0 x1 x2 x3 x4 x5 x6 x7 x8 x9 xf y0 y1 y2 y3 y4 y5 y6 y7 y8 y9 yf ⊢
  clear hZ
  have KXZ := Hid.mk2 KX
  have KYZ := Hid.mk2 KY
  have HXZ := Hid.mk2 hx
  have HYZ := Hid.mk2 hy
  have LCZ := Hid.mk2 LE
  refine (implStrictly_any _ _ _ _ _ _ _ _ _ _ _ _ _ _ _ _ V _ _ _ _ _ _ _ _ _ _ _ _ _ _ _ _ U n _ _ Z hx hy KV.out KU.out).mono ?_
  rintro e wf ⟨⟨sg, cg, rfl, kg⟩, hbf⟩
  rw [hG.out] at kg ⊢
  have hZf : Hid (Z.heap.size ≤ wf.heap.size) := hbf.size
  have GF := Hid.mk2 kg
  have WF := Hid.mk2 ((KW.out.later LE).later hbf)
  have K0 := Hid.mk2 (K0.later hbf)
  have K1 := Hid.mk2 (K1.later hbf)
  have LZf := Hid.mk2 hbf
  clear hbf LE hx hy KX KY kg x0 x1 x2 x3 x4 x5 x6 x7 x8 x9 xf y0 y1 y2 y3 y4 y5 y6 y7 y8 y9 yf
  go_wp2_with fail
  refine (eqClashS_any _ _ G wf GF.out.list WF.out.list lW).mono ?_
  rintro e xa ⟨rfl, hba⟩
  have LZa : Hid (Below Z.heap.size Z xa) := bl_trans LZf.out hba
  have GA := Hid.mk2 (GF.out.later hba)
  have K0a : Hid (Blk xa w.heap.size #[.slice a0 V.l0.length c0, .slice a1 V.l1.length c1, .slice a2 V.l2.length c2, .slice a3 V.l3.length c3, .slice a4 V.l4.length c4, .slice a5 V.l5.length c5, .slice a6 V.l6.length c6, .slice a7 V.l7.length c7, .bool V.sp, .bool V.kl] 24) := K0.out.later hba
  have K1a : Hid (Blk xa (w.heap.size + 1) #[.slice b0 U.l0.length d0, .slice b1 U.l1.length d1, .slice b2 U.l2.length d2, .slice b3 U.l3.length d3, .slice b4 U.l4.length d4, .slice b5 U.l5.length d5, .slice b6 U.l6.length d6, .slice b7 U.l7.length d7, .bool U.sp, .bool U.kl] 24) := K1.out.later hba
  have KXa : Hid (Blk xa wd.heap.size #[.slice (some ⟨h0, 0, none⟩) V.l0.length V.l0.length, .slice (some ⟨h1, 0, none⟩) V.l1.length V.l1.length, .slice (some ⟨h2, 0, none⟩) V.l2.length V.l2.length, .slice (some ⟨h3, 0, none⟩) V.l3.length V.l3.length, .slice (some ⟨h4, 0, none⟩) V.l4.length V.l4.length, .slice (some ⟨h5, 0, none⟩) V.l5.length V.l5.length, .slice (some ⟨h6, 0, none⟩) V.l6.length V.l6.length, .slice (some ⟨h7, 0, none⟩) V.l7.length V.l7.length, .bool V.sp, .bool V.kl] 28) := KXZ.out.later LZa.out
  have LWa : Hid (Below w.heap.size w xa) := bl_trans L3.out (bl_trans LCZ.out LZa.out)
  have HXa : Hid (InE xa _ (some ⟨h0, 0, none⟩) (some ⟨h1, 0, none⟩) (some ⟨h2, 0, none⟩) (some ⟨h3, 0, none⟩) (some ⟨h4, 0, none⟩) (some ⟨h5, 0, none⟩) (some ⟨h6, 0, none⟩) (some ⟨h7, 0, none⟩) V) := HXZ.out.later LZa.out
  clear hba GF WF K0 K1 LZf
  obtain ⟨x0, x1, x2, x3, x4, x5, x6, x7, x8, x9, xf⟩ := KXa.out.ten
  obtain ⟨z0, z1, z2, z3, z4, z5, z6, z7, z8, z9, zf⟩ := K0a.out.ten
  go_wp2_with fail
  go_region_held3 (fun w' => w'.cell? ⟨wd.heap.size, 0, none⟩ = some (.slice (some ⟨h0, 0, none⟩) V.l0.length V.l0.length) ∧ w'.cell? ⟨wd.heap.size, 1, none⟩ = some (.slice (some ⟨h1, 0, none⟩) V.l1.length V.l1.length) ∧ w'.cell? ⟨wd.heap.size, 2, none⟩ = some (.slice (some ⟨h2, 0, none⟩) V.l2.length V.l2.length) ∧ w'.cell? ⟨wd.heap.size, 3, none⟩ = some (.slice (some ⟨h3, 0, none⟩) V.l3.length V.l3.length) ∧ w'.cell? ⟨wd.heap.size, 4, none⟩ = some (.slice (some ⟨h4, 0, none⟩) V.l4.length V.l4.length) ∧ w'.cell? ⟨wd.heap.size, 5, none⟩ = some (.slice (some ⟨h5, 0, none⟩) V.l5.length V.l5.length) ∧ w'.cell? ⟨wd.heap.size, 6, none⟩ = some (.slice (some ⟨h6, 0, none⟩) V.l6.length V.l6.length) ∧ w'.cell? ⟨wd.heap.size, 7, none⟩ = some (.slice (some ⟨h7, 0, none⟩) V.l7.length V.l7.length) ∧ w'.cell? ⟨wd.heap.size, 8, none⟩ = some (.bool V.sp) ∧ w'.cell? ⟨wd.heap.size, 9, none⟩ = some (.bool V.kl) ∧ w'.cell? ⟨w.heap.size, 0, none⟩ = some (.slice a0 V.l0.length c0) ∧ w'.cell? ⟨w.heap.size, 1, none⟩ = some (.slice a1 V.l1.length c1) ∧ w'.cell? ⟨w.heap.size, 2, none⟩ = some (.slice a2 V.l2.length c2) ∧ w'.cell? ⟨w.heap.size, 3, none⟩ = some (.slice a3 V.l3.length c3) ∧ w'.cell? ⟨w.heap.size, 4, none⟩ = some (.slice a4 V.l4.length c4) ∧ w'.cell? ⟨w.heap.size, 5, none⟩ = some (.slice a5 V.l5.length c5) ∧ w'.cell? ⟨w.heap.size, 6, none⟩ = some (.slice a6 V.l6.length c6) ∧ w'.cell? ⟨w.heap.size, 7, none⟩ = some (.slice a7 V.l7.length c7) ∧ w'.cell? ⟨w.heap.size, 8, none⟩ = some (.bool V.sp) ∧ w'.cell? ⟨w.heap.size, 9, none⟩ = some (.bool V.kl)) (simp [x0, x1, x2, x3, x4, x5, x6, x7, x8, x9, z0, z1, z2, z3, z4, z5, z6, z7, z8, z9])
    (first
      | (go_at_call 9; refine (toEffect_made a0 a1 a2 a3 a4 a5 a6 a7 c0 c1 c2 c3 c4 c5 c6 c7 V 0 _ (HV.out.later (bl_drew LWa.out)) KV.out).mono ?_; rintro e wg ⟨⟨q0, q1, q2, q3, q4, q5, q6, q7, rfl, hIg⟩, hbg⟩; have hwg : Below xa.heap.size xa wg := bl_trans (bl_drew (Below.refl _ _)) hbg; obtain ⟨x0, x1, x2, x3, x4, x5, x6, x7, x8, x9, xf⟩ := (KXa.out.later hwg).ten; obtain ⟨z0, z1, z2, z3, z4, z5, z6, z7, z8, z9, zf⟩ := (K0a.out.later hwg).ten)
      | (go_at_call 12; refine (eqEffect_self _ _ _ _ _ _ _ _ _ _ _ _ _ _ _ _ _ _ _ _ _ _ _ _ _ _ _ _ _ _ _ _ V _ _ wg (HXa.out.later hwg) hIg KLV.out).mono ?_; rintro e wh ⟨rfl, hbh⟩; have hwh : Below xa.heap.size xa wh := bl_trans hwg hbh; obtain ⟨x0, x1, x2, x3, x4, x5, x6, x7, x8, x9, xf⟩ := (KXa.out.later hwh).ten; obtain ⟨z0, z1, z2, z3, z4, z5, z6, z7, z8, z9, zf⟩ := (K0a.out.later hwh).ten))
  have LZh : Hid (Below Z.heap.size Z wh) := bl_trans LZa.out hwh
  have GH := Hid.mk2 (GA.out.later hwh)
  have K0h : Hid (Blk wh w.heap.size #[.slice a0 V.l0.length c0, .slice a1 V.l1.length c1, .slice a2 V.l2.length c2, .slice a3 V.l3.length c3, .slice a4 V.l4.length c4, .slice a5 V.l5.length c5, .slice a6 V.l6.length c6, .slice a7 V.l7.length c7, .bool V.sp, .bool V.kl] 24) := K0a.out.later hwh
  have K1h : Hid (Blk wh (w.heap.size + 1) #[.slice b0 U.l0.length d0, .slice b1 U.l1.length d1, .slice b2 U.l2.length d2, .slice b3 U.l3.length d3, .slice b4 U.l4.length d4, .slice b5 U.l5.length d5, .slice b6 U.l6.length d6, .slice b7 U.l7.length d7, .bool U.sp, .bool U.kl] 24) := K1a.out.later hwh
  have LWh : Hid (Below w.heap.size w wh) := bl_trans LWa.out hwh
  have KYh : Hid (Blk wh we.heap.size #[.slice (some ⟨k0, 0, none⟩) U.l0.length U.l0.length, .slice (some ⟨k1, 0, none⟩) U.l1.length U.l1.length, .slice (some ⟨k2, 0, none⟩) U.l2.length U.l2.length, .slice (some ⟨k3, 0, none⟩) U.l3.length U.l3.length, .slice (some ⟨k4, 0, none⟩) U.l4.length U.l4.length, .slice (some ⟨k5, 0, none⟩) U.l5.length U.l5.length, .slice (some ⟨k6, 0, none⟩) U.l6.length U.l6.length, .slice (some ⟨k7, 0, none⟩) U.l7.length U.l7.length, .bool U.sp, .bool U.kl] 28) := KYZ.out.later LZh.out
  have HYh : Hid (InE wh _ (some ⟨k0, 0, none⟩) (some ⟨k1, 0, none⟩) (some ⟨k2, 0, none⟩) (some ⟨k3, 0, none⟩) (some ⟨k4, 0, none⟩) (some ⟨k5, 0, none⟩) (some ⟨k6, 0, none⟩) (some ⟨k7, 0, none⟩) U) := HYZ.out.later LZh.out
  clear hwg hbg hwh hbh hIg x0 x1 x2 x3 x4 x5 x6 x7 x8 x9 xf z0 z1 z2 z3 z4 z5 z6 z7 z8 z9 zf GA K0a K1a LWa KXa HXa LZa
  obtain ⟨x0, x1, x2, x3, x4, x5, x6, x7, x8, x9, xf⟩ := KYh.out.ten
  obtain ⟨z0, z1, z2, z3, z4, z5, z6, z7, z8, z9, zf⟩ := K1h.out.ten
  go_wp2_with fail
  go_region_held3 (fun w' => w'.cell? ⟨we.heap.size, 0, none⟩ = some (.slice (some ⟨k0, 0, none⟩) U.l0.length U.l0.length) ∧ w'.cell? ⟨we.heap.size, 1, none⟩ = some (.slice (some ⟨k1, 0, none⟩) U.l1.length U.l1.length) ∧ w'.cell? ⟨we.heap.size, 2, none⟩ = some (.slice (some ⟨k2, 0, none⟩) U.l2.length U.l2.length) ∧ w'.cell? ⟨we.heap.size, 3, none⟩ = some (.slice (some ⟨k3, 0, none⟩) U.l3.length U.l3.length) ∧ w'.cell? ⟨we.heap.size, 4, none⟩ = some (.slice (some ⟨k4, 0, none⟩) U.l4.length U.l4.length) ∧ w'.cell? ⟨we.heap.size, 5, none⟩ = some (.slice (some ⟨k5, 0, none⟩) U.l5.length U.l5.length) ∧ w'.cell? ⟨we.heap.size, 6, none⟩ = some (.slice (some ⟨k6, 0, none⟩) U.l6.length U.l6.length) ∧ w'.cell? ⟨we.heap.size, 7, none⟩ = some (.slice (some ⟨k7, 0, none⟩) U.l7.length U.l7.length) ∧ w'.cell? ⟨we.heap.size, 8, none⟩ = some (.bool U.sp) ∧ w'.cell? ⟨we.heap.size, 9, none⟩ = some (.bool U.kl) ∧ w'.cell? ⟨w.heap.size + 1, 0, none⟩ = some (.slice b0 U.l0.length d0) ∧ w'.cell? ⟨w.heap.size + 1, 1, none⟩ = some (.slice b1 U.l1.length d1) ∧ w'.cell? ⟨w.heap.size + 1, 2, none⟩ = some (.slice b2 U.l2.length d2) ∧ w'.cell? ⟨w.heap.size + 1, 3, none⟩ = some (.slice b3 U.l3.length d3) ∧ w'.cell? ⟨w.heap.size + 1, 4, none⟩ = some (.slice b4 U.l4.length d4) ∧ w'.cell? ⟨w.heap.size + 1, 5, none⟩ = some (.slice b5 U.l5.length d5) ∧ w'.cell? ⟨w.heap.size + 1, 6, none⟩ = some (.slice b6 U.l6.length d6) ∧ w'.cell? ⟨w.heap.size + 1, 7, none⟩ = some (.slice b7 U.l7.length d7) ∧ w'.cell? ⟨w.heap.size + 1, 8, none⟩ = some (.bool U.sp) ∧ w'.cell? ⟨w.heap.size + 1, 9, none⟩ = some (.bool U.kl)) (simp [x0, x1, x2, x3, x4, x5, x6, x7, x8, x9, z0, z1, z2, z3, z4, z5, z6, z7, z8, z9])
    (first
      | (go_at_call 9; refine (toEffect_made b0 b1 b2 b3 b4 b5 b6 b7 d0 d1 d2 d3 d4 d5 d6 d7 U 0 _ (HU.out.later (bl_drew LWh.out)) KU.out).mono ?_; rintro e wg ⟨⟨q0, q1, q2, q3, q4, q5, q6, q7, rfl, hIg⟩, hbg⟩; have hwg : Below wh.heap.size wh wg := bl_trans (bl_drew (Below.refl _ _)) hbg; obtain ⟨x0, x1, x2, x3, x4, x5, x6, x7, x8, x9, xf⟩ := (KYh.out.later hwg).ten; obtain ⟨z0, z1, z2, z3, z4, z5, z6, z7, z8, z9, zf⟩ := (K1h.out.later hwg).ten)
      | (go_at_call 12; refine (eqEffect_self _ _ _ _ _ _ _ _ _ _ _ _ _ _ _ _ _ _ _ _ _ _ _ _ _ _ _ _ _ _ _ _ U _ _ wg (HYh.out.later hwg) hIg KLU.out).mono ?_; rintro e wi ⟨rfl, hbi⟩; have hwi : Below wh.heap.size wh wi := bl_trans hwg hbi; obtain ⟨x0, x1, x2, x3, x4, x5, x6, x7, x8, x9, xf⟩ := (KYh.out.later hwi).ten; obtain ⟨z0, z1, z2, z3, z4, z5, z6, z7, z8, z9, zf⟩ := (K1h.out.later hwi).ten))
  have LZi : Hid (Below Z.heap.size Z wi) := bl_trans LZh.out hwi
  have GI := Hid.mk2 (GH.out.later hwi)
  have K0i : Hid (Blk wi w.heap.size #[.slice a0 V.l0.length c0, .slice a1 V.l1.length c1, .slice a2 V.l2.length c2, .slice a3 V.l3.length c3, .slice a4 V.l4.length c4, .slice a5 V.l5.length c5, .slice a6 V.l6.length c6, .slice a7 V.l7.length c7, .bool V.sp, .bool V.kl] 24) := K0h.out.later hwi
  have K1i : Hid (Blk wi (w.heap.size + 1) #[.slice b0 U.l0.length d0, .slice b1 U.l1.length d1, .slice b2 U.l2.length d2, .slice b3 U.l3.length d3, .slice b4 U.l4.length d4, .slice b5 U.l5.length d5, .slice b6 U.l6.length d6, .slice b7 U.l7.length d7, .bool U.sp, .bool U.kl] 24) := K1h.out.later hwi
  have KXi : Hid (Blk wi wd.heap.size #[.slice (some ⟨h0, 0, none⟩) V.l0.length V.l0.length, .slice (some ⟨h1, 0, none⟩) V.l1.length V.l1.length, .slice (some ⟨h2, 0, none⟩) V.l2.length V.l2.length, .slice (some ⟨h3, 0, none⟩) V.l3.length V.l3.length, .slice (some ⟨h4, 0, none⟩) V.l4.length V.l4.length, .slice (some ⟨h5, 0, none⟩) V.l5.length V.l5.length, .slice (some ⟨h6, 0, none⟩) V.l6.length V.l6.length, .slice (some ⟨h7, 0, none⟩) V.l7.length V.l7.length, .bool V.sp, .bool V.kl] 28) := KXZ.out.later LZi.out
  clear hwg hbg hwi hbi hIg x0 x1 x2 x3 x4 x5 x6 x7 x8 x9 xf z0 z1 z2 z3 z4 z5 z6 z7 z8 z9 zf GH K0h K1h LWh KYh HYh LZh
  have hp : 0 < wc.heap.size := by have := nK.out; omega
  have hlo : wc.heap.size ≤ wi.heap.size := by have := LCZ.out.size; have := LZi.out.size; omega
  have hlz : Hid (wc.heap.size ≤ Z.heap.size) := LCZ.out.size
  obtain ⟨x0, x1, x2, x3, x4, x5, x6, x7, x8, x9, xf⟩ := KXi.out.ten
  go_wp2_with fail
  refine (markEffect_w wc.heap.size Z wi (some ⟨h0, 0, none⟩) (some ⟨h1, 0, none⟩) (some ⟨h2, 0, none⟩) (some ⟨h3, 0, none⟩) (some ⟨h4, 0, none⟩) (some ⟨h5, 0, none⟩) (some ⟨h6, 0, none⟩) (some ⟨h7, 0, none⟩) V.l0.length V.l1.length V.l2.length V.l3.length V.l4.length V.l5.length V.l6.length V.l7.length V 1 _ HXZ.out hp hlo (Mr.start LZi.out _) KV.out (by omega) (by omega)).mono ?_
  rintro e wj ⟨⟨q1, rfl, q10, q11⟩, hM1⟩
  have M1 := Hid.mk2 hM1
  have hy0 := KYZ.out.ten
  have hyl : we.heap.size < Z.heap.size := KYZ.out.lt
  have hyw := hde.out
  obtain ⟨y0, y1, y2, y3, y4, y5, y6, y7, y8, y9, yf⟩ := hy0
  have z0 := M1.out.sl hyw hyl y0
  have z1 := M1.out.sl hyw hyl y1
  have z2 := M1.out.sl hyw hyl y2
  have z3 := M1.out.sl hyw hyl y3
  have z4 := M1.out.sl hyw hyl y4
  have z5 := M1.out.sl hyw hyl y5
  have z6 := M1.out.sl hyw hyl y6
  have z7 := M1.out.sl hyw hyl y7
  have z8 := M1.out.bo hyw hyl y8
  have z9 := M1.out.bo hyw hyl y9
  clear hM1 x0 x1 x2 x3 x4 x5 x6 x7 x8 x9 xf y0 y1 y2 y3 y4 y5 y6 y7 y8 y9 yf KXi
  go_wp2_with fail
  refine (markEffect_w wc.heap.size Z wi (some ⟨k0, 0, none⟩) (some ⟨k1, 0, none⟩) (some ⟨k2, 0, none⟩) (some ⟨k3, 0, none⟩) (some ⟨k4, 0, none⟩) (some ⟨k5, 0, none⟩) (some ⟨k6, 0, none⟩) (some ⟨k7, 0, none⟩) U.l0.length U.l1.length U.l2.length U.l3.length U.l4.length U.l5.length U.l6.length U.l7.length U q1 _ HYZ.out hp hlo M1.out KU.out q10 (by omega)).mono ?_
  rintro e wk ⟨⟨q2, rfl, q20, q21⟩, hM2⟩
  have GK : Hid (KRow wk Z.heap.size (.slice sg G.length cg) G) := GI.out.same (fun g hg => hM2.out g (GI.out.lt g hg).1 (GI.out.lt g hg).2)
  have BEk : Hid (Below wc.heap.size wc wk) := (bl_trans LCZ.out LZi.out).trans hM2.be
  have WK : Hid (KRow wk 0 (.slice sw G.length cw) G) := KW.out.same (fun g hg => BEk.out.block g (bW.out g hg))
  have K0k : Hid (Blk wk w.heap.size #[.slice a0 V.l0.length c0, .slice a1 V.l1.length c1, .slice a2 V.l2.length c2, .slice a3 V.l3.length c3, .slice a4 V.l4.length c4, .slice a5 V.l5.length c5, .slice a6 V.l6.length c6, .slice a7 V.l7.length c7, .bool V.sp, .bool V.kl] 24) := K0i.out.same' (hM2.be.block _ (by have := nK.out; omega))
  have K1k : Hid (Blk wk (w.heap.size + 1) #[.slice b0 U.l0.length d0, .slice b1 U.l1.length d1, .slice b2 U.l2.length d2, .slice b3 U.l3.length d3, .slice b4 U.l4.length d4, .slice b5 U.l5.length d5, .slice b6 U.l6.length d6, .slice b7 U.l7.length d7, .bool U.sp, .bool U.kl] 24) := K1i.out.same' (hM2.be.block _ nK.out)
  have hZk : Hid (Z.heap.size ≤ wk.heap.size) := hM2.s1
  have dd1 : decide (q2 < 0) = false := by simp; omega
  clear hM2 M1 z0 z1 z2 z3 z4 z5 z6 z7 z8 z9 GI K0i K1i LZi hyl hyw
  go_wp2_with fail
  refine (eqClashS_any _ _ G wk GK.out.list WK.out.list lW).mono ?_
  rintro e wl ⟨rfl, hbl⟩
  have GL := Hid.mk2 (GK.out.later hbl)
  have WL := Hid.mk2 (WK.out.later hbl)
  have BEl : Hid (Below wc.heap.size wc wl) := bl_trans BEk.out hbl
  have K0l : Hid (Blk wl w.heap.size #[.slice a0 V.l0.length c0, .slice a1 V.l1.length c1, .slice a2 V.l2.length c2, .slice a3 V.l3.length c3, .slice a4 V.l4.length c4, .slice a5 V.l5.length c5, .slice a6 V.l6.length c6, .slice a7 V.l7.length c7, .bool V.sp, .bool V.kl] 24) := K0k.out.later hbl
  have K1l : Hid (Blk wl (w.heap.size + 1) #[.slice b0 U.l0.length d0, .slice b1 U.l1.length d1, .slice b2 U.l2.length d2, .slice b3 U.l3.length d3, .slice b4 U.l4.length d4, .slice b5 U.l5.length d5, .slice b6 U.l6.length d6, .slice b7 U.l7.length d7, .bool U.sp, .bool U.kl] 24) := K1k.out.later hbl
  have zl : Hid (Z.heap.size ≤ wl.heap.size) := Nat.le_trans hZk.out hbl.size
  clear hbl GK WK BEk K0k K1k hZk q10 q11 q20 q21 dd1
  go_wp2_with fail
  refine (markClashS_all Z.heap.size _ G wl GL.out lW).mono ?_
  rintro e wm ⟨rfl, hGm, hgm⟩
  have bG : Hid (∀ g, (Value.slice sg G.length cg).ownBlock = some g → Z.heap.size ≤ g) := fun g hg => (GL.out.lt g hg).1
  have GM := Hid.mk2 hGm
  have WM : Hid (KRow wm 0 (.slice sw G.length cw) G) := WL.out.keptO hgm (fun g hg e => by have := bW.out g hg; have := bG.out g e; have := hlz.out; omega)
  have bem : Below Z.heap.size wl wm := (Below.refl _ _).grown hgm zl.out bG.out
  have BEm : Hid (Below wc.heap.size wc wm) := BEl.out.trans (bem.mono hlz.out)
  have K0m : Hid (Blk wm w.heap.size #[.slice a0 V.l0.length c0, .slice a1 V.l1.length c1, .slice a2 V.l2.length c2, .slice a3 V.l3.length c3, .slice a4 V.l4.length c4, .slice a5 V.l5.length c5, .slice a6 V.l6.length c6, .slice a7 V.l7.length c7, .bool V.sp, .bool V.kl] 24) := K0l.out.same' (bem.block _ (by have := nK.out; have := hlz.out; omega))
  have K1m : Hid (Blk wm (w.heap.size + 1) #[.slice b0 U.l0.length d0, .slice b1 U.l1.length d1, .slice b2 U.l2.length d2, .slice b3 U.l3.length d3, .slice b4 U.l4.length d4, .slice b5 U.l5.length d5, .slice b6 U.l6.length d6, .slice b7 U.l7.length d7, .bool U.sp, .bool U.kl] 24) := K1l.out.same' (bem.block _ (by have := nK.out; have := hlz.out; omega))
  clear hGm hgm bem GL WL BEl K0l K1l zl
  go_wp2_with fail
  refine (heldClashS_all _ _ _ G.length wm GM.out rfl lW).mono ?_
  rintro e wy ⟨rfl, hbn⟩
  have GY := Hid.mk2 (GM.out.later hbn)
  have WY := Hid.mk2 (WM.out.later hbn)
  have K0 : Hid (Blk wy w.heap.size #[.slice a0 V.l0.length c0, .slice a1 V.l1.length c1, .slice a2 V.l2.length c2, .slice a3 V.l3.length c3, .slice a4 V.l4.length c4, .slice a5 V.l5.length c5, .slice a6 V.l6.length c6, .slice a7 V.l7.length c7, .bool V.sp, .bool V.kl] 24) := K0m.out.later hbn
  have K1 : Hid (Blk wy (w.heap.size + 1) #[.slice b0 U.l0.length d0, .slice b1 U.l1.length d1, .slice b2 U.l2.length d2, .slice b3 U.l3.length d3, .slice b4 U.l4.length d4, .slice b5 U.l5.length d5, .slice b6 U.l6.length d6, .slice b7 U.l7.length d7, .bool U.sp, .bool U.kl] 24) := K1m.out.later hbn
  have LY : Below w.heap.size w wy := bl_trans L3.out (bl_trans BEm.out hbn)
  clear hbn GM WM K0m K1m BEm
  have dd2 : decide (1 + 2 * (G.length : Int) < 0) = false := by simp; omega
  have dd3 : (1 + 2 * (G.length : Int) != 1 + 2 * (G.length : Int)) = false := by simp
  obtain ⟨x0, x1, x2, x3, x4, x5, x6, x7, x8, x9, xf⟩ := K0.out.ten
  obtain ⟨y0, y1, y2, y3, y4, y5, y6, y7, y8, y9, yf⟩ := K1.out.ten
  go_wp2_with fail
  clear HXZ HYZ KXZ KYZ LCZ
  go_region_held3 (fun w' => w'.cell? ⟨w.heap.size, 0, none⟩ = some (.slice a0 V.l0.length c0) ∧ w'.cell? ⟨w.heap.size, 1, none⟩ = some (.slice a1 V.l1.length c1) ∧ w'.cell? ⟨w.heap.size, 2, none⟩ = some (.slice a2 V.l2.length c2) ∧ w'.cell? ⟨w.heap.size, 3, none⟩ = some (.slice a3 V.l3.length c3) ∧ w'.cell? ⟨w.heap.size, 4, none⟩ = some (.slice a4 V.l4.length c4) ∧ w'.cell? ⟨w.heap.size, 5, none⟩ = some (.slice a5 V.l5.length c5) ∧ w'.cell? ⟨w.heap.size, 6, none⟩ = some (.slice a6 V.l6.length c6) ∧ w'.cell? ⟨w.heap.size, 7, none⟩ = some (.slice a7 V.l7.length c7) ∧ w'.cell? ⟨w.heap.size, 8, none⟩ = some (.bool V.sp) ∧ w'.cell? ⟨w.heap.size, 9, none⟩ = some (.bool V.kl) ∧ w'.cell? ⟨w.heap.size + 1, 0, none⟩ = some (.slice b0 U.l0.length d0) ∧ w'.cell? ⟨w.heap.size + 1, 1, none⟩ = some (.slice b1 U.l1.length d1) ∧ w'.cell? ⟨w.heap.size + 1, 2, none⟩ = some (.slice b2 U.l2.length d2) ∧ w'.cell? ⟨w.heap.size + 1, 3, none⟩ = some (.slice b3 U.l3.length d3) ∧ w'.cell? ⟨w.heap.size + 1, 4, none⟩ = some (.slice b4 U.l4.length d4) ∧ w'.cell? ⟨w.heap.size + 1, 5, none⟩ = some (.slice b5 U.l5.length d5) ∧ w'.cell? ⟨w.heap.size + 1, 6, none⟩ = some (.slice b6 U.l6.length d6) ∧ w'.cell? ⟨w.heap.size + 1, 7, none⟩ = some (.slice b7 U.l7.length d7) ∧ w'.cell? ⟨w.heap.size + 1, 8, none⟩ = some (.bool U.sp) ∧ w'.cell? ⟨w.heap.size + 1, 9, none⟩ = some (.bool U.kl)) (simp [x0, x1, x2, x3, x4, x5, x6, x7, x8, x9, y0, y1, y2, y3, y4, y5, y6, y7, y8, y9])
    (first
      | (go_at_call 9; first
          | (refine (toEffect_made b0 b1 b2 b3 b4 b5 b6 b7 d0 d1 d2 d3 d4 d5 d6 d7 U 0 _ (HU.out.later (bl_trans LY hwa)) KU.out).mono ?_; rintro e wb ⟨⟨k0, k1, k2, k3, k4, k5, k6, k7, rfl, hIb⟩, hbb⟩; have hwb : Below wy.heap.size wy wb := bl_trans hwa hbb; obtain ⟨x0, x1, x2, x3, x4, x5, x6, x7, x8, x9, xf⟩ := (K0.out.later hwb).ten; obtain ⟨y0, y1, y2, y3, y4, y5, y6, y7, y8, y9, yf⟩ := (K1.out.later hwb).ten)
          | (refine (toEffect_made a0 a1 a2 a3 a4 a5 a6 a7 c0 c1 c2 c3 c4 c5 c6 c7 V 0 _ (HV.out.later (bl_drew LY)) KV.out).mono ?_; rintro e wa ⟨⟨h0, h1, h2, h3, h4, h5, h6, h7, rfl, hIa⟩, hba⟩; have hwa : Below wy.heap.size wy wa := bl_trans (bl_drew (Below.refl _ _)) hba; obtain ⟨x0, x1, x2, x3, x4, x5, x6, x7, x8, x9, xf⟩ := (K0.out.later hwa).ten; obtain ⟨y0, y1, y2, y3, y4, y5, y6, y7, y8, y9, yf⟩ := (K1.out.later hwa).ten))
      | (go_at_call 17; refine (implStrictly_any _ _ _ _ _ _ _ _ _ _ _ _ _ _ _ _ V _ _ _ _ _ _ _ _ _ _ _ _ _ _ _ _ U n _ _ wb (hIa.later hbb) hIb KV.out KU.out).mono ?_; rintro e wo ⟨⟨so, co, rfl, ko⟩, hbc⟩; have hwc : Below wy.heap.size wy wo := bl_trans hwb hbc; obtain ⟨x0, x1, x2, x3, x4, x5, x6, x7, x8, x9, xf⟩ := (K0.out.later hwc).ten; obtain ⟨y0, y1, y2, y3, y4, y5, y6, y7, y8, y9, yf⟩ := (K1.out.later hwc).ten))
  rw [hG.out] at ko ⊢
  have KO := Hid.mk2 ko
  have WO := Hid.mk2 (WY.out.later hwc)
  have GO := Hid.mk2 (GY.out.later hwc)
  have LO := Hid.mk2 (bl_trans LY hwc)
  clear hIa hIb hba hbb hbc hwa hwb hwc ko WY GY K0 K1 x0 x1 x2 x3 x4 x5 x6 x7 x8 x9 xf y0 y1 y2 y3 y4 y5 y6 y7 y8 y9 yf
  go_wp2_with fail
  refine (eqClashS_any _ _ G wo KO.out.list WO.out.list lW).mono ?_
  rintro e wp ⟨rfl, hbp⟩
  have GP := Hid.mk2 (GO.out.later hbp)
  have LP := Hid.mk2 (bl_trans LO.out hbp)
  clear hbp KO WO GO LO
  go_wp2_with fail
  refine (heldClashS_all _ _ _ G.length wp GP.out rfl lW).mono ?_
  rintro e wq ⟨rfl, hbq⟩
  have LQ := bl_trans LP.out hbq
  clear hbq LP GP
  go_wp2_with fail
  go_ret
  exact ⟨rfl, LQ⟩
end Go.Proofs.Ytgfchpbdoebmbaa
