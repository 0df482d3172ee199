import Derived.Test.YtddlkejinhbpaaaJf
import Derived.Deep.RegionHeld3
namespace Go.Proofs.Ytddlkejinhbpaaa
open Go.RowKit
set_option linter.unusedVariables false
set_option linter.unusedSimpArgs false

set_option maxRecDepth 100000 in
set_option maxHeartbeats 4000000 in
theorem exactTreeSame_any (a1 a2 : Option Addr) (c1 c2 : Nat) (V : Tre) (b1 b2 : Option Addr) (d1 d2 : Nat) (U : Tre) (w : World) (hV : InT w 0 a1 a2 V) (mV : mTre V) (hU : InT w 0 b1 b2 U) (mU : mTre U) :
    Calls Try.prog 3 #[.agg #[.slice a1 V.nodes.length c1, .slice a2 V.tops.length c2], .agg #[.slice b1 U.nodes.length d1, .slice b2 U.tops.length d2]] w fun e w' => e = .returned (.bool true) ∧ Below w.heap.size w w' := by
  have hal := alloc_old
  have haf := alloc_oldf
  obtain ⟨k0, k1, L0⟩ := blkTwo w #[.slice a1 V.nodes.length c1, .slice a2 V.tops.length c2] #[.slice b1 U.nodes.length d1, .slice b2 U.tops.length d2] 25 25
  obtain ⟨x0, x1, x2⟩ := k0.two
  obtain ⟨y0, y1, y2⟩ := k1.two
  go_enter Try.func3, Try.ntmps3
  go_wp2_with fail
  refine (szTree_gen a1 a2 c1 c2 V 0 1048576 _ (hV.later L0) mV (by omega) (by omega)).mono ?_
  rintro e w1 ⟨⟨r, rfl, hr⟩, hb1⟩
  have L1 := bl_trans L0 hb1
  have k0 := k0.later hb1
  have k1 := k1.later hb1
  clear x0 x1 x2 y0 y1 y2 hb1 L0
  rcases hr with rfl | ⟨r0, r1, kv⟩
  · go_wp2_with fail
    go_ret
    exact ⟨rfl, L1⟩
  have t1 : decide (r < 0) = false := by simp; omega
  obtain ⟨y0, y1, y2⟩ := k1.two
  go_wp2_with fail
  refine (szTree_gen b1 b2 d1 d2 U 0 r _ (hU.later L1) mU r0 (by omega)).mono ?_
  rintro e w2 ⟨⟨r', rfl, hr⟩, hb2⟩
  have L2 := bl_trans L1 hb2
  have k0 := k0.later hb2
  have k1 := k1.later hb2
  clear y0 y1 y2 hb2 L1 t1
  rcases hr with rfl | ⟨r0', r1', ku⟩
  · go_wp2_with fail
    go_ret
    exact ⟨rfl, L2⟩
  have t1 : decide (r' < 0) = false := by simp; omega
  have hI := hV.later L2
  have hJ := hU.later L2
  obtain ⟨x0, x1, x2⟩ := k0.two
  obtain ⟨y0, y1, y2⟩ := k1.two
  have K0 : Hid (Blk w2 w.heap.size #[.slice a1 V.nodes.length c1, .slice a2 V.tops.length c2] 25) := k0
  have K1 : Hid (Blk w2 (w.heap.size + 1) #[.slice b1 U.nodes.length d1, .slice b2 U.tops.length d2] 25) := k1
  clear k0 k1 hV hU mV mU r1 r1'
  go_wp2_with fail
  go_region_held3 (fun w' => w'.cell? ⟨w.heap.size, 0, none⟩ = some (.slice a1 V.nodes.length c1) ∧ w'.cell? ⟨w.heap.size, 1, none⟩ = some (.slice a2 V.tops.length c2) ∧ w'.cell? ⟨w.heap.size + 1, 0, none⟩ = some (.slice b1 U.nodes.length d1) ∧ w'.cell? ⟨w.heap.size + 1, 1, none⟩ = some (.slice b2 U.tops.length d2)) (simp [x0, x1, y0, y1])
    (first
      | (go_at_call 6; first
          | (refine (toTree_made b1 b2 d1 d2 U 0 _ (hJ.later hwa) ku).mono ?_; rintro e wb ⟨⟨k1, k2, rfl, hIb⟩, hbb⟩; have hwb : Below w2.heap.size w2 wb := bl_trans hwa hbb; obtain ⟨x0, x1, x2⟩ := (K0.out.later hwb).two; obtain ⟨y0, y1, y2⟩ := (K1.out.later hwb).two)
          | (refine (toTree_made a1 a2 c1 c2 V 0 _ (hI.later (bl_drew (Below.refl _ _))) kv).mono ?_; rintro e wa ⟨⟨h1, h2, rfl, hIa⟩, hba⟩; have hwa : Below w2.heap.size w2 wa := bl_trans (bl_drew (Below.refl _ _)) hba; obtain ⟨x0, x1, x2⟩ := (K0.out.later hwa).two; obtain ⟨y0, y1, y2⟩ := (K1.out.later hwa).two))
      | (go_at_call 5; refine (specTreeSame_any _ _ _ _ _ _ _ _ V U _ _ wb (hIa.later hbb) hIb kv ku).mono ?_; rintro e wc ⟨rfl, hbc⟩; have hwc : Below w2.heap.size w2 wc := bl_trans hwb hbc; obtain ⟨x0, x1, x2⟩ := (K0.out.later hwc).two; obtain ⟨y0, y1, y2⟩ := (K1.out.later hwc).two))
  have L3 : Hid (Below w.heap.size w wc) := bl_trans L2 hwc
  have hI := hI.later hwc
  have hJ := hJ.later hwc
  have K0 := K0.out.later hwc
  have K1 := K1.out.later hwc
  clear hIa hIb hba hbb hbc hwa hwb hwc L2
  go_wp2_with fail
  refine (toTree_made a1 a2 c1 c2 V 0 _ hI kv).mono ?_
  rintro e wd ⟨⟨h1, h2, rfl, hx⟩, hbd⟩
  have LD := bl_trans L3.out hbd
  have KX := Blk.new wd #[.slice (some ⟨h1, 0, none⟩) V.nodes.length V.nodes.length, .slice (some ⟨h2, 0, none⟩) V.tops.length V.tops.length] 30
  have LY : Below wd.heap.size wd (wd.alloc (.cells #[.slice (some ⟨h1, 0, none⟩) V.nodes.length V.nodes.length, .slice (some ⟨h2, 0, none⟩) V.tops.length V.tops.length] 30)) := bl_alloc (Below.refl _ _) _
  have K0 := (K0.later hbd).later LY
  have K1 := (K1.later hbd).later LY
  have hI := (hI.later hbd).later LY
  have hJ := (hJ.later hbd).later LY
  have hx := hx.later LY
  have LD := bl_trans LD LY
  clear x0 x1 x2 y0 y1 y2 L3 hbd LY
  obtain ⟨y0, y1, y2⟩ := K1.two
  go_wp2_with fail
  clear y0 y1 y2
  generalize hX : wd.alloc (.cells #[.slice (some ⟨h1, 0, none⟩) V.nodes.length V.nodes.length, .slice (some ⟨h2, 0, none⟩) V.tops.length V.tops.length] 30) = Y at KX K0 K1 LD hI hJ hx ⊢
  clear hX
  refine (toTree_made b1 b2 d1 d2 U 0 _ hJ ku).mono ?_
  rintro e we ⟨⟨k1, k2, rfl, hy⟩, hbe⟩
  have LE := bl_trans LD hbe
  have KY := Blk.new we #[.slice (some ⟨k1, 0, none⟩) U.nodes.length U.nodes.length, .slice (some ⟨k2, 0, none⟩) U.tops.length U.tops.length] 30
  have LZ : Below we.heap.size we (we.alloc (.cells #[.slice (some ⟨k1, 0, none⟩) U.nodes.length U.nodes.length, .slice (some ⟨k2, 0, none⟩) U.tops.length U.tops.length] 30)) := bl_alloc (Below.refl _ _) _
  have KX := (KX.later hbe).later LZ
  have K0 := (K0.later hbe).later LZ
  have K1 := (K1.later hbe).later LZ
  have hI := (hI.later hbe).later LZ
  have hJ := (hJ.later hbe).later LZ
  have hx := (hx.later hbe).later LZ
  have hy := hy.later LZ
  have LE := bl_trans LE LZ
  clear LD hbe LZ
  obtain ⟨x0, x1, x2⟩ := KX.two
  obtain ⟨y0, y1, y2⟩ := KY.two
  go_wp2_with fail
  generalize hZ : we.alloc (.cells #[.slice (some ⟨k1, 0, none⟩) U.nodes.length U.nodes.length, .slice (some ⟨k2, 0, none⟩) U.tops.length U.tops.length] 30) = Z at KX KY K0 K1 LE hI hJ hx hy x0 x1 x2 y0 y1 y2 ⊢
  clear hZ
  refine (implTreeSame_any _ _ _ _ _ _ _ _ V U _ _ Z hx hy kv ku).mono ?_
  rintro e wf ⟨rfl, hbf⟩
  have LF := bl_trans LE hbf
  have KX := KX.later hbf
  have KY := KY.later hbf
  have K0 := K0.later hbf
  have K1 := K1.later hbf
  have hI := hI.later hbf
  have hJ := hJ.later hbf
  have hx := hx.later hbf
  have hy := hy.later hbf
  clear LE hbf x0 x1 x2 y0 y1 y2
  obtain ⟨x0, x1, x2⟩ := KX.two
  obtain ⟨z0, z1, z2⟩ := K0.two
  have KXH : Hid (Blk wf wd.heap.size #[.slice (some ⟨h1, 0, none⟩) V.nodes.length V.nodes.length, .slice (some ⟨h2, 0, none⟩) V.tops.length V.tops.length] 30) := KX
  have K0H : Hid (Blk wf w.heap.size #[.slice a1 V.nodes.length c1, .slice a2 V.tops.length c2] 25) := K0
  go_wp2_with fail
  go_region_held3 (fun w' => w'.cell? ⟨wd.heap.size, 0, none⟩ = some (.slice (some ⟨h1, 0, none⟩) V.nodes.length V.nodes.length) ∧ w'.cell? ⟨wd.heap.size, 1, none⟩ = some (.slice (some ⟨h2, 0, none⟩) V.tops.length V.tops.length) ∧ w'.cell? ⟨w.heap.size, 0, none⟩ = some (.slice a1 V.nodes.length c1) ∧ w'.cell? ⟨w.heap.size, 1, none⟩ = some (.slice a2 V.tops.length c2)) (simp [x0, x1, z0, z1])
    (first
      | (go_at_call 6; refine (toTree_made a1 a2 c1 c2 V 0 _ (hI.later (bl_drew (Below.refl _ _))) kv).mono ?_; rintro e wg ⟨⟨q1, q2, rfl, hIg⟩, hbg⟩; have hwg : Below wf.heap.size wf wg := bl_trans (bl_drew (Below.refl _ _)) hbg; obtain ⟨x0, x1, x2⟩ := (KXH.out.later hwg).two; obtain ⟨z0, z1, z2⟩ := (K0H.out.later hwg).two)
      | (go_at_call 8; refine (eqTree_self _ _ _ _ _ _ _ _ V _ _ wg (hx.later hwg) hIg kv).mono ?_; rintro e wh ⟨rfl, hbh⟩; have hwh : Below wf.heap.size wf wh := bl_trans hwg hbh; obtain ⟨x0, x1, x2⟩ := (KXH.out.later hwh).two; obtain ⟨z0, z1, z2⟩ := (K0H.out.later hwh).two))
  have LH := bl_trans LF hwh
  have KY := KY.later hwh
  have K1 := K1.later hwh
  have hJ := hJ.later hwh
  have hy := hy.later hwh
  clear LF hwg hbg hwh hbh hIg KX K0 KXH K0H x0 x1 x2 z0 z1 z2 hI hx
  obtain ⟨x0, x1, x2⟩ := KY.two
  obtain ⟨z0, z1, z2⟩ := K1.two
  have KXH : Hid (Blk wh we.heap.size #[.slice (some ⟨k1, 0, none⟩) U.nodes.length U.nodes.length, .slice (some ⟨k2, 0, none⟩) U.tops.length U.tops.length] 30) := KY
  have K0H : Hid (Blk wh (w.heap.size + 1) #[.slice b1 U.nodes.length d1, .slice b2 U.tops.length d2] 25) := K1
  clear KY K1
  go_wp2_with fail
  go_region_held3 (fun w' => w'.cell? ⟨we.heap.size, 0, none⟩ = some (.slice (some ⟨k1, 0, none⟩) U.nodes.length U.nodes.length) ∧ w'.cell? ⟨we.heap.size, 1, none⟩ = some (.slice (some ⟨k2, 0, none⟩) U.tops.length U.tops.length) ∧ w'.cell? ⟨w.heap.size + 1, 0, none⟩ = some (.slice b1 U.nodes.length d1) ∧ w'.cell? ⟨w.heap.size + 1, 1, none⟩ = some (.slice b2 U.tops.length d2)) (simp [x0, x1, z0, z1])
    (first
      | (go_at_call 6; refine (toTree_made b1 b2 d1 d2 U 0 _ (hJ.later (bl_drew (Below.refl _ _))) ku).mono ?_; rintro e wg ⟨⟨q1, q2, rfl, hIg⟩, hbg⟩; have hwg : Below wh.heap.size wh wg := bl_trans (bl_drew (Below.refl _ _)) hbg; obtain ⟨x0, x1, x2⟩ := (KXH.out.later hwg).two; obtain ⟨z0, z1, z2⟩ := (K0H.out.later hwg).two)
      | (go_at_call 8; refine (eqTree_self _ _ _ _ _ _ _ _ U _ _ wg (hy.later hwg) hIg ku).mono ?_; rintro e wi ⟨rfl, hbi⟩; have hwi : Below wh.heap.size wh wi := bl_trans hwg hbi; obtain ⟨x0, x1, x2⟩ := (KXH.out.later hwi).two; obtain ⟨z0, z1, z2⟩ := (K0H.out.later hwi).two))
  have LI := bl_trans LH hwi
  go_wp2_with fail
  go_ret
  exact ⟨rfl, LI⟩
end Go.Proofs.Ytddlkejinhbpaaa
