import Derived.Test.YtmhiddepddgfgabTk
import Derived.Test.YtmhiddepddgfgabTf
import Derived.Deep.RegionHeld3
namespace Go.Proofs.Ytmhiddepddgfgab
open Go.RowKit
set_option linter.unusedVariables false
set_option linter.unusedSimpArgs false

set_option maxRecDepth 100000 in
set_option maxHeartbeats 4000000 in
theorem exactWorldSame_any (a1 a2 a3 a4 : Option Addr) (c1 c2 c3 c4 : Nat) (V : Wd) (b1 b2 b3 b4 : Option Addr) (d1 d2 d3 d4 : Nat) (U : Wd) (w : World) (hV : InW w 0 a1 a2 a3 a4 V) (mV : mW V) (hU : InW w 0 b1 b2 b3 b4 U) (mU : mW U) :
    Calls Try.prog 6 #[.agg #[.slice a1 V.gens.length c1, .slice a2 V.free.length c2, .slice a3 V.tabs.length c3, .slice a4 V.res.length c4], .agg #[.slice b1 U.gens.length d1, .slice b2 U.free.length d2, .slice b3 U.tabs.length d3, .slice b4 U.res.length d4]] w fun e w' => e = .returned (.bool true) ∧ Below w.heap.size w w' := by
  have hal := alloc_old
  have haf := alloc_oldf
  obtain ⟨k0, k1, L0⟩ := boxVV w #[.slice a1 V.gens.length c1, .slice a2 V.free.length c2, .slice a3 V.tabs.length c3, .slice a4 V.res.length c4] #[.slice b1 U.gens.length d1, .slice b2 U.free.length d2, .slice b3 U.tabs.length d3, .slice b4 U.res.length d4] 43 43
  obtain ⟨x0, x1, x2, x3, x4⟩ := k0.four'
  obtain ⟨y0, y1, y2, y3, y4⟩ := k1.four'
  go_enter Try.func6, Try.ntmps6
  go_wp2_with fail
  refine (szWorld_gen a1 a2 a3 a4 c1 c2 c3 c4 V 0 1048576 _ (hV.later L0) mV (by omega) (by omega)).mono ?_
  rintro e w1 ⟨⟨r, rfl, hr⟩, hb1⟩
  have L1 := bl_trans L0 hb1
  have k0 := k0.later hb1
  have k1 := k1.later hb1
  clear x0 x1 x2 x3 x4 y0 y1 y2 y3 y4 hb1 L0
  rcases hr with rfl | ⟨r0, r1, kv⟩
  · go_wp2_with fail
    go_ret
    exact ⟨rfl, L1⟩
  have t1 : decide (r < 0) = false := by simp; omega
  obtain ⟨y0, y1, y2, y3, y4⟩ := k1.four'
  go_wp2_with fail
  refine (szWorld_gen b1 b2 b3 b4 d1 d2 d3 d4 U 0 r _ (hU.later L1) mU r0 (by omega)).mono ?_
  rintro e w2 ⟨⟨r', rfl, hr⟩, hb2⟩
  have L2 := bl_trans L1 hb2
  have k0 := k0.later hb2
  have k1 := k1.later hb2
  clear y0 y1 y2 y3 y4 hb2 L1 t1
  rcases hr with rfl | ⟨r0', r1', ku⟩
  · go_wp2_with fail
    go_ret
    exact ⟨rfl, L2⟩
  have t1 : decide (r' < 0) = false := by simp; omega
  have hI := hV.later L2
  have hJ := hU.later L2
  obtain ⟨x0, x1, x2, x3, x4⟩ := k0.four'
  obtain ⟨y0, y1, y2, y3, y4⟩ := k1.four'
  have K0 : Hid (Blk w2 w.heap.size #[.slice a1 V.gens.length c1, .slice a2 V.free.length c2, .slice a3 V.tabs.length c3, .slice a4 V.res.length c4] 43) := k0
  have K1 : Hid (Blk w2 (w.heap.size + 1) #[.slice b1 U.gens.length d1, .slice b2 U.free.length d2, .slice b3 U.tabs.length d3, .slice b4 U.res.length d4] 43) := k1
  clear k0 k1 hV hU mV mU r1 r1'
  go_wp2_with fail
  go_region_held3 (fun w' => w'.cell? ⟨w.heap.size, 0, none⟩ = some (.slice a1 V.gens.length c1) ∧ w'.cell? ⟨w.heap.size, 1, none⟩ = some (.slice a2 V.free.length c2) ∧ w'.cell? ⟨w.heap.size, 2, none⟩ = some (.slice a3 V.tabs.length c3) ∧ w'.cell? ⟨w.heap.size, 3, none⟩ = some (.slice a4 V.res.length c4) ∧ w'.cell? ⟨w.heap.size + 1, 0, none⟩ = some (.slice b1 U.gens.length d1) ∧ w'.cell? ⟨w.heap.size + 1, 1, none⟩ = some (.slice b2 U.free.length d2) ∧ w'.cell? ⟨w.heap.size + 1, 2, none⟩ = some (.slice b3 U.tabs.length d3) ∧ w'.cell? ⟨w.heap.size + 1, 3, none⟩ = some (.slice b4 U.res.length d4)) (simp [x0, x1, x2, x3, y0, y1, y2, y3])
    (first
      | (go_at_call 20; first
          | (refine (toWorld_made b1 b2 b3 b4 d1 d2 d3 d4 U 0 _ (hJ.later hwa) ku).mono ?_; rintro e wb ⟨⟨k1, k2, k3, k4, rfl, hIb⟩, hbb⟩; have hwb : Below w2.heap.size w2 wb := bl_trans hwa hbb; obtain ⟨x0, x1, x2, x3, x4⟩ := (K0.out.later hwb).four'; obtain ⟨y0, y1, y2, y3, y4⟩ := (K1.out.later hwb).four')
          | (refine (toWorld_made a1 a2 a3 a4 c1 c2 c3 c4 V 0 _ (hI.later (bl_drew (Below.refl _ _))) kv).mono ?_; rintro e wa ⟨⟨h1, h2, h3, h4, rfl, hIa⟩, hba⟩; have hwa : Below w2.heap.size w2 wa := bl_trans (bl_drew (Below.refl _ _)) hba; obtain ⟨x0, x1, x2, x3, x4⟩ := (K0.out.later hwa).four'; obtain ⟨y0, y1, y2, y3, y4⟩ := (K1.out.later hwa).four'))
      | (go_at_call 29; refine (specWorldSame_any _ _ _ _ _ _ _ _ _ _ _ _ _ _ _ _ V U _ _ wb (hIa.later hbb) hIb kv ku).mono ?_; rintro e wc ⟨rfl, hbc⟩; have hwc : Below w2.heap.size w2 wc := bl_trans hwb hbc; obtain ⟨x0, x1, x2, x3, x4⟩ := (K0.out.later hwc).four'; obtain ⟨y0, y1, y2, y3, y4⟩ := (K1.out.later hwc).four'))
  have L3 : Hid (Below w.heap.size w wc) := bl_trans L2 hwc
  have hI := hI.later hwc
  have hJ := hJ.later hwc
  have K0 := K0.out.later hwc
  have K1 := K1.out.later hwc
  clear hIa hIb hba hbb hbc hwa hwb hwc L2
  go_wp2_with fail
  refine (toWorld_made a1 a2 a3 a4 c1 c2 c3 c4 V 0 _ hI kv).mono ?_
  rintro e wd ⟨⟨h1, h2, h3, h4, rfl, hx⟩, hbd⟩
  have LD := bl_trans L3.out hbd
  have KX := Blk.new wd #[.slice (some ⟨h1, 0, none⟩) V.gens.length V.gens.length, .slice (some ⟨h2, 0, none⟩) V.free.length V.free.length, .slice (some ⟨h3, 0, none⟩) V.tabs.length V.tabs.length, .slice (some ⟨h4, 0, none⟩) V.res.length V.res.length] 52
  have LY : Below wd.heap.size wd (wd.alloc (.cells #[.slice (some ⟨h1, 0, none⟩) V.gens.length V.gens.length, .slice (some ⟨h2, 0, none⟩) V.free.length V.free.length, .slice (some ⟨h3, 0, none⟩) V.tabs.length V.tabs.length, .slice (some ⟨h4, 0, none⟩) V.res.length V.res.length] 52)) := bl_alloc (Below.refl _ _) _
  have K0 := (K0.later hbd).later LY
  have K1 := (K1.later hbd).later LY
  have hI := (hI.later hbd).later LY
  have hJ := (hJ.later hbd).later LY
  have hx := hx.later LY
  have LD := bl_trans LD LY
  clear x0 x1 x2 x3 x4 y0 y1 y2 y3 y4 L3 hbd LY
  obtain ⟨y0, y1, y2, y3, y4⟩ := K1.four'
  go_wp2_with fail
  clear y0 y1 y2 y3 y4
  generalize hX : wd.alloc (.cells #[.slice (some ⟨h1, 0, none⟩) V.gens.length V.gens.length, .slice (some ⟨h2, 0, none⟩) V.free.length V.free.length, .slice (some ⟨h3, 0, none⟩) V.tabs.length V.tabs.length, .slice (some ⟨h4, 0, none⟩) V.res.length V.res.length] 52) = Y at KX K0 K1 LD hI hJ hx ⊢
  clear hX
  refine (toWorld_made b1 b2 b3 b4 d1 d2 d3 d4 U 0 _ hJ ku).mono ?_
  rintro e we ⟨⟨k1, k2, k3, k4, rfl, hy⟩, hbe⟩
  have LE := bl_trans LD hbe
  have KY := Blk.new we #[.slice (some ⟨k1, 0, none⟩) U.gens.length U.gens.length, .slice (some ⟨k2, 0, none⟩) U.free.length U.free.length, .slice (some ⟨k3, 0, none⟩) U.tabs.length U.tabs.length, .slice (some ⟨k4, 0, none⟩) U.res.length U.res.length] 52
  have LZ : Below we.heap.size we (we.alloc (.cells #[.slice (some ⟨k1, 0, none⟩) U.gens.length U.gens.length, .slice (some ⟨k2, 0, none⟩) U.free.length U.free.length, .slice (some ⟨k3, 0, none⟩) U.tabs.length U.tabs.length, .slice (some ⟨k4, 0, none⟩) U.res.length U.res.length] 52)) := bl_alloc (Below.refl _ _) _
  have KX := (KX.later hbe).later LZ
  have K0 := (K0.later hbe).later LZ
  have K1 := (K1.later hbe).later LZ
  have hI := (hI.later hbe).later LZ
  have hJ := (hJ.later hbe).later LZ
  have hx := (hx.later hbe).later LZ
  have hy := hy.later LZ
  have LE := bl_trans LE LZ
  clear LD hbe LZ
  obtain ⟨x0, x1, x2, x3, x4⟩ := KX.four'
  obtain ⟨y0, y1, y2, y3, y4⟩ := KY.four'
  go_wp2_with fail
  generalize hZ : we.alloc (.cells #[.slice (some ⟨k1, 0, none⟩) U.gens.length U.gens.length, .slice (some ⟨k2, 0, none⟩) U.free.length U.free.length, .slice (some ⟨k3, 0, none⟩) U.tabs.length U.tabs.length, .slice (some ⟨k4, 0, none⟩) U.res.length U.res.length] 52) = Z at KX KY K0 K1 LE hI hJ hx hy x0 x1 x2 x3 x4 y0 y1 y2 y3 y4 ⊢
  clear hZ
  refine (implWorldSame_any _ _ _ _ _ _ _ _ _ _ _ _ _ _ _ _ V U _ _ Z hx hy kv ku).mono ?_
  rintro e wf ⟨rfl, hbf⟩
  have LF := bl_trans LE hbf
  have KX := KX.later hbf
  have KY := KY.later hbf
  have K0 := K0.later hbf
  have K1 := K1.later hbf
  have hI := hI.later hbf
  have hJ := hJ.later hbf
  have hx := hx.later hbf
  have hy := hy.later hbf
  clear LE hbf x0 x1 x2 x3 x4 y0 y1 y2 y3 y4
  obtain ⟨x0, x1, x2, x3, x4⟩ := KX.four'
  obtain ⟨z0, z1, z2, z3, z4⟩ := K0.four'
  have KXH : Hid (Blk wf wd.heap.size #[.slice (some ⟨h1, 0, none⟩) V.gens.length V.gens.length, .slice (some ⟨h2, 0, none⟩) V.free.length V.free.length, .slice (some ⟨h3, 0, none⟩) V.tabs.length V.tabs.length, .slice (some ⟨h4, 0, none⟩) V.res.length V.res.length] 52) := KX
  have K0H : Hid (Blk wf w.heap.size #[.slice a1 V.gens.length c1, .slice a2 V.free.length c2, .slice a3 V.tabs.length c3, .slice a4 V.res.length c4] 43) := K0
  go_wp2_with fail
  go_region_held3 (fun w' => w'.cell? ⟨wd.heap.size, 0, none⟩ = some (.slice (some ⟨h1, 0, none⟩) V.gens.length V.gens.length) ∧ w'.cell? ⟨wd.heap.size, 1, none⟩ = some (.slice (some ⟨h2, 0, none⟩) V.free.length V.free.length) ∧ w'.cell? ⟨wd.heap.size, 2, none⟩ = some (.slice (some ⟨h3, 0, none⟩) V.tabs.length V.tabs.length) ∧ w'.cell? ⟨wd.heap.size, 3, none⟩ = some (.slice (some ⟨h4, 0, none⟩) V.res.length V.res.length) ∧ w'.cell? ⟨w.heap.size, 0, none⟩ = some (.slice a1 V.gens.length c1) ∧ w'.cell? ⟨w.heap.size, 1, none⟩ = some (.slice a2 V.free.length c2) ∧ w'.cell? ⟨w.heap.size, 2, none⟩ = some (.slice a3 V.tabs.length c3) ∧ w'.cell? ⟨w.heap.size, 3, none⟩ = some (.slice a4 V.res.length c4)) (simp [x0, x1, x2, x3, z0, z1, z2, z3])
    (first
      | (go_at_call 20; refine (toWorld_made a1 a2 a3 a4 c1 c2 c3 c4 V 0 _ (hI.later (bl_drew (Below.refl _ _))) kv).mono ?_; rintro e wg ⟨⟨q1, q2, q3, q4, rfl, hIg⟩, hbg⟩; have hwg : Below wf.heap.size wf wg := bl_trans (bl_drew (Below.refl _ _)) hbg; obtain ⟨x0, x1, x2, x3, x4⟩ := (KXH.out.later hwg).four'; obtain ⟨z0, z1, z2, z3, z4⟩ := (K0H.out.later hwg).four')
      | (go_at_call 23; refine (eqWorld_gen _ _ _ _ _ _ _ _ _ _ _ _ _ _ _ _ V _ _ wg (hx.later hwg) hIg kv).mono ?_; rintro e wh ⟨rfl, hbh⟩; have hwh : Below wf.heap.size wf wh := bl_trans hwg hbh; obtain ⟨x0, x1, x2, x3, x4⟩ := (KXH.out.later hwh).four'; obtain ⟨z0, z1, z2, z3, z4⟩ := (K0H.out.later hwh).four'))
  have LH := bl_trans LF hwh
  have KY := KY.later hwh
  have K1 := K1.later hwh
  have hJ := hJ.later hwh
  have hy := hy.later hwh
  clear LF hwg hbg hwh hbh hIg KX K0 KXH K0H x0 x1 x2 x3 x4 z0 z1 z2 z3 z4 hI hx
  obtain ⟨x0, x1, x2, x3, x4⟩ := KY.four'
  obtain ⟨z0, z1, z2, z3, z4⟩ := K1.four'
  have KXH : Hid (Blk wh we.heap.size #[.slice (some ⟨k1, 0, none⟩) U.gens.length U.gens.length, .slice (some ⟨k2, 0, none⟩) U.free.length U.free.length, .slice (some ⟨k3, 0, none⟩) U.tabs.length U.tabs.length, .slice (some ⟨k4, 0, none⟩) U.res.length U.res.length] 52) := KY
  have K0H : Hid (Blk wh (w.heap.size + 1) #[.slice b1 U.gens.length d1, .slice b2 U.free.length d2, .slice b3 U.tabs.length d3, .slice b4 U.res.length d4] 43) := K1
  clear KY K1
  go_wp2_with fail
  go_region_held3 (fun w' => w'.cell? ⟨we.heap.size, 0, none⟩ = some (.slice (some ⟨k1, 0, none⟩) U.gens.length U.gens.length) ∧ w'.cell? ⟨we.heap.size, 1, none⟩ = some (.slice (some ⟨k2, 0, none⟩) U.free.length U.free.length) ∧ w'.cell? ⟨we.heap.size, 2, none⟩ = some (.slice (some ⟨k3, 0, none⟩) U.tabs.length U.tabs.length) ∧ w'.cell? ⟨we.heap.size, 3, none⟩ = some (.slice (some ⟨k4, 0, none⟩) U.res.length U.res.length) ∧ w'.cell? ⟨w.heap.size + 1, 0, none⟩ = some (.slice b1 U.gens.length d1) ∧ w'.cell? ⟨w.heap.size + 1, 1, none⟩ = some (.slice b2 U.free.length d2) ∧ w'.cell? ⟨w.heap.size + 1, 2, none⟩ = some (.slice b3 U.tabs.length d3) ∧ w'.cell? ⟨w.heap.size + 1, 3, none⟩ = some (.slice b4 U.res.length d4)) (simp [x0, x1, x2, x3, z0, z1, z2, z3])
    (first
      | (go_at_call 20; refine (toWorld_made b1 b2 b3 b4 d1 d2 d3 d4 U 0 _ (hJ.later (bl_drew (Below.refl _ _))) ku).mono ?_; rintro e wg ⟨⟨q1, q2, q3, q4, rfl, hIg⟩, hbg⟩; have hwg : Below wh.heap.size wh wg := bl_trans (bl_drew (Below.refl _ _)) hbg; obtain ⟨x0, x1, x2, x3, x4⟩ := (KXH.out.later hwg).four'; obtain ⟨z0, z1, z2, z3, z4⟩ := (K0H.out.later hwg).four')
      | (go_at_call 23; refine (eqWorld_gen _ _ _ _ _ _ _ _ _ _ _ _ _ _ _ _ U _ _ wg (hy.later hwg) hIg ku).mono ?_; rintro e wi ⟨rfl, hbi⟩; have hwi : Below wh.heap.size wh wi := bl_trans hwg hbi; obtain ⟨x0, x1, x2, x3, x4⟩ := (KXH.out.later hwi).four'; obtain ⟨z0, z1, z2, z3, z4⟩ := (K0H.out.later hwi).four'))
  have LI := bl_trans LH hwi
  go_wp2_with fail
  go_ret
  exact ⟨rfl, LI⟩
end Go.Proofs.Ytmhiddepddgfgab
