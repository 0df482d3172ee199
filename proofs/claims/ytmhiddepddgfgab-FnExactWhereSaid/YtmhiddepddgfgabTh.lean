import Derived.Test.YtmhiddepddgfgabTf
import Derived.Test.YtmhiddepddgfgabTg
import Derived.Deep.RegionHeld3
namespace Go.Proofs.Ytmhiddepddgfgab
open Go.RowKit
set_option linter.unusedVariables false
set_option linter.unusedSimpArgs false

set_option maxHeartbeats 4000000 in
theorem exactWhere_any (a1 a2 a3 a4 : Option Addr) (c1 c2 c3 c4 : Nat) (W : Wd) (v1 v2 : Int) (w : World) (hW : InW w 0 a1 a2 a3 a4 W) (hm : mW W) :
    Calls Try.prog 7 #[.agg #[.slice a1 W.gens.length c1, .slice a2 W.free.length c2, .slice a3 W.tabs.length c3, .slice a4 W.res.length c4], .agg #[.int .i64 v1, .int .i64 v2]] w fun e w' => e = .returned (.bool true) ∧ Below w.heap.size w w' := by
  have hal := alloc_old
  have haf := alloc_oldf
  obtain ⟨k0, k1, L0⟩ := boxWE w #[.slice a1 W.gens.length c1, .slice a2 W.free.length c2, .slice a3 W.tabs.length c3, .slice a4 W.res.length c4] #[.int .i64 v1, .int .i64 v2] 43 63
  obtain ⟨x0, x1, x2, x3, x4⟩ := k0.four'
  obtain ⟨y0, y1, y2⟩ := k1.two
  go_enter Try.func7, Try.ntmps7
  go_wp2_with fail
  refine (szWorld_gen a1 a2 a3 a4 c1 c2 c3 c4 W 0 1048576 _ (hW.later L0) hm (by omega) (by omega)).mono ?_
  rintro e w1 ⟨⟨r, rfl, hr⟩, hb1⟩
  have L1 := bl_trans L0 hb1
  have k0 := k0.later hb1
  have k1 := k1.later hb1
  clear x0 x1 x2 x3 x4 y0 y1 y2 hb1 L0
  rcases hr with rfl | ⟨r0, r1, hk⟩
  · go_wp2_with fail
    go_ret
    exact ⟨rfl, L1⟩
  · have t1 : decide (r < 0) = false := by simp; omega
    have hI := hW.later L1
    obtain ⟨x0, x1, x2, x3, x4⟩ := k0.four'
    obtain ⟨y0, y1, y2⟩ := k1.two
    clear hW hm r1
    have KH0 : Hid (Blk w1 w.heap.size #[.slice a1 W.gens.length c1, .slice a2 W.free.length c2, .slice a3 W.tabs.length c3, .slice a4 W.res.length c4] 43) := k0
    have KH1 : Hid (Blk w1 (w.heap.size + 1) #[.int .i64 v1, .int .i64 v2] 63) := k1
    clear k0 k1
    go_wp2_with fail
    go_region_held3 (fun w' => w'.cell? ⟨w.heap.size, 0, none⟩ = some (.slice a1 W.gens.length c1) ∧ w'.cell? ⟨w.heap.size, 1, none⟩ = some (.slice a2 W.free.length c2) ∧ w'.cell? ⟨w.heap.size, 2, none⟩ = some (.slice a3 W.tabs.length c3) ∧ w'.cell? ⟨w.heap.size, 3, none⟩ = some (.slice a4 W.res.length c4) ∧ w'.cell? ⟨w.heap.size + 1, 0, none⟩ = some (.int .i64 v1) ∧ w'.cell? ⟨w.heap.size + 1, 1, none⟩ = some (.int .i64 v2)) (simp [x0, x1, x2, x3, y0, y1])
      (first
        | (go_at_call 20; refine (toWorld_made a1 a2 a3 a4 c1 c2 c3 c4 W 0 _ (hI.later (bl_drew (Below.refl _ _))) hk).mono ?_; rintro e wa ⟨⟨g1, g2, g3, g4, rfl, hIa⟩, hba⟩; have hwa : Below w1.heap.size w1 wa := bl_trans (bl_drew (Below.refl _ _)) hba; obtain ⟨x0, x1, x2, x3, x4⟩ := (KH0.out.later hwa).four'; obtain ⟨y0, y1, y2⟩ := (KH1.out.later hwa).two)
        | (go_at_call 32; refine (toEnt_any v1 v2 _).mono ?_; rintro e wb ⟨rfl, hbb⟩; have hwb : Below w1.heap.size w1 wb := bl_trans hwa hbb; obtain ⟨x0, x1, x2, x3, x4⟩ := (KH0.out.later hwb).four'; obtain ⟨y0, y1, y2⟩ := (KH1.out.later hwb).two)
        | (go_at_call 31; refine (specWhere_any _ _ _ _ _ _ _ _ W _ v1 v2 wb (hIa.later hbb) hk).mono ?_; rintro e wc ⟨⟨r2, s2, rfl, hWh⟩, hbc⟩; have hwc : Below w1.heap.size w1 wc := bl_trans hwb hbc; obtain ⟨x0, x1, x2, x3, x4⟩ := (KH0.out.later hwc).four'; obtain ⟨y0, y1, y2⟩ := (KH1.out.later hwc).two))
    have L3 : Hid (Below w.heap.size w wc) := bl_trans L1 hwc
    have hI3 := hI.later hwc
    have K0 := KH0.out.later hwc
    have K1 := KH1.out.later hwc
    have HW2 : Hid (Wh W.tabs (v1, v2) r2 s2) := hWh
    clear KH0 KH1 hIa hba hbb hbc hwa hwb hwc hWh L1 hI
    go_wp2_with fail
    refine (toWorld_made a1 a2 a3 a4 c1 c2 c3 c4 W 0 _ hI3 hk).mono ?_
    rintro e wd ⟨⟨h1, h2, h3, h4, rfl, hId⟩, hbd⟩
    have KX := Blk.new wd #[.slice (some ⟨h1, 0, none⟩) W.gens.length W.gens.length, .slice (some ⟨h2, 0, none⟩) W.free.length W.free.length, .slice (some ⟨h3, 0, none⟩) W.tabs.length W.tabs.length, .slice (some ⟨h4, 0, none⟩) W.res.length W.res.length] 52
    have K0 := (K0.later hbd).alloc (.cells #[.slice (some ⟨h1, 0, none⟩) W.gens.length W.gens.length, .slice (some ⟨h2, 0, none⟩) W.free.length W.free.length, .slice (some ⟨h3, 0, none⟩) W.tabs.length W.tabs.length, .slice (some ⟨h4, 0, none⟩) W.res.length W.res.length] 52)
    have K1 := (K1.later hbd).alloc (.cells #[.slice (some ⟨h1, 0, none⟩) W.gens.length W.gens.length, .slice (some ⟨h2, 0, none⟩) W.free.length W.free.length, .slice (some ⟨h3, 0, none⟩) W.tabs.length W.tabs.length, .slice (some ⟨h4, 0, none⟩) W.res.length W.res.length] 52)
    have LY := bl_alloc (bl_trans L3.out hbd) (.cells #[.slice (some ⟨h1, 0, none⟩) W.gens.length W.gens.length, .slice (some ⟨h2, 0, none⟩) W.free.length W.free.length, .slice (some ⟨h3, 0, none⟩) W.tabs.length W.tabs.length, .slice (some ⟨h4, 0, none⟩) W.res.length W.res.length] 52)
    have hIx := hId.later (bl_alloc (Below.refl _ _) (.cells #[.slice (some ⟨h1, 0, none⟩) W.gens.length W.gens.length, .slice (some ⟨h2, 0, none⟩) W.free.length W.free.length, .slice (some ⟨h3, 0, none⟩) W.tabs.length W.tabs.length, .slice (some ⟨h4, 0, none⟩) W.res.length W.res.length] 52))
    have hIa := (hI3.later hbd).later (bl_alloc (Below.refl _ _) (.cells #[.slice (some ⟨h1, 0, none⟩) W.gens.length W.gens.length, .slice (some ⟨h2, 0, none⟩) W.free.length W.free.length, .slice (some ⟨h3, 0, none⟩) W.tabs.length W.tabs.length, .slice (some ⟨h4, 0, none⟩) W.res.length W.res.length] 52))
    clear x0 x1 x2 x3 x4 y0 y1 y2 L3 hI3 hId hbd
    go_wp2_with fail
    generalize hX : wd.alloc (.cells #[.slice (some ⟨h1, 0, none⟩) W.gens.length W.gens.length, .slice (some ⟨h2, 0, none⟩) W.free.length W.free.length, .slice (some ⟨h3, 0, none⟩) W.tabs.length W.tabs.length, .slice (some ⟨h4, 0, none⟩) W.res.length W.res.length] 52) = Y at KX K0 K1 LY hIx hIa ⊢
    clear hX
    obtain ⟨x0, x1, x2, x3, x4⟩ := KX.four'
    obtain ⟨y0, y1, y2⟩ := K1.two
    have KXH : Hid (Blk Y wd.heap.size #[.slice (some ⟨h1, 0, none⟩) W.gens.length W.gens.length, .slice (some ⟨h2, 0, none⟩) W.free.length W.free.length, .slice (some ⟨h3, 0, none⟩) W.tabs.length W.tabs.length, .slice (some ⟨h4, 0, none⟩) W.res.length W.res.length] 52) := KX
    have K0H : Hid (Blk Y w.heap.size #[.slice a1 W.gens.length c1, .slice a2 W.free.length c2, .slice a3 W.tabs.length c3, .slice a4 W.res.length c4] 43) := K0
    have K1H : Hid (Blk Y (w.heap.size + 1) #[.int .i64 v1, .int .i64 v2] 63) := K1
    clear KX K0 K1
    go_region_held3 (fun w' => w'.cell? ⟨wd.heap.size, 0, none⟩ = some (.slice (some ⟨h1, 0, none⟩) W.gens.length W.gens.length) ∧ w'.cell? ⟨wd.heap.size, 1, none⟩ = some (.slice (some ⟨h2, 0, none⟩) W.free.length W.free.length) ∧ w'.cell? ⟨wd.heap.size, 2, none⟩ = some (.slice (some ⟨h3, 0, none⟩) W.tabs.length W.tabs.length) ∧ w'.cell? ⟨wd.heap.size, 3, none⟩ = some (.slice (some ⟨h4, 0, none⟩) W.res.length W.res.length) ∧ w'.cell? ⟨w.heap.size + 1, 0, none⟩ = some (.int .i64 v1) ∧ w'.cell? ⟨w.heap.size + 1, 1, none⟩ = some (.int .i64 v2)) (simp [x0, x1, x2, x3, y0, y1])
      (first
        | (go_at_call 32; refine (toEnt_any v1 v2 _).mono ?_; rintro e wb ⟨rfl, hbb⟩; have hwb : Below Y.heap.size Y wb := bl_trans (bl_drew (Below.refl _ _)) hbb; obtain ⟨x0, x1, x2, x3, x4⟩ := (KXH.out.later hwb).four'; obtain ⟨y0, y1, y2⟩ := (K1H.out.later hwb).two)
        | (go_at_call 33; refine (implWhere_any _ _ _ _ _ _ _ _ W _ v1 v2 wb (hIx.later hwb) hk).mono ?_; rintro e we ⟨⟨r3, s3, rfl, hWh⟩, hbe⟩; have hwe : Below Y.heap.size Y we := bl_trans hwb hbe; obtain ⟨x0, x1, x2, x3, x4⟩ := (KXH.out.later hwe).four'; obtain ⟨y0, y1, y2⟩ := (K1H.out.later hwe).two))
    obtain ⟨rfl, rfl⟩ := HW2.out.same hWh
    have LZ : Hid (Below w.heap.size w we) := bl_trans LY hwe
    have hIx := hIx.later hwe
    have hIa := hIa.later hwe
    have K0 := K0H.out.later hwe
    obtain ⟨z0, z1, z2, z3, z4⟩ := K0.four'
    have KXH : Hid (Blk we wd.heap.size #[.slice (some ⟨h1, 0, none⟩) W.gens.length W.gens.length, .slice (some ⟨h2, 0, none⟩) W.free.length W.free.length, .slice (some ⟨h3, 0, none⟩) W.tabs.length W.tabs.length, .slice (some ⟨h4, 0, none⟩) W.res.length W.res.length] 52) := KXH.out.later hwe
    have K0H : Hid (Blk we w.heap.size #[.slice a1 W.gens.length c1, .slice a2 W.free.length c2, .slice a3 W.tabs.length c3, .slice a4 W.res.length c4] 43) := K0
    clear K0 K1H hbb hwb hbe hwe hWh HW2 LY y0 y1 y2
    go_wp2_with fail
    go_region_held3 (fun w' => w'.cell? ⟨wd.heap.size, 0, none⟩ = some (.slice (some ⟨h1, 0, none⟩) W.gens.length W.gens.length) ∧ w'.cell? ⟨wd.heap.size, 1, none⟩ = some (.slice (some ⟨h2, 0, none⟩) W.free.length W.free.length) ∧ w'.cell? ⟨wd.heap.size, 2, none⟩ = some (.slice (some ⟨h3, 0, none⟩) W.tabs.length W.tabs.length) ∧ w'.cell? ⟨wd.heap.size, 3, none⟩ = some (.slice (some ⟨h4, 0, none⟩) W.res.length W.res.length) ∧ w'.cell? ⟨w.heap.size, 0, none⟩ = some (.slice a1 W.gens.length c1) ∧ w'.cell? ⟨w.heap.size, 1, none⟩ = some (.slice a2 W.free.length c2) ∧ w'.cell? ⟨w.heap.size, 2, none⟩ = some (.slice a3 W.tabs.length c3) ∧ w'.cell? ⟨w.heap.size, 3, none⟩ = some (.slice a4 W.res.length c4)) (simp [x0, x1, x2, x3, z0, z1, z2, z3])
      (first
        | (go_at_call 20; refine (toWorld_made a1 a2 a3 a4 c1 c2 c3 c4 W 0 _ (hIa.later (bl_drew (Below.refl _ _))) hk).mono ?_; rintro e wf ⟨⟨q1, q2, q3, q4, rfl, hIf⟩, hbf⟩; have hwf : Below we.heap.size we wf := bl_trans (bl_drew (Below.refl _ _)) hbf; obtain ⟨x0, x1, x2, x3, x4⟩ := (KXH.out.later hwf).four'; obtain ⟨z0, z1, z2, z3, z4⟩ := (K0H.out.later hwf).four')
        | (go_at_call 23; refine (eqWorld_gen _ _ _ _ _ _ _ _ _ _ _ _ _ _ _ _ W _ _ wf (hIx.later hwf) hIf hk).mono ?_; rintro e wg ⟨rfl, hbg⟩; have hwg : Below we.heap.size we wg := bl_trans hwf hbg; obtain ⟨x0, x1, x2, x3, x4⟩ := (KXH.out.later hwg).four'; obtain ⟨z0, z1, z2, z3, z4⟩ := (K0H.out.later hwg).four'))
    have LQ := bl_trans LZ.out hwg
    go_wp2_with fail
    go_ret
    exact ⟨rfl, LQ⟩
end Go.Proofs.Ytmhiddepddgfgab
