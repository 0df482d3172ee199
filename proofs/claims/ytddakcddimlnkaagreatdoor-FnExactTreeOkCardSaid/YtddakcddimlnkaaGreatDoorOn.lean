import Derived.Test.YtddakcddimlnkaaGreatDoorOm
import Derived.Test.YtddakcddimlnkaaGreatDoorJb
import Derived.Test.YtddakcddimlnkaaGreatDoorJc
import Derived.Deep.RegionHeld3
namespace Go.Proofs.YtddakcddimlnkaaGreatDoor
open Go.RowKit
set_option linter.unusedVariables false
set_option linter.unusedSimpArgs false

set_option maxRecDepth 100000 in
set_option maxHeartbeats 4000000 in
theorem exactTreeOk_any (a1 a2 : Option Addr) (c1 c2 : Nat) (V : Tre) (w : World) (hV : InT w 0 a1 a2 V) (mV : mTre V) :
    Calls Tryz.prog 3 #[.agg #[.slice a1 V.nodes.length c1, .slice a2 V.tops.length c2]] w fun e w' => e = .returned (.bool true) ∧ Below w.heap.size w w' := by
  have hal := alloc_old
  have haf := alloc_oldf
  have k0 := Blk.new w #[.slice a1 V.nodes.length c1, .slice a2 V.tops.length c2] 25
  have L0 := bl_alloc (Below.refl _ w) (.cells #[.slice a1 V.nodes.length c1, .slice a2 V.tops.length c2] 25)
  obtain ⟨x0, x1, x2⟩ := k0.two
  go_enter Tryz.func3, Tryz.ntmps3
  go_wp2_with fail
  refine (szTree_gen a1 a2 c1 c2 V 0 1048576 _ (hV.later L0) mV (by omega) (by omega)).mono ?_
  rintro e w1 ⟨⟨r, rfl, hr⟩, hb1⟩
  have L1 := bl_trans L0 hb1
  have k0 := k0.later hb1
  clear x0 x1 x2 hb1 L0
  rcases hr with rfl | ⟨r0, r1, kv⟩
  · go_wp2_with fail
    go_ret
    exact ⟨rfl, L1⟩
  have t1 : decide (r < 0) = false := by simp; omega
  have hI := hV.later L1
  obtain ⟨x0, x1, x2⟩ := k0.two
  clear hV mV r1
  go_wp2_with fail
  refine (toTree_made a1 a2 c1 c2 V 0 _ hI kv).mono ?_
  rintro e wa ⟨⟨h1, h2, rfl, hIa⟩, hba⟩
  have La := bl_trans L1 hba
  clear x0 x1 x2 t1
  go_wp2_with fail
  refine (specTreeOk_any V _ _ _ _ _ _ hIa kv).mono ?_
  rintro e wc ⟨rfl, hbc⟩
  have Lc := bl_trans La hbc
  have K0 := (k0.later hba).later hbc
  have hI := (hI.later hba).later hbc
  clear hIa hba hbc La L1 k0
  obtain ⟨x0, x1, x2⟩ := K0.two
  go_wp2_with fail
  refine (toTree_made a1 a2 c1 c2 V 0 _ hI kv).mono ?_
  rintro e wd ⟨⟨h1, h2, rfl, hx⟩, hbd⟩
  have LD := bl_trans Lc hbd
  have KX := Blk.new wd #[.slice (some ⟨h1, 0, none⟩) V.nodes.length V.nodes.length, .slice (some ⟨h2, 0, none⟩) V.tops.length V.tops.length] 30
  have LY : Below wd.heap.size wd (wd.alloc (.cells #[.slice (some ⟨h1, 0, none⟩) V.nodes.length V.nodes.length, .slice (some ⟨h2, 0, none⟩) V.tops.length V.tops.length] 30)) := bl_alloc (Below.refl _ _) _
  have K0 := (K0.later hbd).later LY
  have hI := (hI.later hbd).later LY
  have hx := hx.later LY
  have LD := bl_trans LD LY
  clear x0 x1 x2 Lc hbd LY
  obtain ⟨x0, x1, x2⟩ := KX.two
  go_wp2_with fail
  generalize hZ : wd.alloc (.cells #[.slice (some ⟨h1, 0, none⟩) V.nodes.length V.nodes.length, .slice (some ⟨h2, 0, none⟩) V.tops.length V.tops.length] 30) = Z at KX K0 LD hI hx x0 x1 x2 ⊢
  clear hZ
  refine (implTreeOk_any V _ _ _ _ _ Z hx kv).mono ?_
  rintro e wf ⟨rfl, hbf⟩
  have LF := bl_trans LD hbf
  have KX := KX.later hbf
  have K0 := K0.later hbf
  have hI := hI.later hbf
  have hx := hx.later hbf
  clear LD hbf x0 x1 x2
  obtain ⟨x0, x1, x2⟩ := KX.two
  obtain ⟨z0, z1, z2⟩ := K0.two
  have KXH : Hid (Blk wf wd.heap.size #[.slice (some ⟨h1, 0, none⟩) V.nodes.length V.nodes.length, .slice (some ⟨h2, 0, none⟩) V.tops.length V.tops.length] 30) := KX
  have K0H : Hid (Blk wf w.heap.size #[.slice a1 V.nodes.length c1, .slice a2 V.tops.length c2] 25) := K0
  have qb : ((treB V) != (treB V)) = false := by simp
  generalize treB V = tb at qb ⊢
  go_wp2_with fail
  go_region_held3 (fun w' => w'.cell? ⟨wd.heap.size, 0, none⟩ = some (.slice (some ⟨h1, 0, none⟩) V.nodes.length V.nodes.length) ∧ w'.cell? ⟨wd.heap.size, 1, none⟩ = some (.slice (some ⟨h2, 0, none⟩) V.tops.length V.tops.length) ∧ w'.cell? ⟨w.heap.size, 0, none⟩ = some (.slice a1 V.nodes.length c1) ∧ w'.cell? ⟨w.heap.size, 1, none⟩ = some (.slice a2 V.tops.length c2)) (simp [x0, x1, z0, z1])
    (first
      | (go_at_call 7; refine (toTree_made a1 a2 c1 c2 V 0 _ (hI.later (bl_drew (Below.refl _ _))) kv).mono ?_; rintro e wg ⟨⟨q1, q2, rfl, hIg⟩, hbg⟩; have hwg : Below wf.heap.size wf wg := bl_trans (bl_drew (Below.refl _ _)) hbg; obtain ⟨x0, x1, x2⟩ := (KXH.out.later hwg).two; obtain ⟨z0, z1, z2⟩ := (K0H.out.later hwg).two)
      | (go_at_call 9; refine (eqTree_self _ _ _ _ _ _ _ _ V _ _ wg (hx.later hwg) hIg kv).mono ?_; rintro e wh ⟨rfl, hbh⟩; have hwh : Below wf.heap.size wf wh := bl_trans hwg hbh; obtain ⟨x0, x1, x2⟩ := (KXH.out.later hwh).two; obtain ⟨z0, z1, z2⟩ := (K0H.out.later hwh).two))
  have LH := bl_trans LF hwh
  go_wp2_with fail
  go_ret
  exact ⟨rfl, LH⟩
end Go.Proofs.YtddakcddimlnkaaGreatDoor
