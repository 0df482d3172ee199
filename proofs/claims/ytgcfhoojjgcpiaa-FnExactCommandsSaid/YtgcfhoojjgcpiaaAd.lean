import Derived.Test.YtgcfhoojjgcpiaaAc
import Derived.Deep.RegionHeld3
namespace Go.Proofs.Ytgcfhoojjgcpiaa
open Go.RowKit
set_option linter.unusedVariables false
set_option linter.unusedSimpArgs false

set_option maxRecDepth 100000 in
set_option maxHeartbeats 8000000 in
theorem exactCommands_any (a0 a1 a2 a3 a4 a5 a6 a7 : Option Addr) (c0 c1 c2 c3 c4 c5 c6 c7 : Nat) (V : Ef) (w : World) (hV : InE w 0 a0 a1 a2 a3 a4 a5 a6 a7 V) (mV : mEf V) :
    Calls Try.prog 3 #[.agg #[.slice a0 V.l0.length c0, .slice a1 V.l1.length c1, .slice a2 V.l2.length c2, .slice a3 V.l3.length c3, .slice a4 V.l4.length c4, .slice a5 V.l5.length c5, .slice a6 V.l6.length c6, .slice a7 V.l7.length c7, .bool V.sp, .bool V.kl]] w fun e w' => e = .returned (.bool true) ∧ Below w.heap.size w w' := by
  have k0 := Blk.new w #[.slice a0 V.l0.length c0, .slice a1 V.l1.length c1, .slice a2 V.l2.length c2, .slice a3 V.l3.length c3, .slice a4 V.l4.length c4, .slice a5 V.l5.length c5, .slice a6 V.l6.length c6, .slice a7 V.l7.length c7, .bool V.sp, .bool V.kl] 24
  have L0 : Below w.heap.size w (w.alloc (.cells #[.slice a0 V.l0.length c0, .slice a1 V.l1.length c1, .slice a2 V.l2.length c2, .slice a3 V.l3.length c3, .slice a4 V.l4.length c4, .slice a5 V.l5.length c5, .slice a6 V.l6.length c6, .slice a7 V.l7.length c7, .bool V.sp, .bool V.kl] 24)) := bl_alloc (Below.refl _ _) _
  obtain ⟨x0, x1, x2, x3, x4, x5, x6, x7, x8, x9, xf⟩ := k0.ten
  have HV : Hid (InE w 0 a0 a1 a2 a3 a4 a5 a6 a7 V) := hV
  clear hV
  go_enter Try.func3, Try.ntmps3
  go_wp2_with fail
  refine (szEffect_gen a0 a1 a2 a3 a4 a5 a6 a7 c0 c1 c2 c3 c4 c5 c6 c7 V 1048576 _ mV (by omega) (by omega)).mono ?_
  rintro e w1 ⟨⟨r, rfl, hr⟩, hb1⟩
  have L1 := bl_trans L0 hb1
  replace k0 := k0.later hb1
  clear x0 x1 x2 x3 x4 x5 x6 x7 x8 x9 xf hb1 L0
  rcases hr with rfl | ⟨r0, r1, kv⟩
  · go_wp2_with fail
    go_ret
    exact ⟨rfl, L1⟩
  have t1 : decide (r < 0) = false := by simp; omega
  have KV : Hid (kEf V) := kv
  have KL : Hid (V.l0.length ≤ 4398046511104 ∧ V.l1.length ≤ 4398046511104 ∧ V.l2.length ≤ 4398046511104 ∧ V.l3.length ≤ 4398046511104 ∧ V.l4.length ≤ 4398046511104 ∧ V.l5.length ≤ 4398046511104 ∧ V.l6.length ≤ 4398046511104 ∧ V.l7.length ≤ 4398046511104) := by obtain ⟨m0, m1, m2, m3, m4, m5, m6, m7⟩ := kv; show _ ∧ _; omega
  clear kv mV
  obtain ⟨x0, x1, x2, x3, x4, x5, x6, x7, x8, x9, xf⟩ := k0.ten
  go_wp2_with fail
  refine (toEffect_made a0 a1 a2 a3 a4 a5 a6 a7 c0 c1 c2 c3 c4 c5 c6 c7 V 0 _ (HV.out.later L1) KV.out).mono ?_
  rintro e w2 ⟨⟨q0, q1, q2, q3, q4, q5, q6, q7, rfl, hq⟩, hb2⟩
  have L2 := bl_trans L1 hb2
  replace k0 := k0.later hb2
  clear x0 x1 x2 x3 x4 x5 x6 x7 x8 x9 xf hb2 L1 t1 r0 r1 hq
  go_wp2_with fail
  refine (specCommands_any _ _ _ _ _ _ _ _ _ _ _ _ _ _ _ _ V _).mono ?_
  rintro e w3 ⟨rfl, hb3⟩
  have L3 := bl_trans L2 hb3
  replace k0 := k0.later hb3
  clear hb3 L2
  obtain ⟨x0, x1, x2, x3, x4, x5, x6, x7, x8, x9, xf⟩ := k0.ten
  go_wp2_with fail
  refine (toEffect_made a0 a1 a2 a3 a4 a5 a6 a7 c0 c1 c2 c3 c4 c5 c6 c7 V 0 _ (HV.out.later L3) KV.out).mono ?_
  rintro e wd ⟨⟨h0, h1, h2, h3, h4, h5, h6, h7, rfl, hx⟩, hbd⟩
  have KX := Blk.new wd #[.slice (some ⟨h0, 0, none⟩) V.l0.length V.l0.length, .slice (some ⟨h1, 0, none⟩) V.l1.length V.l1.length, .slice (some ⟨h2, 0, none⟩) V.l2.length V.l2.length, .slice (some ⟨h3, 0, none⟩) V.l3.length V.l3.length, .slice (some ⟨h4, 0, none⟩) V.l4.length V.l4.length, .slice (some ⟨h5, 0, none⟩) V.l5.length V.l5.length, .slice (some ⟨h6, 0, none⟩) V.l6.length V.l6.length, .slice (some ⟨h7, 0, none⟩) V.l7.length V.l7.length, .bool V.sp, .bool V.kl] 27
  have LY : Below wd.heap.size wd (wd.alloc (.cells #[.slice (some ⟨h0, 0, none⟩) V.l0.length V.l0.length, .slice (some ⟨h1, 0, none⟩) V.l1.length V.l1.length, .slice (some ⟨h2, 0, none⟩) V.l2.length V.l2.length, .slice (some ⟨h3, 0, none⟩) V.l3.length V.l3.length, .slice (some ⟨h4, 0, none⟩) V.l4.length V.l4.length, .slice (some ⟨h5, 0, none⟩) V.l5.length V.l5.length, .slice (some ⟨h6, 0, none⟩) V.l6.length V.l6.length, .slice (some ⟨h7, 0, none⟩) V.l7.length V.l7.length, .bool V.sp, .bool V.kl] 27)) := bl_alloc (Below.refl _ _) _
  have K0 := (k0.later hbd).later LY
  have HX := hx.later LY
  have LD := bl_trans (bl_trans L3 hbd) LY
  clear x0 x1 x2 x3 x4 x5 x6 x7 x8 x9 xf hbd L3 k0 LY hx
  obtain ⟨x0, x1, x2, x3, x4, x5, x6, x7, x8, x9, xf⟩ := KX.ten
  go_wp2_with fail
  generalize hX : wd.alloc (.cells #[.slice (some ⟨h0, 0, none⟩) V.l0.length V.l0.length, .slice (some ⟨h1, 0, none⟩) V.l1.length V.l1.length, .slice (some ⟨h2, 0, none⟩) V.l2.length V.l2.length, .slice (some ⟨h3, 0, none⟩) V.l3.length V.l3.length, .slice (some ⟨h4, 0, none⟩) V.l4.length V.l4.length, .slice (some ⟨h5, 0, none⟩) V.l5.length V.l5.length, .slice (some ⟨h6, 0, none⟩) V.l6.length V.l6.length, .slice (some ⟨h7, 0, none⟩) V.l7.length V.l7.length, .bool V.sp, .bool V.kl] 27) = Y at KX K0 LD HX x0 x1 x2 x3 x4 x5 x6 x7 x8 x9 xf ⊢
  clear hX
  refine (implCommands_any _ _ _ _ _ _ _ _ _ _ _ _ _ _ _ _ V _).mono ?_
  rintro e wf ⟨rfl, hbf⟩
  have LF := bl_trans LD hbf
  replace KX := KX.later hbf
  replace K0 := K0.later hbf
  have HX : Hid (InE wf w3.heap.size (some ⟨h0, 0, none⟩) (some ⟨h1, 0, none⟩) (some ⟨h2, 0, none⟩) (some ⟨h3, 0, none⟩) (some ⟨h4, 0, none⟩) (some ⟨h5, 0, none⟩) (some ⟨h6, 0, none⟩) (some ⟨h7, 0, none⟩) V) := HX.later hbf
  clear LD hbf x0 x1 x2 x3 x4 x5 x6 x7 x8 x9 xf
  have u1 : (cmdB V != cmdB V) = false := by simp
  obtain ⟨x0, x1, x2, x3, x4, x5, x6, x7, x8, x9, xf⟩ := KX.ten
  obtain ⟨z0, z1, z2, z3, z4, z5, z6, z7, z8, z9, zf⟩ := K0.ten
  have KXH : Hid (Blk wf wd.heap.size #[.slice (some ⟨h0, 0, none⟩) V.l0.length V.l0.length, .slice (some ⟨h1, 0, none⟩) V.l1.length V.l1.length, .slice (some ⟨h2, 0, none⟩) V.l2.length V.l2.length, .slice (some ⟨h3, 0, none⟩) V.l3.length V.l3.length, .slice (some ⟨h4, 0, none⟩) V.l4.length V.l4.length, .slice (some ⟨h5, 0, none⟩) V.l5.length V.l5.length, .slice (some ⟨h6, 0, none⟩) V.l6.length V.l6.length, .slice (some ⟨h7, 0, none⟩) V.l7.length V.l7.length, .bool V.sp, .bool V.kl] 27) := KX
  have K0H : Hid (Blk wf w.heap.size #[.slice a0 V.l0.length c0, .slice a1 V.l1.length c1, .slice a2 V.l2.length c2, .slice a3 V.l3.length c3, .slice a4 V.l4.length c4, .slice a5 V.l5.length c5, .slice a6 V.l6.length c6, .slice a7 V.l7.length c7, .bool V.sp, .bool V.kl] 24) := K0
  clear KX K0
  go_wp2_with fail
  go_region_held3 (fun w' => w'.cell? ⟨wd.heap.size, 0, none⟩ = some (.slice (some ⟨h0, 0, none⟩) V.l0.length V.l0.length) ∧ w'.cell? ⟨wd.heap.size, 1, none⟩ = some (.slice (some ⟨h1, 0, none⟩) V.l1.length V.l1.length) ∧ w'.cell? ⟨wd.heap.size, 2, none⟩ = some (.slice (some ⟨h2, 0, none⟩) V.l2.length V.l2.length) ∧ w'.cell? ⟨wd.heap.size, 3, none⟩ = some (.slice (some ⟨h3, 0, none⟩) V.l3.length V.l3.length) ∧ w'.cell? ⟨wd.heap.size, 4, none⟩ = some (.slice (some ⟨h4, 0, none⟩) V.l4.length V.l4.length) ∧ w'.cell? ⟨wd.heap.size, 5, none⟩ = some (.slice (some ⟨h5, 0, none⟩) V.l5.length V.l5.length) ∧ w'.cell? ⟨wd.heap.size, 6, none⟩ = some (.slice (some ⟨h6, 0, none⟩) V.l6.length V.l6.length) ∧ w'.cell? ⟨wd.heap.size, 7, none⟩ = some (.slice (some ⟨h7, 0, none⟩) V.l7.length V.l7.length) ∧ w'.cell? ⟨wd.heap.size, 8, none⟩ = some (.bool V.sp) ∧ w'.cell? ⟨wd.heap.size, 9, none⟩ = some (.bool V.kl) ∧ w'.cell? ⟨w.heap.size, 0, none⟩ = some (.slice a0 V.l0.length c0) ∧ w'.cell? ⟨w.heap.size, 1, none⟩ = some (.slice a1 V.l1.length c1) ∧ w'.cell? ⟨w.heap.size, 2, none⟩ = some (.slice a2 V.l2.length c2) ∧ w'.cell? ⟨w.heap.size, 3, none⟩ = some (.slice a3 V.l3.length c3) ∧ w'.cell? ⟨w.heap.size, 4, none⟩ = some (.slice a4 V.l4.length c4) ∧ w'.cell? ⟨w.heap.size, 5, none⟩ = some (.slice a5 V.l5.length c5) ∧ w'.cell? ⟨w.heap.size, 6, none⟩ = some (.slice a6 V.l6.length c6) ∧ w'.cell? ⟨w.heap.size, 7, none⟩ = some (.slice a7 V.l7.length c7) ∧ w'.cell? ⟨w.heap.size, 8, none⟩ = some (.bool V.sp) ∧ w'.cell? ⟨w.heap.size, 9, none⟩ = some (.bool V.kl)) (simp [x0, x1, x2, x3, x4, x5, x6, x7, x8, x9, z0, z1, z2, z3, z4, z5, z6, z7, z8, z9])
    (first
      | (go_at_call 9; refine (toEffect_made a0 a1 a2 a3 a4 a5 a6 a7 c0 c1 c2 c3 c4 c5 c6 c7 V 0 _ (HV.out.later (bl_drew LF)) KV.out).mono ?_; rintro e wg ⟨⟨q0, q1, q2, q3, q4, q5, q6, q7, rfl, hIg⟩, hbg⟩; have hwg : Below wf.heap.size wf wg := bl_trans (bl_drew (Below.refl _ _)) hbg; obtain ⟨x0, x1, x2, x3, x4, x5, x6, x7, x8, x9, xf⟩ := (KXH.out.later hwg).ten; obtain ⟨z0, z1, z2, z3, z4, z5, z6, z7, z8, z9, zf⟩ := (K0H.out.later hwg).ten)
      | (go_at_call 11; refine (eqEffect_self _ _ _ _ _ _ _ _ _ _ _ _ _ _ _ _ _ _ _ _ _ _ _ _ _ _ _ _ _ _ _ _ V _ _ wg (HX.out.later hwg) hIg KL.out).mono ?_; rintro e wh ⟨rfl, hbh⟩; have hwh : Below wf.heap.size wf wh := bl_trans hwg hbh; obtain ⟨x0, x1, x2, x3, x4, x5, x6, x7, x8, x9, xf⟩ := (KXH.out.later hwh).ten; obtain ⟨z0, z1, z2, z3, z4, z5, z6, z7, z8, z9, zf⟩ := (K0H.out.later hwh).ten))
  have LI := bl_trans LF hwh
  clear x0 x1 x2 x3 x4 x5 x6 x7 x8 x9 xf z0 z1 z2 z3 z4 z5 z6 z7 z8 z9 zf
  go_wp2_with fail
  go_ret
  exact ⟨rfl, LI⟩
end Go.Proofs.Ytgcfhoojjgcpiaa
