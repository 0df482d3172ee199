import Derived.Test.YtgfchpbdoebmbaaC6
import Derived.Deep.RegionHeld3
namespace Go.Proofs.Ytgfchpbdoebmbaa
open Go.RowKit
set_option linter.unusedVariables false
set_option linter.unusedSimpArgs false

set_option maxRecDepth 100000 in
set_option maxHeartbeats 16000000 in
theorem implClashes_any (a0 a1 a2 a3 a4 a5 a6 a7 : Option Addr) (c0 c1 c2 c3 c4 c5 c6 c7 : Nat) (V : Ef) (b0 b1 b2 b3 b4 b5 b6 b7 : Option Addr) (d0 d1 d2 d3 d4 d5 d6 d7 : Nat) (U : Ef) (B C : Nat) (w : World) (hV : InE w B a0 a1 a2 a3 a4 a5 a6 a7 V) (hU : InE w C b0 b1 b2 b3 b4 b5 b6 b7 U) (kV : kEf V) (kU : kEf U) :
    Calls Try.prog 10 #[.agg #[.slice a0 V.l0.length c0, .slice a1 V.l1.length c1, .slice a2 V.l2.length c2, .slice a3 V.l3.length c3, .slice a4 V.l4.length c4, .slice a5 V.l5.length c5, .slice a6 V.l6.length c6, .slice a7 V.l7.length c7, .bool V.sp, .bool V.kl], .agg #[.slice b0 U.l0.length d0, .slice b1 U.l1.length d1, .slice b2 U.l2.length d2, .slice b3 U.l3.length d3, .slice b4 U.l4.length d4, .slice b5 U.l5.length d5, .slice b6 U.l6.length d6, .slice b7 U.l7.length d7, .bool U.sp, .bool U.kl]] w fun e w' => (∃ s' c', e = .returned (.slice s' (clB V U).length c') ∧ KRow w' w.heap.size (.slice s' (clB V U).length c') (clB V U)) ∧ Below w.heap.size w w' := by
  have HV := Hid.mk2 hV
  have HU := Hid.mk2 hU
  have KV := Hid.mk2 kV
  have KU := Hid.mk2 kU
  clear hV hU kV kU
  have lh0 : Hid ((hts V.l1 V.l0 U.l1 U.l0).length ≤ 16777216) := by have := hts_len V.l1 V.l0 U.l1 U.l0; have := KV.out.2.1; have := KU.out.2.1; show _ ≤ _; omega
  have lr0 : ∀ {R : List (Int × Int)}, R = ofSort 1 (hts V.l1 V.l0 U.l1 U.l0) → R.length ≤ 16777216 := fun h => by rw [h, ofSort_len]; exact lh0.out
  have lh1 : Hid ((hts V.l4 V.l3 U.l4 U.l3).length ≤ 16777216) := by have := hts_len V.l4 V.l3 U.l4 U.l3; have := KV.out.2.2.2.2.1; have := KU.out.2.2.2.2.1; show _ ≤ _; omega
  have lr1 : ∀ {R : List (Int × Int)}, R = ofSort 2 (hts V.l4 V.l3 U.l4 U.l3) → R.length ≤ 16777216 := fun h => by rw [h, ofSort_len]; exact lh1.out
  have lh2 : Hid ((hts V.l5 V.l6 U.l5 U.l6).length ≤ 16777216) := by have := hts_len V.l5 V.l6 U.l5 U.l6; have := KV.out.2.2.2.2.2.1; have := KU.out.2.2.2.2.2.1; show _ ≤ _; omega
  have lr2 : ∀ {R : List (Int × Int)}, R = ofSort 3 (hts V.l5 V.l6 U.l5 U.l6) → R.length ≤ 16777216 := fun h => by rw [h, ofSort_len]; exact lh2.out
  obtain ⟨k0, k1, L0⟩ := blkTwoE w #[.slice a0 V.l0.length c0, .slice a1 V.l1.length c1, .slice a2 V.l2.length c2, .slice a3 V.l3.length c3, .slice a4 V.l4.length c4, .slice a5 V.l5.length c5, .slice a6 V.l6.length c6, .slice a7 V.l7.length c7, .bool V.sp, .bool V.kl] #[.slice b0 U.l0.length d0, .slice b1 U.l1.length d1, .slice b2 U.l2.length d2, .slice b3 U.l3.length d3, .slice b4 U.l4.length d4, .slice b5 U.l5.length d5, .slice b6 U.l6.length d6, .slice b7 U.l7.length d7, .bool U.sp, .bool U.kl] 28 28
  obtain ⟨x0, x1, x2, x3, x4, x5, x6, x7, x8, x9, xf⟩ := k0.ten
  obtain ⟨y0, y1, y2, y3, y4, y5, y6, y7, y8, y9, yf⟩ := k1.ten
  go_enter Try.func10, Try.ntmps10
  go_wp2_with fail
  generalize (w.alloc (.cells #[.slice a0 V.l0.length c0, .slice a1 V.l1.length c1, .slice a2 V.l2.length c2, .slice a3 V.l3.length c3, .slice a4 V.l4.length c4, .slice a5 V.l5.length c5, .slice a6 V.l6.length c6, .slice a7 V.l7.length c7, .bool V.sp, .bool V.kl] 28)).alloc (.cells #[.slice b0 U.l0.length d0, .slice b1 U.l1.length d1, .slice b2 U.l2.length d2, .slice b3 U.l3.length d3, .slice b4 U.l4.length d4, .slice b5 U.l5.length d5, .slice b6 U.l6.length d6, .slice b7 U.l7.length d7, .bool U.sp, .bool U.kl] 28) = X0 at k0 k1 L0 x0 x1 x2 x3 x4 x5 x6 x7 x8 x9 xf y0 y1 y2 y3 y4 y5 y6 y7 y8 y9 yf ⊢
  have K0 := Hid.mk2 k0
  have K1 := Hid.mk2 k1
  have LL := Hid.mk2 L0
  clear k0 k1 L0
  go_region_held3 (fun w' => w'.cell? ⟨w.heap.size, 0, none⟩ = some (.slice a0 V.l0.length c0) ∧ w'.cell? ⟨w.heap.size, 1, none⟩ = some (.slice a1 V.l1.length c1) ∧ w'.cell? ⟨w.heap.size, 3, none⟩ = some (.slice a3 V.l3.length c3) ∧ w'.cell? ⟨w.heap.size, 4, none⟩ = some (.slice a4 V.l4.length c4) ∧ w'.cell? ⟨w.heap.size, 5, none⟩ = some (.slice a5 V.l5.length c5) ∧ w'.cell? ⟨w.heap.size, 6, none⟩ = some (.slice a6 V.l6.length c6) ∧ w'.cell? ⟨w.heap.size + 1, 0, none⟩ = some (.slice b0 U.l0.length d0) ∧ w'.cell? ⟨w.heap.size + 1, 1, none⟩ = some (.slice b1 U.l1.length d1) ∧ w'.cell? ⟨w.heap.size + 1, 3, none⟩ = some (.slice b3 U.l3.length d3) ∧ w'.cell? ⟨w.heap.size + 1, 4, none⟩ = some (.slice b4 U.l4.length d4) ∧ w'.cell? ⟨w.heap.size + 1, 5, none⟩ = some (.slice b5 U.l5.length d5) ∧ w'.cell? ⟨w.heap.size + 1, 6, none⟩ = some (.slice b6 U.l6.length d6)) (first | (simp [x0, x1, x2, x3, x4, x5, x6, x7, x8, x9, y0, y1, y2, y3, y4, y5, y6, y7, y8, y9]; done) | (simp [aw6, aw7, x0, x1, x2, x3, x4, x5, x6, x7, x8, x9, y0, y1, y2, y3, y4, y5, y6, y7, y8, y9]; done))
    (first
      | (go_at_call 26; have b7 : Below w6.heap.size w6 (w6.alloc (.cells #[.slice p0 R0.length r0, .slice p1 R1.length r1, .slice p2 R2.length r2] 26)) := bl_alloc (Below.refl _ _) _; refine (concatK_any (some ⟨w6.heap.size, 0, none⟩) 3 [R0, R1, R2] 0 _ (threeK (Blk.new w6 #[.slice p0 R0.length r0, .slice p1 R1.length r1, .slice p2 R2.length r2] 26) ((((kr0.later (bl_trans (bl_trans (bl_trans hb3 hb4) hb5) hb6)).later b7).mono (Nat.zero_le _)).els) ((((kr1.later (bl_trans hb5 hb6)).later b7).mono (Nat.zero_le _)).els) (((kr2.later b7).mono (Nat.zero_le _)).els)) (by simp) (by have := lr0 hr0.out; have := lr1 hr1.out; have := lr2 hr2.out; simp; omega)).mono ?_; rintro e w8 ⟨⟨s9, c9, R, rfl, hO, hRq⟩, hb8⟩; have hR := Hid.mk2 hRq; clear hRq; have hw8 : Below X0.heap.size X0 w8 := bl_trans (bl_trans hw6 b7) hb8; obtain ⟨x0, x1, x2, x3, x4, x5, x6, x7, x8, x9, xf⟩ := (K0.out.later hw8).ten; obtain ⟨y0, y1, y2, y3, y4, y5, y6, y7, y8, y9, yf⟩ := (K1.out.later hw8).ten)
      | (go_at_call 27; first
          | (refine (clashesAt_any 3 t2 q2 (hts V.l5 V.l6 U.l5 U.l6) _ w5 o2 (by have := lh2.out; omega)).mono ?_; rintro e w6 ⟨⟨p2, r2, R2, rfl, kr2, hq2⟩, hb6⟩; have hr2 := Hid.mk2 hq2; clear hq2; have hw6 : Below X0.heap.size X0 w6 := bl_trans hw5 hb6; obtain ⟨x0, x1, x2, x3, x4, x5, x6, x7, x8, x9, xf⟩ := (K0.out.later hw6).ten; obtain ⟨y0, y1, y2, y3, y4, y5, y6, y7, y8, y9, yf⟩ := (K1.out.later hw6).ten; have aw6 : ∀ ob o, (w6.alloc ob).cell? ⟨w.heap.size, o, none⟩ = w6.cell? ⟨w.heap.size, o, none⟩ := fun ob o => (bl_alloc (Below.refl _ w6) ob).cell (p := ⟨w.heap.size, o, none⟩) (K0.out.later hw6).lt; have aw7 : ∀ ob o, (w6.alloc ob).cell? ⟨w.heap.size + 1, o, none⟩ = w6.cell? ⟨w.heap.size + 1, o, none⟩ := fun ob o => (bl_alloc (Below.refl _ w6) ob).cell (p := ⟨w.heap.size + 1, o, none⟩) (K1.out.later hw6).lt)
          | (refine (clashesAt_any 2 t1 q1 (hts V.l4 V.l3 U.l4 U.l3) _ w3 o1 (by have := lh1.out; omega)).mono ?_; rintro e w4 ⟨⟨p1, r1, R1, rfl, kr1, hq1⟩, hb4⟩; have hr1 := Hid.mk2 hq1; clear hq1; have hw4 : Below X0.heap.size X0 w4 := bl_trans hw3 hb4; obtain ⟨x0, x1, x2, x3, x4, x5, x6, x7, x8, x9, xf⟩ := (K0.out.later hw4).ten; obtain ⟨y0, y1, y2, y3, y4, y5, y6, y7, y8, y9, yf⟩ := (K1.out.later hw4).ten)
          | (refine (clashesAt_any 1 t0 q0 (hts V.l1 V.l0 U.l1 U.l0) _ w1 o0 (by have := lh0.out; omega)).mono ?_; rintro e w2 ⟨⟨p0, r0, R0, rfl, kr0, hq0⟩, hb2⟩; have hr0 := Hid.mk2 hq0; clear hq0; have hw2 : Below X0.heap.size X0 w2 := bl_trans hw1 hb2; obtain ⟨x0, x1, x2, x3, x4, x5, x6, x7, x8, x9, xf⟩ := (K0.out.later hw2).ten; obtain ⟨y0, y1, y2, y3, y4, y5, y6, y7, y8, y9, yf⟩ := (K1.out.later hw2).ten))
      | (go_at_call 28; first
          | (refine (clashing_any a5 a6 b5 b6 c5 c6 d5 d6 V.l5 V.l6 U.l5 U.l6 _ _ _ _ _ (HV.out.later (bl_trans LL.out hw4)).p5 (HV.out.later (bl_trans LL.out hw4)).p6 (HU.out.later (bl_trans LL.out hw4)).p5 (HU.out.later (bl_trans LL.out hw4)).p6 (Nat.le_trans KV.out.2.2.2.2.2.1 (by omega)) (Nat.le_trans KV.out.2.2.2.2.2.2.1 (by omega)) (Nat.le_trans KU.out.2.2.2.2.2.1 (by omega)) (Nat.le_trans KU.out.2.2.2.2.2.2.1 (by omega))).mono ?_; rintro e w5 ⟨⟨t2, q2, rfl, o2⟩, hb5⟩; have hw5 : Below X0.heap.size X0 w5 := bl_trans (hw4) hb5; obtain ⟨x0, x1, x2, x3, x4, x5, x6, x7, x8, x9, xf⟩ := (K0.out.later hw5).ten; obtain ⟨y0, y1, y2, y3, y4, y5, y6, y7, y8, y9, yf⟩ := (K1.out.later hw5).ten)
          | (refine (clashing_any a4 a3 b4 b3 c4 c3 d4 d3 V.l4 V.l3 U.l4 U.l3 _ _ _ _ _ (HV.out.later (bl_trans LL.out hw2)).p4 (HV.out.later (bl_trans LL.out hw2)).p3 (HU.out.later (bl_trans LL.out hw2)).p4 (HU.out.later (bl_trans LL.out hw2)).p3 (Nat.le_trans KV.out.2.2.2.2.1 (by omega)) (Nat.le_trans KV.out.2.2.2.1 (by omega)) (Nat.le_trans KU.out.2.2.2.2.1 (by omega)) (Nat.le_trans KU.out.2.2.2.1 (by omega))).mono ?_; rintro e w3 ⟨⟨t1, q1, rfl, o1⟩, hb3⟩; have hw3 : Below X0.heap.size X0 w3 := bl_trans (hw2) hb3; obtain ⟨x0, x1, x2, x3, x4, x5, x6, x7, x8, x9, xf⟩ := (K0.out.later hw3).ten; obtain ⟨y0, y1, y2, y3, y4, y5, y6, y7, y8, y9, yf⟩ := (K1.out.later hw3).ten)
          | (refine (clashing_any a1 a0 b1 b0 c1 c0 d1 d0 V.l1 V.l0 U.l1 U.l0 _ _ _ _ _ (HV.out.later (bl_drew LL.out)).p1 (HV.out.later (bl_drew LL.out)).p0 (HU.out.later (bl_drew LL.out)).p1 (HU.out.later (bl_drew LL.out)).p0 (Nat.le_trans KV.out.2.1 (by omega)) (Nat.le_trans KV.out.1 (by omega)) (Nat.le_trans KU.out.2.1 (by omega)) (Nat.le_trans KU.out.1 (by omega))).mono ?_; rintro e w1 ⟨⟨t0, q0, rfl, o0⟩, hb1⟩; have hw1 : Below X0.heap.size X0 w1 := bl_trans (bl_drew (Below.refl _ _)) hb1; obtain ⟨x0, x1, x2, x3, x4, x5, x6, x7, x8, x9, xf⟩ := (K0.out.later hw1).ten; obtain ⟨y0, y1, y2, y3, y4, y5, y6, y7, y8, y9, yf⟩ := (K1.out.later hw1).ten)))
  have L9 : Hid (Below w.heap.size w w8) := bl_trans LL.out hw8
  have HR : Hid (R = clB V U) := by show R = _; rw [hR.out, hr0.out, hr1.out, hr2.out]; simp [clB]
  have HO : Hid (KRow w8 w.heap.size (.slice s9 R.length c9) R) := hO.mono (by have := LL.out.size; have := hw6.size; simp; omega)
  clear x0 x1 x2 x3 x4 x5 x6 x7 x8 x9 xf y0 y1 y2 y3 y4 y5 y6 y7 y8 y9 yf hr0 hr1 hr2 hR hO
  go_wp2_with fail
  go_ret
  have e9 := HR.out
  subst e9
  exact ⟨⟨s9, c9, rfl, HO.out⟩, L9.out⟩

set_option maxRecDepth 100000 in
set_option maxHeartbeats 4000000 in
theorem implApart_any (a0 a1 a2 a3 a4 a5 a6 a7 : Option Addr) (c0 c1 c2 c3 c4 c5 c6 c7 : Nat) (V : Ef) (b0 b1 b2 b3 b4 b5 b6 b7 : Option Addr) (d0 d1 d2 d3 d4 d5 d6 d7 : Nat) (U : Ef) (B C : Nat) (w : World) (hV : InE w B a0 a1 a2 a3 a4 a5 a6 a7 V) (hU : InE w C b0 b1 b2 b3 b4 b5 b6 b7 U) (kV : kEf V) (kU : kEf U) :
    Calls Try.prog 19 #[.agg #[.slice a0 V.l0.length c0, .slice a1 V.l1.length c1, .slice a2 V.l2.length c2, .slice a3 V.l3.length c3, .slice a4 V.l4.length c4, .slice a5 V.l5.length c5, .slice a6 V.l6.length c6, .slice a7 V.l7.length c7, .bool V.sp, .bool V.kl], .agg #[.slice b0 U.l0.length d0, .slice b1 U.l1.length d1, .slice b2 U.l2.length d2, .slice b3 U.l3.length d3, .slice b4 U.l4.length d4, .slice b5 U.l5.length d5, .slice b6 U.l6.length d6, .slice b7 U.l7.length d7, .bool U.sp, .bool U.kl]] w fun e w' => e = .returned (.bool (decide (clB V U = []))) ∧ Below w.heap.size w w' := by
  obtain ⟨k0, k1, L0⟩ := blkTwoE w #[.slice a0 V.l0.length c0, .slice a1 V.l1.length c1, .slice a2 V.l2.length c2, .slice a3 V.l3.length c3, .slice a4 V.l4.length c4, .slice a5 V.l5.length c5, .slice a6 V.l6.length c6, .slice a7 V.l7.length c7, .bool V.sp, .bool V.kl] #[.slice b0 U.l0.length d0, .slice b1 U.l1.length d1, .slice b2 U.l2.length d2, .slice b3 U.l3.length d3, .slice b4 U.l4.length d4, .slice b5 U.l5.length d5, .slice b6 U.l6.length d6, .slice b7 U.l7.length d7, .bool U.sp, .bool U.kl] 28 28
  obtain ⟨x0, x1, x2, x3, x4, x5, x6, x7, x8, x9, xf⟩ := k0.ten
  obtain ⟨y0, y1, y2, y3, y4, y5, y6, y7, y8, y9, yf⟩ := k1.ten
  go_enter Try.func19, Try.ntmps19
  go_wp2_with fail
  refine (implClashes_any a0 a1 a2 a3 a4 a5 a6 a7 c0 c1 c2 c3 c4 c5 c6 c7 V b0 b1 b2 b3 b4 b5 b6 b7 d0 d1 d2 d3 d4 d5 d6 d7 U B C _ (hV.later L0) (hU.later L0) kV kU ).mono ?_
  rintro e w1 ⟨⟨s1, c1, rfl, h1⟩, hb1⟩
  have L1 := bl_trans L0 hb1
  have ld : (((clB V U).length : Int) == 0) = decide (clB V U = []) := by
    cases clB V U with
    | nil => rfl
    | cons p l => simp; omega
  clear h1 hb1 L0
  go_wp2_with fail
  go_ret
  exact ⟨rfl, L1⟩
end Go.Proofs.Ytgfchpbdoebmbaa
