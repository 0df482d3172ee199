import Derived.Test.YtgcfhoojjgcpiaaAf
import Derived.Deep.RegionHeld3
namespace Go.Proofs.Ytgcfhoojjgcpiaa
open Go.RowKit
set_option linter.unusedVariables false
set_option linter.unusedSimpArgs false

def witB (a b : Ef) : Bool := subB a.l0 b.l0 && subB a.l1 b.l1 && subB a.l2 b.l2 && subB a.l3 b.l3 && subB a.l4 b.l4 && subB a.l5 b.l5 && subB a.l6 b.l6 && subB a.l7 b.l7 && (b.sp || !a.sp) && (b.kl || !a.kl)
set_option maxRecDepth 100000 in
set_option maxHeartbeats 8000000 in
theorem specWithin_any (a0 a1 a2 a3 a4 a5 a6 a7 : Option Addr) (c0 c1 c2 c3 c4 c5 c6 c7 : Nat) (V : Ef) (b0 b1 b2 b3 b4 b5 b6 b7 : Option Addr) (d0 d1 d2 d3 d4 d5 d6 d7 : Nat) (U : Ef) (B C : Nat) (w : World) (hV : InE w B a0 a1 a2 a3 a4 a5 a6 a7 V) (hU : InE w C b0 b1 b2 b3 b4 b5 b6 b7 U) (kV : kEf V) (kU : kEf U) (cV : V.l0.length ≤ c0 ∧ V.l1.length ≤ c1 ∧ V.l2.length ≤ c2 ∧ V.l3.length ≤ c3 ∧ V.l4.length ≤ c4 ∧ V.l5.length ≤ c5 ∧ V.l6.length ≤ c6 ∧ V.l7.length ≤ c7) (cU : U.l0.length ≤ d0 ∧ U.l1.length ≤ d1 ∧ U.l2.length ≤ d2 ∧ U.l3.length ≤ d3 ∧ U.l4.length ≤ d4 ∧ U.l5.length ≤ d5 ∧ U.l6.length ≤ d6 ∧ U.l7.length ≤ d7) :
    Calls Try.prog 12 #[.agg #[.slice a0 V.l0.length c0, .slice a1 V.l1.length c1, .slice a2 V.l2.length c2, .slice a3 V.l3.length c3, .slice a4 V.l4.length c4, .slice a5 V.l5.length c5, .slice a6 V.l6.length c6, .slice a7 V.l7.length c7, .bool V.sp, .bool V.kl], .agg #[.slice b0 U.l0.length d0, .slice b1 U.l1.length d1, .slice b2 U.l2.length d2, .slice b3 U.l3.length d3, .slice b4 U.l4.length d4, .slice b5 U.l5.length d5, .slice b6 U.l6.length d6, .slice b7 U.l7.length d7, .bool U.sp, .bool U.kl]] w fun e w' => e = .returned (.bool (witB V U)) ∧ Below w.heap.size w w' := by
  obtain ⟨m0, m1, m2, m3, m4, m5, m6, m7⟩ := kV
  obtain ⟨n0, n1, n2, n3, n4, n5, n6, n7⟩ := kU
  obtain ⟨p0, p1, p2, p3, p4, p5, p6, p7⟩ := cV
  obtain ⟨q0, q1, q2, q3, q4, q5, q6, q7⟩ := cU
  obtain ⟨k0, k1, LX⟩ := blkTwoE w #[.slice a0 V.l0.length c0, .slice a1 V.l1.length c1, .slice a2 V.l2.length c2, .slice a3 V.l3.length c3, .slice a4 V.l4.length c4, .slice a5 V.l5.length c5, .slice a6 V.l6.length c6, .slice a7 V.l7.length c7, .bool V.sp, .bool V.kl] #[.slice b0 U.l0.length d0, .slice b1 U.l1.length d1, .slice b2 U.l2.length d2, .slice b3 U.l3.length d3, .slice b4 U.l4.length d4, .slice b5 U.l5.length d5, .slice b6 U.l6.length d6, .slice b7 U.l7.length d7, .bool U.sp, .bool U.kl] 27 27
  obtain ⟨x0, x1, x2, x3, x4, x5, x6, x7, x8, x9, xf⟩ := k0.ten
  obtain ⟨y0, y1, y2, y3, y4, y5, y6, y7, y8, y9, yf⟩ := k1.ten
  have HV : Hid (InE w B a0 a1 a2 a3 a4 a5 a6 a7 V) := hV
  have HU : Hid (InE w C b0 b1 b2 b3 b4 b5 b6 b7 U) := hU
  have HW : Hid (witB V U = (subB V.l0 U.l0 && subB V.l1 U.l1 && subB V.l2 U.l2 && subB V.l3 U.l3 && subB V.l4 U.l4 && subB V.l5 U.l5 && subB V.l6 U.l6 && subB V.l7 U.l7 && (U.sp || !V.sp) && (U.kl || !V.kl))) := rfl
  clear hV hU
  go_enter Try.func12, Try.ntmps12
  go_wp2_with fail
  refine (l10In_any a0 b0 c0 d0 V.l0 U.l0 B C _ (HV.out.p0.later cInt_keeps LX) (HU.out.p0.later cInt_keeps LX) p0 q0 m0 n0).mono ?_
  rintro e w1 ⟨rfl, hb1⟩
  replace LX := bl_trans LX hb1
  replace k0 := k0.later hb1
  replace k1 := k1.later hb1
  clear x0 x1 x2 x3 x4 x5 x6 x7 x8 x9 xf y0 y1 y2 y3 y4 y5 y6 y7 y8 y9 yf hb1
  obtain ⟨x0, x1, x2, x3, x4, x5, x6, x7, x8, x9, xf⟩ := k0.ten
  obtain ⟨y0, y1, y2, y3, y4, y5, y6, y7, y8, y9, yf⟩ := k1.ten
  cases hs0 : subB V.l0 U.l0
  · have hF : Hid (false = witB V U) := by show _ = _; rw [HW.out, hs0]; simp
    clear hs0 x0 x1 x2 x3 x4 x5 x6 x7 x8 x9 xf y0 y1 y2 y3 y4 y5 y6 y7 y8 y9 yf k0 k1 HV HU HW m0 m1 m2 m3 m4 m5 m6 m7 n0 n1 n2 n3 n4 n5 n6 n7 p0 p1 p2 p3 p4 p5 p6 p7 q0 q1 q2 q3 q4 q5 q6 q7
    have hud : undef = Value.tuple #[] := rfl
    go_wp2_with fail
    go_ret
    exact ⟨congrArg (fun b => Ending.returned (.bool b)) hF.out, LX⟩
  go_wp2_with fail
  refine (l10In_any a1 b1 c1 d1 V.l1 U.l1 B C _ (HV.out.p1.later cInt_keeps LX) (HU.out.p1.later cInt_keeps LX) p1 q1 m1 n1).mono ?_
  rintro e w1 ⟨rfl, hb1⟩
  replace LX := bl_trans LX hb1
  replace k0 := k0.later hb1
  replace k1 := k1.later hb1
  clear x0 x1 x2 x3 x4 x5 x6 x7 x8 x9 xf y0 y1 y2 y3 y4 y5 y6 y7 y8 y9 yf hb1
  obtain ⟨x0, x1, x2, x3, x4, x5, x6, x7, x8, x9, xf⟩ := k0.ten
  obtain ⟨y0, y1, y2, y3, y4, y5, y6, y7, y8, y9, yf⟩ := k1.ten
  cases hs1 : subB V.l1 U.l1
  · have hF : Hid (false = witB V U) := by show _ = _; rw [HW.out, hs1]; simp
    clear hs0 hs1 x0 x1 x2 x3 x4 x5 x6 x7 x8 x9 xf y0 y1 y2 y3 y4 y5 y6 y7 y8 y9 yf k0 k1 HV HU HW m0 m1 m2 m3 m4 m5 m6 m7 n0 n1 n2 n3 n4 n5 n6 n7 p0 p1 p2 p3 p4 p5 p6 p7 q0 q1 q2 q3 q4 q5 q6 q7
    have hud : undef = Value.tuple #[] := rfl
    go_wp2_with fail
    go_ret
    exact ⟨congrArg (fun b => Ending.returned (.bool b)) hF.out, LX⟩
  go_wp2_with fail
  refine (l10In_any a2 b2 c2 d2 V.l2 U.l2 B C _ (HV.out.p2.later cInt_keeps LX) (HU.out.p2.later cInt_keeps LX) p2 q2 m2 n2).mono ?_
  rintro e w1 ⟨rfl, hb1⟩
  replace LX := bl_trans LX hb1
  replace k0 := k0.later hb1
  replace k1 := k1.later hb1
  clear x0 x1 x2 x3 x4 x5 x6 x7 x8 x9 xf y0 y1 y2 y3 y4 y5 y6 y7 y8 y9 yf hb1
  obtain ⟨x0, x1, x2, x3, x4, x5, x6, x7, x8, x9, xf⟩ := k0.ten
  obtain ⟨y0, y1, y2, y3, y4, y5, y6, y7, y8, y9, yf⟩ := k1.ten
  cases hs2 : subB V.l2 U.l2
  · have hF : Hid (false = witB V U) := by show _ = _; rw [HW.out, hs2]; simp
    clear hs0 hs1 hs2 x0 x1 x2 x3 x4 x5 x6 x7 x8 x9 xf y0 y1 y2 y3 y4 y5 y6 y7 y8 y9 yf k0 k1 HV HU HW m0 m1 m2 m3 m4 m5 m6 m7 n0 n1 n2 n3 n4 n5 n6 n7 p0 p1 p2 p3 p4 p5 p6 p7 q0 q1 q2 q3 q4 q5 q6 q7
    have hud : undef = Value.tuple #[] := rfl
    go_wp2_with fail
    go_ret
    exact ⟨congrArg (fun b => Ending.returned (.bool b)) hF.out, LX⟩
  go_wp2_with fail
  refine (l10In_any a3 b3 c3 d3 V.l3 U.l3 B C _ (HV.out.p3.later cInt_keeps LX) (HU.out.p3.later cInt_keeps LX) p3 q3 m3 n3).mono ?_
  rintro e w1 ⟨rfl, hb1⟩
  replace LX := bl_trans LX hb1
  replace k0 := k0.later hb1
  replace k1 := k1.later hb1
  clear x0 x1 x2 x3 x4 x5 x6 x7 x8 x9 xf y0 y1 y2 y3 y4 y5 y6 y7 y8 y9 yf hb1
  obtain ⟨x0, x1, x2, x3, x4, x5, x6, x7, x8, x9, xf⟩ := k0.ten
  obtain ⟨y0, y1, y2, y3, y4, y5, y6, y7, y8, y9, yf⟩ := k1.ten
  cases hs3 : subB V.l3 U.l3
  · have hF : Hid (false = witB V U) := by show _ = _; rw [HW.out, hs3]; simp
    clear hs0 hs1 hs2 hs3 x0 x1 x2 x3 x4 x5 x6 x7 x8 x9 xf y0 y1 y2 y3 y4 y5 y6 y7 y8 y9 yf k0 k1 HV HU HW m0 m1 m2 m3 m4 m5 m6 m7 n0 n1 n2 n3 n4 n5 n6 n7 p0 p1 p2 p3 p4 p5 p6 p7 q0 q1 q2 q3 q4 q5 q6 q7
    have hud : undef = Value.tuple #[] := rfl
    go_wp2_with fail
    go_ret
    exact ⟨congrArg (fun b => Ending.returned (.bool b)) hF.out, LX⟩
  go_wp2_with fail
  refine (l10In_any a4 b4 c4 d4 V.l4 U.l4 B C _ (HV.out.p4.later cInt_keeps LX) (HU.out.p4.later cInt_keeps LX) p4 q4 m4 n4).mono ?_
  rintro e w1 ⟨rfl, hb1⟩
  replace LX := bl_trans LX hb1
  replace k0 := k0.later hb1
  replace k1 := k1.later hb1
  clear x0 x1 x2 x3 x4 x5 x6 x7 x8 x9 xf y0 y1 y2 y3 y4 y5 y6 y7 y8 y9 yf hb1
  obtain ⟨x0, x1, x2, x3, x4, x5, x6, x7, x8, x9, xf⟩ := k0.ten
  obtain ⟨y0, y1, y2, y3, y4, y5, y6, y7, y8, y9, yf⟩ := k1.ten
  cases hs4 : subB V.l4 U.l4
  · have hF : Hid (false = witB V U) := by show _ = _; rw [HW.out, hs4]; simp
    clear hs0 hs1 hs2 hs3 hs4 x0 x1 x2 x3 x4 x5 x6 x7 x8 x9 xf y0 y1 y2 y3 y4 y5 y6 y7 y8 y9 yf k0 k1 HV HU HW m0 m1 m2 m3 m4 m5 m6 m7 n0 n1 n2 n3 n4 n5 n6 n7 p0 p1 p2 p3 p4 p5 p6 p7 q0 q1 q2 q3 q4 q5 q6 q7
    have hud : undef = Value.tuple #[] := rfl
    go_wp2_with fail
    go_ret
    exact ⟨congrArg (fun b => Ending.returned (.bool b)) hF.out, LX⟩
  go_wp2_with fail
  refine (l10In_any a5 b5 c5 d5 V.l5 U.l5 B C _ (HV.out.p5.later cInt_keeps LX) (HU.out.p5.later cInt_keeps LX) p5 q5 m5 n5).mono ?_
  rintro e w1 ⟨rfl, hb1⟩
  replace LX := bl_trans LX hb1
  replace k0 := k0.later hb1
  replace k1 := k1.later hb1
  clear x0 x1 x2 x3 x4 x5 x6 x7 x8 x9 xf y0 y1 y2 y3 y4 y5 y6 y7 y8 y9 yf hb1
  obtain ⟨x0, x1, x2, x3, x4, x5, x6, x7, x8, x9, xf⟩ := k0.ten
  obtain ⟨y0, y1, y2, y3, y4, y5, y6, y7, y8, y9, yf⟩ := k1.ten
  cases hs5 : subB V.l5 U.l5
  · have hF : Hid (false = witB V U) := by show _ = _; rw [HW.out, hs5]; simp
    clear hs0 hs1 hs2 hs3 hs4 hs5 x0 x1 x2 x3 x4 x5 x6 x7 x8 x9 xf y0 y1 y2 y3 y4 y5 y6 y7 y8 y9 yf k0 k1 HV HU HW m0 m1 m2 m3 m4 m5 m6 m7 n0 n1 n2 n3 n4 n5 n6 n7 p0 p1 p2 p3 p4 p5 p6 p7 q0 q1 q2 q3 q4 q5 q6 q7
    have hud : undef = Value.tuple #[] := rfl
    go_wp2_with fail
    go_ret
    exact ⟨congrArg (fun b => Ending.returned (.bool b)) hF.out, LX⟩
  go_wp2_with fail
  refine (l10In_any a6 b6 c6 d6 V.l6 U.l6 B C _ (HV.out.p6.later cInt_keeps LX) (HU.out.p6.later cInt_keeps LX) p6 q6 m6 n6).mono ?_
  rintro e w1 ⟨rfl, hb1⟩
  replace LX := bl_trans LX hb1
  replace k0 := k0.later hb1
  replace k1 := k1.later hb1
  clear x0 x1 x2 x3 x4 x5 x6 x7 x8 x9 xf y0 y1 y2 y3 y4 y5 y6 y7 y8 y9 yf hb1
  obtain ⟨x0, x1, x2, x3, x4, x5, x6, x7, x8, x9, xf⟩ := k0.ten
  obtain ⟨y0, y1, y2, y3, y4, y5, y6, y7, y8, y9, yf⟩ := k1.ten
  cases hs6 : subB V.l6 U.l6
  · have hF : Hid (false = witB V U) := by show _ = _; rw [HW.out, hs6]; simp
    clear hs0 hs1 hs2 hs3 hs4 hs5 hs6 x0 x1 x2 x3 x4 x5 x6 x7 x8 x9 xf y0 y1 y2 y3 y4 y5 y6 y7 y8 y9 yf k0 k1 HV HU HW m0 m1 m2 m3 m4 m5 m6 m7 n0 n1 n2 n3 n4 n5 n6 n7 p0 p1 p2 p3 p4 p5 p6 p7 q0 q1 q2 q3 q4 q5 q6 q7
    have hud : undef = Value.tuple #[] := rfl
    go_wp2_with fail
    go_ret
    exact ⟨congrArg (fun b => Ending.returned (.bool b)) hF.out, LX⟩
  go_wp2_with fail
  refine (l10In_any a7 b7 c7 d7 V.l7 U.l7 B C _ (HV.out.p7.later cInt_keeps LX) (HU.out.p7.later cInt_keeps LX) p7 q7 m7 n7).mono ?_
  rintro e w1 ⟨rfl, hb1⟩
  replace LX := bl_trans LX hb1
  replace k0 := k0.later hb1
  replace k1 := k1.later hb1
  clear x0 x1 x2 x3 x4 x5 x6 x7 x8 x9 xf y0 y1 y2 y3 y4 y5 y6 y7 y8 y9 yf hb1
  obtain ⟨x0, x1, x2, x3, x4, x5, x6, x7, x8, x9, xf⟩ := k0.ten
  obtain ⟨y0, y1, y2, y3, y4, y5, y6, y7, y8, y9, yf⟩ := k1.ten
  cases hs7 : subB V.l7 U.l7
  · have hF : Hid (false = witB V U) := by show _ = _; rw [HW.out, hs7]; simp
    clear hs0 hs1 hs2 hs3 hs4 hs5 hs6 hs7 x0 x1 x2 x3 x4 x5 x6 x7 x8 x9 xf y0 y1 y2 y3 y4 y5 y6 y7 y8 y9 yf k0 k1 HV HU HW m0 m1 m2 m3 m4 m5 m6 m7 n0 n1 n2 n3 n4 n5 n6 n7 p0 p1 p2 p3 p4 p5 p6 p7 q0 q1 q2 q3 q4 q5 q6 q7
    have hud : undef = Value.tuple #[] := rfl
    go_wp2_with fail
    go_ret
    exact ⟨congrArg (fun b => Ending.returned (.bool b)) hF.out, LX⟩
  have HF : Hid (witB V U = ((U.sp || !V.sp) && (U.kl || !V.kl))) := by show _ = _; rw [HW.out, hs0, hs1, hs2, hs3, hs4, hs5, hs6, hs7]; simp
  clear hs0 hs1 hs2 hs3 hs4 hs5 hs6 hs7 HV HU HW k0 k1 x0 x1 x2 x3 x4 x5 x6 x7 y0 y1 y2 y3 y4 y5 y6 y7 m0 m1 m2 m3 m4 m5 m6 m7 n0 n1 n2 n3 n4 n5 n6 n7 p0 p1 p2 p3 p4 p5 p6 p7 q0 q1 q2 q3 q4 q5 q6 q7
  obtain ⟨v1, hv1⟩ : ∃ b, Hid (V.sp = b) := ⟨_, rfl⟩
  obtain ⟨v2, hv2⟩ : ∃ b, Hid (V.kl = b) := ⟨_, rfl⟩
  obtain ⟨u1, hu1⟩ : ∃ b, Hid (U.sp = b) := ⟨_, rfl⟩
  obtain ⟨u2, hu2⟩ : ∃ b, Hid (U.kl = b) := ⟨_, rfl⟩
  rw [hv1.out] at x8
  rw [hv2.out] at x9
  rw [hu1.out] at y8
  rw [hu2.out] at y9
  cases v1 <;> cases v2 <;> cases u1 <;> cases u2
  all_goals
    have hud : undef = Value.tuple #[] := rfl
    go_wp2_with fail
    (go_ret; exact ⟨congrArg (fun b => Ending.returned (.bool b)) (by rw [HF.out, hv1.out, hv2.out, hu1.out, hu2.out]; rfl), LX⟩)
end Go.Proofs.Ytgcfhoojjgcpiaa
