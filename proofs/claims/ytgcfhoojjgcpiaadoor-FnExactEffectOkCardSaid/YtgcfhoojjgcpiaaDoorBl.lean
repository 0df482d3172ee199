import Derived.Test.YtgcfhoojjgcpiaaDoorBj
import Derived.Test.YtgcfhoojjgcpiaaDoorMm
import Derived.Deep.QuietTactic
import Derived.BigQuiet
namespace Go.Proofs.YtgcfhoojjgcpiaaDoor
open Go.RowKit
set_option linter.unusedVariables false
set_option linter.unusedSimpArgs false

def efB (A B C : List (ByteArray × Int)) (e : Ef) : Bool := okR A B C && (risB e.l0 A.length && risB e.l1 A.length && risB e.l2 A.length && risB e.l7 A.length && risB e.l3 B.length && risB e.l4 B.length && risB e.l5 C.length && risB e.l6 C.length)
theorem okR_lens {A B C : List (ByteArray × Int)} (h : okR A B C = true) : A.length ≤ 12 ∧ B.length ≤ 12 ∧ C.length ≤ 12 := by
  simp only [okR, Bool.and_eq_true, decide_eq_true_eq] at h
  omega
set_option maxRecDepth 100000 in
set_option maxHeartbeats 8000000 in
theorem specEffectOk_any (p1 q1 y1 p2 q2 y2 p3 q3 y3 : Nat) (A B C : List (ByteArray × Int)) (s0 s1 s2 s3 s4 s5 s6 s7 : Option Addr) (c0 c1 c2 c3 c4 c5 c6 c7 : Nat) (e : Ef) (B0 : Nat) (w : World) (hA : Decls w (some ⟨p1, q1, none⟩) A) (hB : Decls w (some ⟨p2, q2, none⟩) B) (hC : Decls w (some ⟨p3, q3, none⟩) C) (hE : InE w B0 s0 s1 s2 s3 s4 s5 s6 s7 e) (hk : kEf e) :
    Calls Tryd.prog 6 #[.agg #[.slice (some ⟨p1, q1, none⟩) A.length y1, .slice (some ⟨p2, q2, none⟩) B.length y2, .slice (some ⟨p3, q3, none⟩) C.length y3], .agg #[.slice s0 e.l0.length c0, .slice s1 e.l1.length c1, .slice s2 e.l2.length c2, .slice s3 e.l3.length c3, .slice s4 e.l4.length c4, .slice s5 e.l5.length c5, .slice s6 e.l6.length c6, .slice s7 e.l7.length c7, .bool e.sp, .bool e.kl]] w fun z w' => z = .returned (.bool (efB A B C e)) ∧ Below w.heap.size w w' := by
  obtain ⟨m0, m1, m2, m3, m4, m5, m6, m7⟩ := hk
  obtain ⟨k0, k1, LX⟩ := blkTwoE w #[.slice (some ⟨p1, q1, none⟩) A.length y1, .slice (some ⟨p2, q2, none⟩) B.length y2, .slice (some ⟨p3, q3, none⟩) C.length y3] #[.slice s0 e.l0.length c0, .slice s1 e.l1.length c1, .slice s2 e.l2.length c2, .slice s3 e.l3.length c3, .slice s4 e.l4.length c4, .slice s5 e.l5.length c5, .slice s6 e.l6.length c6, .slice s7 e.l7.length c7, .bool e.sp, .bool e.kl] 33 35
  obtain ⟨x0, x1, x2, x3⟩ := k0.three
  have HE : Hid (InE w B0 s0 s1 s2 s3 s4 s5 s6 s7 e) := hE
  have HW : Hid (efB A B C e = (okR A B C && (risB e.l0 A.length && risB e.l1 A.length && risB e.l2 A.length && risB e.l7 A.length && risB e.l3 B.length && risB e.l4 B.length && risB e.l5 C.length && risB e.l6 C.length))) := rfl
  have ha := Hid.mk2 (hA.later LX)
  have hb := Hid.mk2 (hB.later LX)
  have hc := Hid.mk2 (hC.later LX)
  clear hE hA hB hC
  go_enter Tryd.func6, Tryd.ntmps6
  go_wp2_with fail
  refine (specRegOk_any p1 q1 y1 p2 q2 y2 p3 q3 y3 A B C _ ha.out hb.out hc.out).mono ?_
  rintro z w1 ⟨rfl, hb1⟩
  replace LX := bl_trans LX hb1
  replace k0 := k0.later hb1
  replace k1 := k1.later hb1
  clear x0 x1 x2 x3 hb1 ha hb hc
  cases hr : okR A B C
  · have hF : Hid (false = efB A B C e) := by show _ = _; rw [HW.out, hr]; rfl
    clear hr HW k0 k1 HE
    go_wp2_with fail
    go_ret
    exact ⟨congrArg (fun b => Ending.returned (.bool b)) hF.out, LX⟩
  obtain ⟨l1, l2, l3⟩ := okR_lens hr
  have HR := Hid.mk2 hr
  obtain ⟨x0, x1, x2, x3⟩ := k0.three
  clear hr
  go_wp2_with fail
  go_quiet (fail)
  have LX := bl_drewN LX nq
  have k1 : Blk (w1.drewN nq) (w.heap.size + 1) #[.slice s0 e.l0.length c0, .slice s1 e.l1.length c1, .slice s2 e.l2.length c2, .slice s3 e.l3.length c3, .slice s4 e.l4.length c4, .slice s5 e.l5.length c5, .slice s6 e.l6.length c6, .slice s7 e.l7.length c7, .bool e.sp, .bool e.kl] 35 := k1
  clear x0 x1 x2 x3 k0
  generalize hX : w1.drewN nq = W0 at LX k1 ⊢
  clear hX
  obtain ⟨x0, x1, x2, x3, x4, x5, x6, x7, x8, x9, xf⟩ := k1.ten
  go_wp2_with fail
  refine (l4Rising_any s0 c0 e.l0 B0 A.length _ (HE.out.p0.later cInt_keeps LX) m0 (by omega)).mono ?_
  rintro z w2 ⟨rfl, hb1⟩
  replace LX := bl_trans LX hb1
  replace k1 := k1.later hb1
  clear x0 x1 x2 x3 x4 x5 x6 x7 x8 x9 xf hb1
  obtain ⟨x0, x1, x2, x3, x4, x5, x6, x7, x8, x9, xf⟩ := k1.ten
  cases hs0 : risB e.l0 A.length
  · have hF : Hid (false = efB A B C e) := by show _ = _; rw [HW.out, hs0]; simp
    clear hs0 x0 x1 x2 x3 x4 x5 x6 x7 x8 x9 xf k1 HE HW HR m0 m1 m2 m3 m4 m5 m6 m7
    have hud : undef = Value.tuple #[] := rfl
    go_wp2_with fail
    go_ret
    exact ⟨congrArg (fun b => Ending.returned (.bool b)) hF.out, LX⟩
  go_wp2_with fail
  refine (l4Rising_any s1 c1 e.l1 B0 A.length _ (HE.out.p1.later cInt_keeps LX) m1 (by omega)).mono ?_
  rintro z w3 ⟨rfl, hb1⟩
  replace LX := bl_trans LX hb1
  replace k1 := k1.later hb1
  clear x0 x1 x2 x3 x4 x5 x6 x7 x8 x9 xf hb1
  obtain ⟨x0, x1, x2, x3, x4, x5, x6, x7, x8, x9, xf⟩ := k1.ten
  cases hs1 : risB e.l1 A.length
  · have hF : Hid (false = efB A B C e) := by show _ = _; rw [HW.out, hs1]; simp
    clear hs0 hs1 x0 x1 x2 x3 x4 x5 x6 x7 x8 x9 xf k1 HE HW HR m0 m1 m2 m3 m4 m5 m6 m7
    have hud : undef = Value.tuple #[] := rfl
    go_wp2_with fail
    go_ret
    exact ⟨congrArg (fun b => Ending.returned (.bool b)) hF.out, LX⟩
  go_wp2_with fail
  refine (l4Rising_any s2 c2 e.l2 B0 A.length _ (HE.out.p2.later cInt_keeps LX) m2 (by omega)).mono ?_
  rintro z w4 ⟨rfl, hb1⟩
  replace LX := bl_trans LX hb1
  replace k1 := k1.later hb1
  clear x0 x1 x2 x3 x4 x5 x6 x7 x8 x9 xf hb1
  obtain ⟨x0, x1, x2, x3, x4, x5, x6, x7, x8, x9, xf⟩ := k1.ten
  cases hs2 : risB e.l2 A.length
  · have hF : Hid (false = efB A B C e) := by show _ = _; rw [HW.out, hs2]; simp
    clear hs0 hs1 hs2 x0 x1 x2 x3 x4 x5 x6 x7 x8 x9 xf k1 HE HW HR m0 m1 m2 m3 m4 m5 m6 m7
    have hud : undef = Value.tuple #[] := rfl
    go_wp2_with fail
    go_ret
    exact ⟨congrArg (fun b => Ending.returned (.bool b)) hF.out, LX⟩
  go_wp2_with fail
  refine (l4Rising_any s7 c7 e.l7 B0 A.length _ (HE.out.p7.later cInt_keeps LX) m7 (by omega)).mono ?_
  rintro z w5 ⟨rfl, hb1⟩
  replace LX := bl_trans LX hb1
  replace k1 := k1.later hb1
  clear x0 x1 x2 x3 x4 x5 x6 x7 x8 x9 xf hb1
  obtain ⟨x0, x1, x2, x3, x4, x5, x6, x7, x8, x9, xf⟩ := k1.ten
  cases hs7 : risB e.l7 A.length
  · have hF : Hid (false = efB A B C e) := by show _ = _; rw [HW.out, hs7]; simp
    clear hs0 hs1 hs2 hs7 x0 x1 x2 x3 x4 x5 x6 x7 x8 x9 xf k1 HE HW HR m0 m1 m2 m3 m4 m5 m6 m7
    have hud : undef = Value.tuple #[] := rfl
    go_wp2_with fail
    go_ret
    exact ⟨congrArg (fun b => Ending.returned (.bool b)) hF.out, LX⟩
  go_wp2_with fail
  refine (l4Rising_any s3 c3 e.l3 B0 B.length _ (HE.out.p3.later cInt_keeps LX) m3 (by omega)).mono ?_
  rintro z w6 ⟨rfl, hb1⟩
  replace LX := bl_trans LX hb1
  replace k1 := k1.later hb1
  clear x0 x1 x2 x3 x4 x5 x6 x7 x8 x9 xf hb1
  obtain ⟨x0, x1, x2, x3, x4, x5, x6, x7, x8, x9, xf⟩ := k1.ten
  cases hs3 : risB e.l3 B.length
  · have hF : Hid (false = efB A B C e) := by show _ = _; rw [HW.out, hs3]; simp
    clear hs0 hs1 hs2 hs7 hs3 x0 x1 x2 x3 x4 x5 x6 x7 x8 x9 xf k1 HE HW HR m0 m1 m2 m3 m4 m5 m6 m7
    have hud : undef = Value.tuple #[] := rfl
    go_wp2_with fail
    go_ret
    exact ⟨congrArg (fun b => Ending.returned (.bool b)) hF.out, LX⟩
  go_wp2_with fail
  refine (l4Rising_any s4 c4 e.l4 B0 B.length _ (HE.out.p4.later cInt_keeps LX) m4 (by omega)).mono ?_
  rintro z w7 ⟨rfl, hb1⟩
  replace LX := bl_trans LX hb1
  replace k1 := k1.later hb1
  clear x0 x1 x2 x3 x4 x5 x6 x7 x8 x9 xf hb1
  obtain ⟨x0, x1, x2, x3, x4, x5, x6, x7, x8, x9, xf⟩ := k1.ten
  cases hs4 : risB e.l4 B.length
  · have hF : Hid (false = efB A B C e) := by show _ = _; rw [HW.out, hs4]; simp
    clear hs0 hs1 hs2 hs7 hs3 hs4 x0 x1 x2 x3 x4 x5 x6 x7 x8 x9 xf k1 HE HW HR m0 m1 m2 m3 m4 m5 m6 m7
    have hud : undef = Value.tuple #[] := rfl
    go_wp2_with fail
    go_ret
    exact ⟨congrArg (fun b => Ending.returned (.bool b)) hF.out, LX⟩
  go_wp2_with fail
  refine (l4Rising_any s5 c5 e.l5 B0 C.length _ (HE.out.p5.later cInt_keeps LX) m5 (by omega)).mono ?_
  rintro z w8 ⟨rfl, hb1⟩
  replace LX := bl_trans LX hb1
  replace k1 := k1.later hb1
  clear x0 x1 x2 x3 x4 x5 x6 x7 x8 x9 xf hb1
  obtain ⟨x0, x1, x2, x3, x4, x5, x6, x7, x8, x9, xf⟩ := k1.ten
  cases hs5 : risB e.l5 C.length
  · have hF : Hid (false = efB A B C e) := by show _ = _; rw [HW.out, hs5]; simp
    clear hs0 hs1 hs2 hs7 hs3 hs4 hs5 x0 x1 x2 x3 x4 x5 x6 x7 x8 x9 xf k1 HE HW HR m0 m1 m2 m3 m4 m5 m6 m7
    have hud : undef = Value.tuple #[] := rfl
    go_wp2_with fail
    go_ret
    exact ⟨congrArg (fun b => Ending.returned (.bool b)) hF.out, LX⟩
  go_wp2_with fail
  refine (l4Rising_any s6 c6 e.l6 B0 C.length _ (HE.out.p6.later cInt_keeps LX) m6 (by omega)).mono ?_
  rintro z w9 ⟨rfl, hb1⟩
  replace LX := bl_trans LX hb1
  replace k1 := k1.later hb1
  clear x0 x1 x2 x3 x4 x5 x6 x7 x8 x9 xf hb1
  obtain ⟨x0, x1, x2, x3, x4, x5, x6, x7, x8, x9, xf⟩ := k1.ten
  cases hs6 : risB e.l6 C.length
  · have hF : Hid (false = efB A B C e) := by show _ = _; rw [HW.out, hs6]; simp
    clear hs0 hs1 hs2 hs7 hs3 hs4 hs5 hs6 x0 x1 x2 x3 x4 x5 x6 x7 x8 x9 xf k1 HE HW HR m0 m1 m2 m3 m4 m5 m6 m7
    have hud : undef = Value.tuple #[] := rfl
    go_wp2_with fail
    go_ret
    exact ⟨congrArg (fun b => Ending.returned (.bool b)) hF.out, LX⟩
  have hT : Hid (true = efB A B C e) := by show _ = _; rw [HW.out, HR.out, hs0, hs1, hs2, hs7, hs3, hs4, hs5, hs6]; rfl
  clear hs0 hs1 hs2 hs7 hs3 hs4 hs5 hs6 HE HW HR k1 x0 x1 x2 x3 x4 x5 x6 x7 x8 x9 xf
  go_wp2_with fail
  go_ret
  exact ⟨congrArg (fun b => Ending.returned (.bool b)) hT.out, LX⟩
end Go.Proofs.YtgcfhoojjgcpiaaDoor
