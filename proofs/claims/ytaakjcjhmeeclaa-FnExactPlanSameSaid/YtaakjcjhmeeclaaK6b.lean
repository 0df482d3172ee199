import Derived.Test.YtaakjcjhmeeclaaK6
namespace Go.Proofs.Ytaakjcjhmeeclaa
open Go.RowKit
set_option linter.unusedVariables false
set_option linter.unusedSimpArgs false
set_option maxRecDepth 100000

set_option maxHeartbeats 8000000 in
theorem specSame_any (s0 s1 s2 s3 s4 s5 s6 s7 t0 t1 t2 t3 t4 t5 t6 t7 : Option Addr) (c0 c1 c2 c3 c4 c5 c6 c7 d0 d1 d2 d3 d4 d5 d6 d7 : Nat) (a b : Ef) (B C : Nat) (w : World) (hs : InE w B s0 s1 s2 s3 s4 s5 s6 s7 a) (ht : InE w C t0 t1 t2 t3 t4 t5 t6 t7 b) (ka : kEf a) (kb : kEf b) :
    Calls Try.prog 16 #[.agg #[.slice s0 a.l0.length c0, .slice s1 a.l1.length c1, .slice s2 a.l2.length c2, .slice s3 a.l3.length c3, .slice s4 a.l4.length c4, .slice s5 a.l5.length c5, .slice s6 a.l6.length c6, .slice s7 a.l7.length c7, .bool a.sp, .bool a.kl], .agg #[.slice t0 b.l0.length d0, .slice t1 b.l1.length d1, .slice t2 b.l2.length d2, .slice t3 b.l3.length d3, .slice t4 b.l4.length d4, .slice t5 b.l5.length d5, .slice t6 b.l6.length d6, .slice t7 b.l7.length d7, .bool b.sp, .bool b.kl]] w fun z w' => z = .returned (.bool (eB a b)) ∧ Below w.heap.size w w' := by
  have hal := alloc_old
  have haf := alloc_oldf
  obtain ⟨m0, m1, m2, m3, m4, m5, m6, m7⟩ := ka
  obtain ⟨n0, n1, n2, n3, n4, n5, n6, n7⟩ := kb
  obtain ⟨A0, A1, A2, A3, A4, A5, A6, A7, sp, kl⟩ := a
  obtain ⟨B0, B1, B2, B3, B4, B5, B6, B7, sq, kq⟩ := b
  dsimp only at *
  obtain ⟨K0, K1, L0⟩ := blkTwoE w #[.slice s0 A0.length c0, .slice s1 A1.length c1, .slice s2 A2.length c2, .slice s3 A3.length c3, .slice s4 A4.length c4, .slice s5 A5.length c5, .slice s6 A6.length c6, .slice s7 A7.length c7, .bool sp, .bool kl] #[.slice t0 B0.length d0, .slice t1 B1.length d1, .slice t2 B2.length d2, .slice t3 B3.length d3, .slice t4 B4.length d4, .slice t5 B5.length d5, .slice t6 B6.length d6, .slice t7 B7.length d7, .bool sq, .bool kq] 45 45
  have HS : Hid (InE w B s0 s1 s2 s3 s4 s5 s6 s7 ⟨A0, A1, A2, A3, A4, A5, A6, A7, sp, kl⟩) := hs
  have HT : Hid (InE w C t0 t1 t2 t3 t4 t5 t6 t7 ⟨B0, B1, B2, B3, B4, B5, B6, B7, sq, kq⟩) := ht
  clear hs ht
  obtain ⟨x0, x1, x2, x3, x4, x5, x6, x7, x8, x9, xf⟩ := K0.ten
  obtain ⟨y0, y1, y2, y3, y4, y5, y6, y7, y8, y9, yf⟩ := K1.ten
  go_enter Try.func16, Try.ntmps16
  go_wp2_with fail
  generalize hX : (w.alloc (.cells #[.slice s0 A0.length c0, .slice s1 A1.length c1, .slice s2 A2.length c2, .slice s3 A3.length c3, .slice s4 A4.length c4, .slice s5 A5.length c5, .slice s6 A6.length c6, .slice s7 A7.length c7, .bool sp, .bool kl] 45)).alloc (.cells #[.slice t0 B0.length d0, .slice t1 B1.length d1, .slice t2 B2.length d2, .slice t3 B3.length d3, .slice t4 B4.length d4, .slice t5 B5.length d5, .slice t6 B6.length d6, .slice t7 B7.length d7, .bool sq, .bool kq] 45) = X at K0 K1 L0 x0 y0 x1 y1 x2 y2 x3 y3 x4 y4 x5 y5 x6 y6 x7 y7 x8 y8 x9 y9 xf yf ⊢
  clear hX
  refine (l4Equal_any s0 t0 c0 d0 A0 B0 B C _ (HS.out.p0.later cInt_keeps L0) (HT.out.p0.later cInt_keeps L0) m0 n0).mono ?_
  rintro z w0 ⟨rfl, hb0⟩
  rw [sl_same]
  have L1 := bl_trans L0 hb0
  replace K0 := K0.later hb0
  replace K1 := K1.later hb0
  clear x0 y0 x1 y1 x2 y2 x3 y3 x4 y4 x5 y5 x6 y6 x7 y7 x8 y8 x9 y9 xf yf L0 hb0
  obtain ⟨x0, x1, x2, x3, x4, x5, x6, x7, x8, x9, xf⟩ := K0.ten
  obtain ⟨y0, y1, y2, y3, y4, y5, y6, y7, y8, y9, yf⟩ := K1.ten
  by_cases g0 : A0 = B0
  case neg =>
    rw [decide_eq_false g0]
    go_wp2_with fail
    go_ret
    exact ⟨by simp [eB, g0], L1⟩
  rw [decide_eq_true g0]
  have G0 : Hid (A0 = B0) := g0
  clear g0
  go_wp2_with fail
  refine (l4Equal_any s1 t1 c1 d1 A1 B1 B C _ (HS.out.p1.later cInt_keeps L1) (HT.out.p1.later cInt_keeps L1) m1 n1).mono ?_
  rintro z w1 ⟨rfl, hb1⟩
  rw [sl_same]
  have L2 := bl_trans L1 hb1
  replace K0 := K0.later hb1
  replace K1 := K1.later hb1
  clear x0 y0 x1 y1 x2 y2 x3 y3 x4 y4 x5 y5 x6 y6 x7 y7 x8 y8 x9 y9 xf yf L1 hb1
  obtain ⟨x0, x1, x2, x3, x4, x5, x6, x7, x8, x9, xf⟩ := K0.ten
  obtain ⟨y0, y1, y2, y3, y4, y5, y6, y7, y8, y9, yf⟩ := K1.ten
  by_cases g1 : A1 = B1
  case neg =>
    rw [decide_eq_false g1]
    go_wp2_with fail
    go_ret
    exact ⟨by simp [eB, g1], L2⟩
  rw [decide_eq_true g1]
  have G1 : Hid (A1 = B1) := g1
  clear g1
  go_wp2_with fail
  refine (l4Equal_any s2 t2 c2 d2 A2 B2 B C _ (HS.out.p2.later cInt_keeps L2) (HT.out.p2.later cInt_keeps L2) m2 n2).mono ?_
  rintro z w2 ⟨rfl, hb2⟩
  rw [sl_same]
  have L3 := bl_trans L2 hb2
  replace K0 := K0.later hb2
  replace K1 := K1.later hb2
  clear x0 y0 x1 y1 x2 y2 x3 y3 x4 y4 x5 y5 x6 y6 x7 y7 x8 y8 x9 y9 xf yf L2 hb2
  obtain ⟨x0, x1, x2, x3, x4, x5, x6, x7, x8, x9, xf⟩ := K0.ten
  obtain ⟨y0, y1, y2, y3, y4, y5, y6, y7, y8, y9, yf⟩ := K1.ten
  by_cases g2 : A2 = B2
  case neg =>
    rw [decide_eq_false g2]
    go_wp2_with fail
    go_ret
    exact ⟨by simp [eB, g2], L3⟩
  rw [decide_eq_true g2]
  have G2 : Hid (A2 = B2) := g2
  clear g2
  go_wp2_with fail
  refine (l4Equal_any s3 t3 c3 d3 A3 B3 B C _ (HS.out.p3.later cInt_keeps L3) (HT.out.p3.later cInt_keeps L3) m3 n3).mono ?_
  rintro z w3 ⟨rfl, hb3⟩
  rw [sl_same]
  have L4 := bl_trans L3 hb3
  replace K0 := K0.later hb3
  replace K1 := K1.later hb3
  clear x0 y0 x1 y1 x2 y2 x3 y3 x4 y4 x5 y5 x6 y6 x7 y7 x8 y8 x9 y9 xf yf L3 hb3
  obtain ⟨x0, x1, x2, x3, x4, x5, x6, x7, x8, x9, xf⟩ := K0.ten
  obtain ⟨y0, y1, y2, y3, y4, y5, y6, y7, y8, y9, yf⟩ := K1.ten
  by_cases g3 : A3 = B3
  case neg =>
    rw [decide_eq_false g3]
    go_wp2_with fail
    go_ret
    exact ⟨by simp [eB, g3], L4⟩
  rw [decide_eq_true g3]
  have G3 : Hid (A3 = B3) := g3
  clear g3
  go_wp2_with fail
  refine (l4Equal_any s4 t4 c4 d4 A4 B4 B C _ (HS.out.p4.later cInt_keeps L4) (HT.out.p4.later cInt_keeps L4) m4 n4).mono ?_
  rintro z w4 ⟨rfl, hb4⟩
  rw [sl_same]
  have L5 := bl_trans L4 hb4
  replace K0 := K0.later hb4
  replace K1 := K1.later hb4
  clear x0 y0 x1 y1 x2 y2 x3 y3 x4 y4 x5 y5 x6 y6 x7 y7 x8 y8 x9 y9 xf yf L4 hb4
  obtain ⟨x0, x1, x2, x3, x4, x5, x6, x7, x8, x9, xf⟩ := K0.ten
  obtain ⟨y0, y1, y2, y3, y4, y5, y6, y7, y8, y9, yf⟩ := K1.ten
  by_cases g4 : A4 = B4
  case neg =>
    rw [decide_eq_false g4]
    go_wp2_with fail
    go_ret
    exact ⟨by simp [eB, g4], L5⟩
  rw [decide_eq_true g4]
  have G4 : Hid (A4 = B4) := g4
  clear g4
  go_wp2_with fail
  refine (l4Equal_any s5 t5 c5 d5 A5 B5 B C _ (HS.out.p5.later cInt_keeps L5) (HT.out.p5.later cInt_keeps L5) m5 n5).mono ?_
  rintro z w5 ⟨rfl, hb5⟩
  rw [sl_same]
  have L6 := bl_trans L5 hb5
  replace K0 := K0.later hb5
  replace K1 := K1.later hb5
  clear x0 y0 x1 y1 x2 y2 x3 y3 x4 y4 x5 y5 x6 y6 x7 y7 x8 y8 x9 y9 xf yf L5 hb5
  obtain ⟨x0, x1, x2, x3, x4, x5, x6, x7, x8, x9, xf⟩ := K0.ten
  obtain ⟨y0, y1, y2, y3, y4, y5, y6, y7, y8, y9, yf⟩ := K1.ten
  by_cases g5 : A5 = B5
  case neg =>
    rw [decide_eq_false g5]
    go_wp2_with fail
    go_ret
    exact ⟨by simp [eB, g5], L6⟩
  rw [decide_eq_true g5]
  have G5 : Hid (A5 = B5) := g5
  clear g5
  go_wp2_with fail
  refine (l4Equal_any s6 t6 c6 d6 A6 B6 B C _ (HS.out.p6.later cInt_keeps L6) (HT.out.p6.later cInt_keeps L6) m6 n6).mono ?_
  rintro z w6 ⟨rfl, hb6⟩
  rw [sl_same]
  have L7 := bl_trans L6 hb6
  replace K0 := K0.later hb6
  replace K1 := K1.later hb6
  clear x0 y0 x1 y1 x2 y2 x3 y3 x4 y4 x5 y5 x6 y6 x7 y7 x8 y8 x9 y9 xf yf L6 hb6
  obtain ⟨x0, x1, x2, x3, x4, x5, x6, x7, x8, x9, xf⟩ := K0.ten
  obtain ⟨y0, y1, y2, y3, y4, y5, y6, y7, y8, y9, yf⟩ := K1.ten
  by_cases g6 : A6 = B6
  case neg =>
    rw [decide_eq_false g6]
    go_wp2_with fail
    go_ret
    exact ⟨by simp [eB, g6], L7⟩
  rw [decide_eq_true g6]
  have G6 : Hid (A6 = B6) := g6
  clear g6
  go_wp2_with fail
  refine (l4Equal_any s7 t7 c7 d7 A7 B7 B C _ (HS.out.p7.later cInt_keeps L7) (HT.out.p7.later cInt_keeps L7) m7 n7).mono ?_
  rintro z w7 ⟨rfl, hb7⟩
  rw [sl_same]
  have L8 := bl_trans L7 hb7
  replace K0 := K0.later hb7
  replace K1 := K1.later hb7
  clear x0 y0 x1 y1 x2 y2 x3 y3 x4 y4 x5 y5 x6 y6 x7 y7 x8 y8 x9 y9 xf yf L7 hb7
  obtain ⟨x0, x1, x2, x3, x4, x5, x6, x7, x8, x9, xf⟩ := K0.ten
  obtain ⟨y0, y1, y2, y3, y4, y5, y6, y7, y8, y9, yf⟩ := K1.ten
  by_cases g7 : A7 = B7
  case neg =>
    rw [decide_eq_false g7]
    go_wp2_with fail
    go_ret
    exact ⟨by simp [eB, g7], L8⟩
  rw [decide_eq_true g7]
  have G7 : Hid (A7 = B7) := g7
  clear g7
  cases sp <;> cases kl <;> cases sq <;> cases kq
  all_goals
    go_wp2_with fail
    go_ret
    exact ⟨by simp [eB, G0.out, G1.out, G2.out, G3.out, G4.out, G5.out, G6.out, G7.out], L8⟩
end Go.Proofs.Ytaakjcjhmeeclaa
