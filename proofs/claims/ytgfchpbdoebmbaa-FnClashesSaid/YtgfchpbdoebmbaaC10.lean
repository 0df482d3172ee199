import Derived.Test.YtgfchpbdoebmbaaC9
import Derived.Deep.RegionHeld3
namespace Go.Proofs.Ytgfchpbdoebmbaa
open Go.RowKit
set_option linter.unusedVariables false
set_option linter.unusedSimpArgs false

theorem Hits.cm {A0 A1 A2 A3 P Q M N T1 T2 TA TB P1 P2 R X0 X1 X2 Y0 Y1 Y2 : List Int} (p : Srt A0 P) (q : Srt A2 Q) (a1 : A1 = X0 ++ (X1 ++ X2)) (a3 : A3 = Y0 ++ (Y1 ++ Y2)) (u1 : Srt (X0 ++ X1) T1) (u2 : Srt (X2 ++ P) T2) (ta : Srt (T1 ++ T2) TA) (v1 : Srt (Y0 ++ Y1) M) (v2 : Srt (Y2 ++ Q) N) (tb : Srt (M ++ N) TB) (m1 : Met P TB P1) (m2 : Met Q TA P2) (h : Srt (P1 ++ P2) R) : Hits A0 A1 A2 A3 R := by
  refine ⟨h.1, fun x => ?_, ?_⟩
  · rw [h.2.1, List.mem_append, m1.2.1, m2.2.1, tb.2.1, ta.2.1, List.mem_append, List.mem_append, u1.2.1, u2.2.1, v1.2.1, v2.2.1, p.2.1, q.2.1, List.mem_append, List.mem_append, List.mem_append, List.mem_append, p.2.1, q.2.1]
    subst a1 a3
    simp only [hitP, List.mem_append]
    constructor
    · rintro (⟨e1, (e2 | e2) | e2 | e2⟩ | ⟨e1, (e2 | e2) | e2 | e2⟩)
      · exact Or.inl ⟨e1, Or.inr (Or.inl e2)⟩
      · exact Or.inl ⟨e1, Or.inr (Or.inr (Or.inl e2))⟩
      · exact Or.inl ⟨e1, Or.inr (Or.inr (Or.inr e2))⟩
      · exact Or.inl ⟨e1, Or.inl e2⟩
      · exact Or.inr ⟨e1, Or.inr (Or.inl e2)⟩
      · exact Or.inr ⟨e1, Or.inr (Or.inr (Or.inl e2))⟩
      · exact Or.inr ⟨e1, Or.inr (Or.inr (Or.inr e2))⟩
      · exact Or.inr ⟨e1, Or.inl e2⟩
    · rintro (⟨e1, e2 | e2 | e2 | e2⟩ | ⟨e1, e2 | e2 | e2 | e2⟩)
      · exact Or.inl ⟨e1, Or.inr (Or.inr e2)⟩
      · exact Or.inl ⟨e1, Or.inl (Or.inl e2)⟩
      · exact Or.inl ⟨e1, Or.inl (Or.inr e2)⟩
      · exact Or.inl ⟨e1, Or.inr (Or.inl e2)⟩
      · exact Or.inr ⟨e1, Or.inr (Or.inr e2)⟩
      · exact Or.inr ⟨e1, Or.inl (Or.inl e2)⟩
      · exact Or.inr ⟨e1, Or.inl (Or.inr e2)⟩
      · exact Or.inr ⟨e1, Or.inr (Or.inl e2)⟩
  · have h1 := h.2.2
    have h2 := m1.2.2
    have h3 := m2.2.2
    have h4 := p.2.2
    have h5 := q.2.2
    rw [List.length_append] at h1
    omega
theorem srt_len {A R : List Int} {k : Nat} (h : Srt A R) (hk : A.length ≤ k) : R.length ≤ k := by have := h.2.2; omega

set_option maxRecDepth 100000 in
set_option maxHeartbeats 16000000 in
theorem specStrictly_any (a0 a1 a2 a3 a4 a5 a6 a7 : Option Addr) (c0 c1 c2 c3 c4 c5 c6 c7 : Nat) (V : Ef) (b0 b1 b2 b3 b4 b5 b6 b7 : Option Addr) (d0 d1 d2 d3 d4 d5 d6 d7 : Nat) (U : Ef) (n : Int) (B C : Nat) (w : World) (hV : InE w B a0 a1 a2 a3 a4 a5 a6 a7 V) (hU : InE w C b0 b1 b2 b3 b4 b5 b6 b7 U) (kV : kEf V) (kU : kEf U) (cV : V.l0.length ≤ c0 ∧ V.l1.length ≤ c1 ∧ V.l2.length ≤ c2 ∧ V.l3.length ≤ c3 ∧ V.l4.length ≤ c4 ∧ V.l5.length ≤ c5 ∧ V.l6.length ≤ c6 ∧ V.l7.length ≤ c7) (cU : U.l0.length ≤ d0 ∧ U.l1.length ≤ d1 ∧ U.l2.length ≤ d2 ∧ U.l3.length ≤ d3 ∧ U.l4.length ≤ d4 ∧ U.l5.length ≤ d5 ∧ U.l6.length ≤ d6 ∧ U.l7.length ≤ d7) :
    Calls Try.prog 16 #[.agg #[.slice a0 V.l0.length c0, .slice a1 V.l1.length c1, .slice a2 V.l2.length c2, .slice a3 V.l3.length c3, .slice a4 V.l4.length c4, .slice a5 V.l5.length c5, .slice a6 V.l6.length c6, .slice a7 V.l7.length c7, .bool V.sp, .bool V.kl], .agg #[.slice b0 U.l0.length d0, .slice b1 U.l1.length d1, .slice b2 U.l2.length d2, .slice b3 U.l3.length d3, .slice b4 U.l4.length d4, .slice b5 U.l5.length d5, .slice b6 U.l6.length d6, .slice b7 U.l7.length d7, .bool U.sp, .bool U.kl], .int .i64 n] w fun e w' => (∃ s' c', e = .returned (.slice s' (stB V U n).length c') ∧ KRow w' w.heap.size (.slice s' (stB V U n).length c') (stB V U n)) ∧ Below w.heap.size w w' := by
  have CV := Hid.mk2 cV
  have CU := Hid.mk2 cU
  clear cV cU
  have HV := Hid.mk2 hV
  have HU := Hid.mk2 hU
  have KV := Hid.mk2 kV
  have KU := Hid.mk2 kU
  clear hV hU kV kU
  obtain ⟨k0, k1, L0⟩ := blkTwoE w #[.slice a0 V.l0.length c0, .slice a1 V.l1.length c1, .slice a2 V.l2.length c2, .slice a3 V.l3.length c3, .slice a4 V.l4.length c4, .slice a5 V.l5.length c5, .slice a6 V.l6.length c6, .slice a7 V.l7.length c7, .bool V.sp, .bool V.kl] #[.slice b0 U.l0.length d0, .slice b1 U.l1.length d1, .slice b2 U.l2.length d2, .slice b3 U.l3.length d3, .slice b4 U.l4.length d4, .slice b5 U.l5.length d5, .slice b6 U.l6.length d6, .slice b7 U.l7.length d7, .bool U.sp, .bool U.kl] 28 28
  by_cases hn : ¬ (0 ≤ n ∧ n ≤ 12)
  · have hE : Hid (stB V U n = []) := if_neg hn
    go_enter Try.func16, Try.ntmps16
    go_wp2_with fail
    refine (l1In_is n 0 12 _ false (by rw [← Bool.decide_and]; exact decide_eq_false hn)).mono ?_
    rintro e w' ⟨rfl, rfl⟩
    go_wp2_with fail
    go_ret
    have e9 := hE.out
    rw [e9]
    exact ⟨⟨none, 0, rfl, KRow.nil _ _⟩, L0⟩
  replace hn := Decidable.not_not.1 hn
  obtain ⟨m, rfl⟩ : ∃ m : Nat, n = (m : Int) := ⟨n.toNat, by omega⟩
  have hm : m ≤ 12 := by omega
  have hE : Hid (stB V U m = clB V U ++ ofSort 4 (cmB V U m)) := if_pos hn
  clear hn
  obtain ⟨x0, x1, x2, x3, x4, x5, x6, x7, x8, x9, xf⟩ := k0.ten
  obtain ⟨y0, y1, y2, y3, y4, y5, y6, y7, y8, y9, yf⟩ := k1.ten
  have lp : (tgL V m).length ≤ 1048588 := by have := tgL_len V m; have := KV.out.2.2.2.2.2.2.2; omega
  have lq : (tgL U m).length ≤ 1048588 := by have := tgL_len U m; have := KU.out.2.2.2.2.2.2.2; omega
  go_enter Try.func16, Try.ntmps16
  go_wp2_with fail
  refine (l1In_is (m : Int) 0 12 _ true (by simp; omega)).mono ?_
  rintro e w' ⟨rfl, hq⟩
  subst hq
  go_wp2_with fail
  generalize (w.alloc (.cells #[.slice a0 V.l0.length c0, .slice a1 V.l1.length c1, .slice a2 V.l2.length c2, .slice a3 V.l3.length c3, .slice a4 V.l4.length c4, .slice a5 V.l5.length c5, .slice a6 V.l6.length c6, .slice a7 V.l7.length c7, .bool V.sp, .bool V.kl] 28)).alloc (.cells #[.slice b0 U.l0.length d0, .slice b1 U.l1.length d1, .slice b2 U.l2.length d2, .slice b3 U.l3.length d3, .slice b4 U.l4.length d4, .slice b5 U.l5.length d5, .slice b6 U.l6.length d6, .slice b7 U.l7.length d7, .bool U.sp, .bool U.kl] 28) = X0 at k0 k1 L0 x0 x1 x2 x3 x4 x5 x6 x7 x8 x9 xf y0 y1 y2 y3 y4 y5 y6 y7 y8 y9 yf ⊢
  have K0 := Hid.mk2 k0
  have K1 := Hid.mk2 k1
  have LL := Hid.mk2 L0
  clear k0 k1 L0
  go_region_held3 (fun w' => w'.cell? ⟨w.heap.size, 0, none⟩ = some (.slice a0 V.l0.length c0) ∧ w'.cell? ⟨w.heap.size, 1, none⟩ = some (.slice a1 V.l1.length c1) ∧ w'.cell? ⟨w.heap.size, 2, none⟩ = some (.slice a2 V.l2.length c2) ∧ w'.cell? ⟨w.heap.size, 3, none⟩ = some (.slice a3 V.l3.length c3) ∧ w'.cell? ⟨w.heap.size, 4, none⟩ = some (.slice a4 V.l4.length c4) ∧ w'.cell? ⟨w.heap.size, 5, none⟩ = some (.slice a5 V.l5.length c5) ∧ w'.cell? ⟨w.heap.size, 6, none⟩ = some (.slice a6 V.l6.length c6) ∧ w'.cell? ⟨w.heap.size, 7, none⟩ = some (.slice a7 V.l7.length c7) ∧ w'.cell? ⟨w.heap.size, 8, none⟩ = some (.bool V.sp) ∧ w'.cell? ⟨w.heap.size, 9, none⟩ = some (.bool V.kl) ∧ w'.cell? ⟨w.heap.size + 1, 0, none⟩ = some (.slice b0 U.l0.length d0) ∧ w'.cell? ⟨w.heap.size + 1, 1, none⟩ = some (.slice b1 U.l1.length d1) ∧ w'.cell? ⟨w.heap.size + 1, 2, none⟩ = some (.slice b2 U.l2.length d2) ∧ w'.cell? ⟨w.heap.size + 1, 3, none⟩ = some (.slice b3 U.l3.length d3) ∧ w'.cell? ⟨w.heap.size + 1, 4, none⟩ = some (.slice b4 U.l4.length d4) ∧ w'.cell? ⟨w.heap.size + 1, 5, none⟩ = some (.slice b5 U.l5.length d5) ∧ w'.cell? ⟨w.heap.size + 1, 6, none⟩ = some (.slice b6 U.l6.length d6) ∧ w'.cell? ⟨w.heap.size + 1, 7, none⟩ = some (.slice b7 U.l7.length d7) ∧ w'.cell? ⟨w.heap.size + 1, 8, none⟩ = some (.bool U.sp) ∧ w'.cell? ⟨w.heap.size + 1, 9, none⟩ = some (.bool U.kl)) (simp [x0, x1, x2, x3, x4, x5, x6, x7, x8, x9, y0, y1, y2, y3, y4, y5, y6, y7, y8, y9])
    (first | (go_at_call 33; first
      | (refine (l16Targets_any b0 b1 b2 b3 b4 b5 b6 b7 d0 d1 d2 d3 d4 d5 d6 d7 U m hm C _ (HU.out.later (bl_trans LL.out hw1)) KU.out).mono ?_; rintro e w2 ⟨⟨t2, q2, Q, rfl, o2, hs2⟩, hb2⟩; have hw2 : Below X0.heap.size X0 w2 := bl_trans (hw1) hb2; obtain ⟨x0, x1, x2, x3, x4, x5, x6, x7, x8, x9, xf⟩ := (K0.out.later hw2).ten; obtain ⟨y0, y1, y2, y3, y4, y5, y6, y7, y8, y9, yf⟩ := (K1.out.later hw2).ten)
      | (refine (l16Targets_any a0 a1 a2 a3 a4 a5 a6 a7 c0 c1 c2 c3 c4 c5 c6 c7 V m hm B _ (HV.out.later (bl_drew LL.out)) KV.out).mono ?_; rintro e w1 ⟨⟨t1, q1, P, rfl, o1, hs1⟩, hb1⟩; have hw1 : Below X0.heap.size X0 w1 := bl_trans (bl_drew (Below.refl _ _)) hb1; obtain ⟨x0, x1, x2, x3, x4, x5, x6, x7, x8, x9, xf⟩ := (K0.out.later hw1).ten; obtain ⟨y0, y1, y2, y3, y4, y5, y6, y7, y8, y9, yf⟩ := (K1.out.later hw1).ten)))
  have lP := srt_len hs1 lp
  have lQ := srt_len hs2 lq
  have SP := Hid.mk2 hs1
  have SQ := Hid.mk2 hs2
  have L2 := Hid.mk2 (bl_trans LL.out hw2)
  have OP : Hid (OI w2 w.heap.size (.slice t1 P.length q1) P) := (o1.later hb2).mono LL.out.size
  have OQ : Hid (OI w2 w.heap.size (.slice t2 Q.length q2) Q) := o2.mono (Nat.le_trans LL.out.size hw1.size)
  have K2 := Hid.mk2 (K0.out.later hw2)
  have K3 := Hid.mk2 (K1.out.later hw2)
  clear o1 o2 hb1 hb2 hw1 hw2 hs1 hs2 K0 K1 LL lp lq
  go_wp2_with fail
  have lx1 : (V.l0 ++ V.l1).length ≤ 4194304 := by have := KV.out.1; have := KV.out.2.1; rw [List.length_append]; omega
  have lx2 : (V.l2 ++ P).length ≤ 4194304 := by have := KV.out.2.2.1; rw [List.length_append]; omega
  clear x0 x1 x2 x3 x4 x5 x6 x7 x8 x9 xf y0 y1 y2 y3 y4 y5 y6 y7 y8 y9 yf
  obtain ⟨x0, x1, x2, x3, x4, x5, x6, x7, x8, x9, xf⟩ := K2.out.ten
  go_region_held3 (fun w' => w'.cell? ⟨w.heap.size, 0, none⟩ = some (.slice a0 V.l0.length c0) ∧ w'.cell? ⟨w.heap.size, 1, none⟩ = some (.slice a1 V.l1.length c1) ∧ w'.cell? ⟨w.heap.size, 2, none⟩ = some (.slice a2 V.l2.length c2)) (simp [x0, x1, x2, x3, x4, x5, x6, x7, x8, x9])
    (first | (go_at_call 34; first
      | (refine (l10Union_any f1 f2 g1 g2 T1 T2 _ _ y2 (oy1.later by2).els oy2.els (Nat.le_trans (srt_len sy1 lx1) (by omega)) (Nat.le_trans (srt_len sy2 lx2) (by omega))).mono ?_; rintro e y3 ⟨⟨f3, g3, T3, rfl, oy3, sy3⟩, by3⟩; have hy3 : Below w2.heap.size w2 y3 := bl_trans hy2 by3; obtain ⟨x0, x1, x2, x3, x4, x5, x6, x7, x8, x9, xf⟩ := (K2.out.later hy3).ten)
      | (refine (l10Union_any a2 t1 c2 q1 V.l2 P _ _ y1 (HV.out.later (bl_trans L2.out hy1)).p2 (OP.out.later hy1).els (Nat.le_trans KV.out.2.2.1 (by omega)) (by omega)).mono ?_; rintro e y2 ⟨⟨f2, g2, T2, rfl, oy2, sy2⟩, by2⟩; have hy2 : Below w2.heap.size w2 y2 := bl_trans hy1 by2; obtain ⟨x0, x1, x2, x3, x4, x5, x6, x7, x8, x9, xf⟩ := (K2.out.later hy2).ten)
      | (refine (l10Union_any a0 a1 c0 c1 V.l0 V.l1 _ _ _ (HV.out.later (bl_drew L2.out)).p0 (HV.out.later (bl_drew L2.out)).p1 (Nat.le_trans KV.out.1 (by omega)) (Nat.le_trans KV.out.2.1 (by omega))).mono ?_; rintro e y1 ⟨⟨f1, g1, T1, rfl, oy1, sy1⟩, by1⟩; have hy1 : Below w2.heap.size w2 y1 := bl_trans (bl_drew (Below.refl _ _)) by1; obtain ⟨x0, x1, x2, x3, x4, x5, x6, x7, x8, x9, xf⟩ := (K2.out.later hy1).ten)))
  have lTA : T3.length ≤ 8388608 := srt_len sy3 (by have := srt_len sy1 lx1; have := srt_len sy2 lx2; rw [List.length_append]; omega)
  have A1 := Hid.mk2 sy1
  have A2 := Hid.mk2 sy2
  have A3 := Hid.mk2 sy3
  have L3 := Hid.mk2 (bl_trans L2.out hy3)
  have OP3 := Hid.mk2 (OP.out.later hy3)
  have OQ3 := Hid.mk2 (OQ.out.later hy3)
  have OA3 : Hid (OI y3 w.heap.size (.slice f3 T3.length g3) T3) := oy3.mono (by have := L2.out.size; have := hy2.size; omega)
  have K4 := Hid.mk2 (K2.out.later hy3)
  have K5 := Hid.mk2 (K3.out.later hy3)
  clear sy1 sy2 sy3 oy1 oy2 oy3 by1 by2 by3 hy1 hy2 hy3 OP OQ K2 K3 L2 lx1 lx2
  go_wp2_with fail
  have lx1 : (U.l0 ++ U.l1).length ≤ 4194304 := by have := KU.out.1; have := KU.out.2.1; rw [List.length_append]; omega
  have lx2 : (U.l2 ++ Q).length ≤ 4194304 := by have := KU.out.2.2.1; rw [List.length_append]; omega
  clear x0 x1 x2 x3 x4 x5 x6 x7 x8 x9 xf
  obtain ⟨x0, x1, x2, x3, x4, x5, x6, x7, x8, x9, xf⟩ := K5.out.ten
  go_region_held3 (fun w' => w'.cell? ⟨w.heap.size + 1, 0, none⟩ = some (.slice b0 U.l0.length d0) ∧ w'.cell? ⟨w.heap.size + 1, 1, none⟩ = some (.slice b1 U.l1.length d1) ∧ w'.cell? ⟨w.heap.size + 1, 2, none⟩ = some (.slice b2 U.l2.length d2)) (simp [x0, x1, x2, x3, x4, x5, x6, x7, x8, x9])
    (first | (go_at_call 34; first
      | (refine (l10Union_any f4 f5 g4 g5 T4 T5 _ _ z2 (oz1.later bz2).els oz2.els (Nat.le_trans (srt_len sz1 lx1) (by omega)) (Nat.le_trans (srt_len sz2 lx2) (by omega))).mono ?_; rintro e z3 ⟨⟨f6, g6, T6, rfl, oz3, sz3⟩, bz3⟩; have hz3 : Below y3.heap.size y3 z3 := bl_trans hz2 bz3; obtain ⟨x0, x1, x2, x3, x4, x5, x6, x7, x8, x9, xf⟩ := (K5.out.later hz3).ten)
      | (refine (l10Union_any b2 t2 d2 q2 U.l2 Q _ _ z1 (HU.out.later (bl_trans L3.out hz1)).p2 (OQ3.out.later hz1).els (Nat.le_trans KU.out.2.2.1 (by omega)) (by omega)).mono ?_; rintro e z2 ⟨⟨f5, g5, T5, rfl, oz2, sz2⟩, bz2⟩; have hz2 : Below y3.heap.size y3 z2 := bl_trans hz1 bz2; obtain ⟨x0, x1, x2, x3, x4, x5, x6, x7, x8, x9, xf⟩ := (K5.out.later hz2).ten)
      | (refine (l10Union_any b0 b1 d0 d1 U.l0 U.l1 _ _ _ (HU.out.later (bl_drew L3.out)).p0 (HU.out.later (bl_drew L3.out)).p1 (Nat.le_trans KU.out.1 (by omega)) (Nat.le_trans KU.out.2.1 (by omega))).mono ?_; rintro e z1 ⟨⟨f4, g4, T4, rfl, oz1, sz1⟩, bz1⟩; have hz1 : Below y3.heap.size y3 z1 := bl_trans (bl_drew (Below.refl _ _)) bz1; obtain ⟨x0, x1, x2, x3, x4, x5, x6, x7, x8, x9, xf⟩ := (K5.out.later hz1).ten)))
  have lTB : T6.length ≤ 8388608 := srt_len sz3 (by have := srt_len sz1 lx1; have := srt_len sz2 lx2; rw [List.length_append]; omega)
  have B1 := Hid.mk2 sz1
  have B2 := Hid.mk2 sz2
  have B3 := Hid.mk2 sz3
  have L4 := Hid.mk2 (bl_trans L3.out hz3)
  have OP4 := Hid.mk2 (OP3.out.later hz3)
  have OQ4 := Hid.mk2 (OQ3.out.later hz3)
  have OA4 := Hid.mk2 (OA3.out.later hz3)
  have OB4 : Hid (OI z3 w.heap.size (.slice f6 T6.length g6) T6) := oz3.mono (by have := L3.out.size; have := hz2.size; omega)
  have K6 := Hid.mk2 (K4.out.later hz3)
  have K7 := Hid.mk2 (K5.out.later hz3)
  clear sz1 sz2 sz3 oz1 oz2 oz3 bz1 bz2 bz3 hz1 hz2 hz3 OP3 OQ3 OA3 K4 K5 L3 lx1 lx2 x0 x1 x2 x3 x4 x5 x6 x7 x8 x9 xf
  go_wp2_with fail
  refine (l16Meet_any t1 f6 q1 g6 P T6 _ _ z3 OP4.out.els OB4.out.els OP4.out.cap OB4.out.cap (by omega) (by omega)).mono ?_
  rintro e v1 ⟨⟨i1, j1, M1, rfl, om1, sm1⟩, bm1⟩
  have N1 := Hid.mk2 sm1
  have l1 : M1.length ≤ 1048588 := Nat.le_trans sm1.2.2 lP
  have OM1 : Hid (OI v1 w.heap.size (.slice i1 M1.length j1) M1) := om1.mono L4.out.size
  clear sm1 om1
  go_wp2_with fail
  refine (l16Meet_any t2 f3 q2 g3 Q T3 _ _ v1 (OQ4.out.later bm1).els (OA4.out.later bm1).els OQ4.out.cap OA4.out.cap (by omega) (by omega)).mono ?_
  rintro e v2 ⟨⟨i2, j2, M2, rfl, om2, sm2⟩, bm2⟩
  have N2 := Hid.mk2 sm2
  have l2 : M2.length ≤ 1048588 := Nat.le_trans sm2.2.2 lQ
  clear sm2
  go_wp2_with fail
  refine (l10Union_any i1 i2 j1 j2 M1 M2 _ _ v2 (OM1.out.later bm2).els om2.els (by omega) (by omega)).mono ?_
  rintro e v3 ⟨⟨i3, j3, M3, rfl, om3, sm3⟩, bm3⟩
  have hM : M3 = cmB V U m := (Hits.cm SP.out SQ.out rfl rfl A1.out A2.out A3.out B1.out B2.out B3.out N1.out N2.out sm3).is
  have HM := Hid.mk2 hM
  have l3 : M3.length ≤ 2097176 := srt_len sm3 (by rw [List.length_append]; omega)
  have b3 := bl_trans (bl_trans bm1 bm2) bm3
  have L7 := Hid.mk2 (bl_trans L4.out b3)
  have K8 := Hid.mk2 (K6.out.later b3)
  have K9 := Hid.mk2 (K7.out.later b3)
  have OM3 := Hid.mk2 om3
  clear hM sm3 bm1 bm2 bm3 b3 om2 om3 OM1 OP4 OQ4 OA4 OB4 L4 K6 K7 A1 A2 A3 B1 B2 B3 N1 N2 SP SQ
  obtain ⟨x0, x1, x2, x3, x4, x5, x6, x7, x8, x9, xf⟩ := K8.out.ten
  obtain ⟨y0, y1, y2, y3, y4, y5, y6, y7, y8, y9, yf⟩ := K9.out.ten
  go_wp2_with fail
  clear x0 x1 x2 x3 x4 x5 x6 x7 x8 x9 xf y0 y1 y2 y3 y4 y5 y6 y7 y8 y9 yf
  refine (specClashes_any a0 a1 a2 a3 a4 a5 a6 a7 c0 c1 c2 c3 c4 c5 c6 c7 V b0 b1 b2 b3 b4 b5 b6 b7 d0 d1 d2 d3 d4 d5 d6 d7 U B C v3 (HV.out.later L7.out) (HU.out.later L7.out) KV.out KU.out CV.out CU.out).mono ?_
  rintro e v4 ⟨⟨i4, j4, rfl, k4⟩, bm4⟩
  have lcl := Hid.mk2 (clB_len V U KV.out KU.out)
  obtain ⟨G, hG⟩ : ∃ G, Hid (clB V U = G) := ⟨_, rfl⟩
  rw [hG.out] at k4 lcl hE ⊢
  have KR4 := Hid.mk2 k4
  have O4 := Hid.mk2 (OM3.out.later bm4)
  have L8 := Hid.mk2 (bl_trans L7.out bm4)
  have z8 := Hid.mk2 bm4.size
  have W8 := Hid.mk2 bm4
  clear k4 bm4 OM3 K8 K9
  go_wp2_with fail
  refine (l16Both_any i4 j4 G 4 i3 j3 M3 v3.heap.size _ v4 v3 KR4.out W8.out z8.out O4.out (by have := lcl.out; omega) (by omega)).mono ?_
  rintro e v5 ⟨⟨i5, j5, R, rfl, k5, hR⟩, bm5, _⟩
  have HR : Hid (R = stB V U m) := by show R = _; rw [hR, hE.out, HM.out]
  have HO : Hid (KRow v5 w.heap.size (.slice i5 R.length j5) R) := k5.mono L7.out.size
  have L9 := Hid.mk2 (bl_trans L7.out bm5)
  clear hR k5 bm5 hE KR4 O4 W8 z8 L8
  go_wp2_with fail
  go_ret
  have e9 := HR.out
  subst e9
  exact ⟨⟨i5, j5, rfl, HO.out⟩, L9.out⟩
end Go.Proofs.Ytgfchpbdoebmbaa
