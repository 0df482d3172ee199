import Derived.Test.YtgcfhoojjgcpiaaBe
import Derived.Test.YtgcfhoojjgcpiaaBd
import Derived.Deep.RegionHeld3
namespace Go.Proofs.Ytgcfhoojjgcpiaa
open Go.RowKit
set_option linter.unusedVariables false
set_option linter.unusedSimpArgs false

theorem lst_le {e : Ef} (h : e.l0.length ≤ 2199023255552 ∧ e.l1.length ≤ 2199023255552 ∧ e.l2.length ≤ 2199023255552 ∧ e.l3.length ≤ 2199023255552 ∧ e.l4.length ≤ 2199023255552 ∧ e.l5.length ≤ 2199023255552 ∧ e.l6.length ≤ 2199023255552 ∧ e.l7.length ≤ 2199023255552) (i : Nat) : (e.lst i).length ≤ 2199023255552 := by
  obtain ⟨m0, m1, m2, m3, m4, m5, m6, m7⟩ := h
  match i with
  | 0 => exact m0
  | 1 => exact m1
  | 2 => exact m2
  | 3 => exact m3
  | 4 => exact m4
  | 5 => exact m5
  | 6 => exact m6
  | 7 => exact m7
  | n + 8 => simp [Ef.lst]
theorem implJoin_oe (a0 a1 a2 a3 a4 a5 a6 a7 : Option Addr) (c0 c1 c2 c3 c4 c5 c6 c7 : Nat) (V : Ef) (b0 b1 b2 b3 b4 b5 b6 b7 : Option Addr) (d0 d1 d2 d3 d4 d5 d6 d7 : Nat) (U : Ef) (B C : Nat) (w : World) (hV : InE w B a0 a1 a2 a3 a4 a5 a6 a7 V) (hU : InE w C b0 b1 b2 b3 b4 b5 b6 b7 U) (kV : V.l0.length ≤ 2199023255552 ∧ V.l1.length ≤ 2199023255552 ∧ V.l2.length ≤ 2199023255552 ∧ V.l3.length ≤ 2199023255552 ∧ V.l4.length ≤ 2199023255552 ∧ V.l5.length ≤ 2199023255552 ∧ V.l6.length ≤ 2199023255552 ∧ V.l7.length ≤ 2199023255552) (kU : U.l0.length ≤ 2199023255552 ∧ U.l1.length ≤ 2199023255552 ∧ U.l2.length ≤ 2199023255552 ∧ U.l3.length ≤ 2199023255552 ∧ U.l4.length ≤ 2199023255552 ∧ U.l5.length ≤ 2199023255552 ∧ U.l6.length ≤ 2199023255552 ∧ U.l7.length ≤ 2199023255552) :
    Calls Try.prog 15 #[.agg #[.slice a0 V.l0.length c0, .slice a1 V.l1.length c1, .slice a2 V.l2.length c2, .slice a3 V.l3.length c3, .slice a4 V.l4.length c4, .slice a5 V.l5.length c5, .slice a6 V.l6.length c6, .slice a7 V.l7.length c7, .bool V.sp, .bool V.kl], .agg #[.slice b0 U.l0.length d0, .slice b1 U.l1.length d1, .slice b2 U.l2.length d2, .slice b3 U.l3.length d3, .slice b4 U.l4.length d4, .slice b5 U.l5.length d5, .slice b6 U.l6.length d6, .slice b7 U.l7.length d7, .bool U.sp, .bool U.kl]] w fun e w' => (∃ (p0 p1 p2 p3 p4 p5 p6 p7 : Option Addr) (n0 n1 n2 n3 n4 n5 n6 n7 : Nat) (J : Ef), e = .returned (.agg #[.slice p0 J.l0.length n0, .slice p1 J.l1.length n1, .slice p2 J.l2.length n2, .slice p3 J.l3.length n3, .slice p4 J.l4.length n4, .slice p5 J.l5.length n5, .slice p6 J.l6.length n6, .slice p7 J.l7.length n7, .bool J.sp, .bool J.kl]) ∧ OE w' w.heap.size p0 p1 p2 p3 p4 p5 p6 p7 n0 n1 n2 n3 n4 n5 n6 n7 J ∧ JoinIs V U J) ∧ Below w.heap.size w w' := by
  refine (implJoin_any a0 a1 a2 a3 a4 a5 a6 a7 c0 c1 c2 c3 c4 c5 c6 c7 V b0 b1 b2 b3 b4 b5 b6 b7 d0 d1 d2 d3 d4 d5 d6 d7 U B C w hV hU (lst_le kV) (lst_le kU)).mono ?_
  rintro e w' ⟨⟨P, Cp, N, J, rfl, hC, hJ⟩, hb⟩
  exact ⟨⟨P 0, P 1, P 2, P 3, P 4, P 5, P 6, P 7, Cp 0, Cp 1, Cp 2, Cp 3, Cp 4, Cp 5, Cp 6, Cp 7, J, rfl, hC.oe, hJ⟩, hb⟩
set_option maxRecDepth 100000 in
set_option maxHeartbeats 16000000 in
theorem exactJoin_any (a0 a1 a2 a3 a4 a5 a6 a7 : Option Addr) (c0 c1 c2 c3 c4 c5 c6 c7 : Nat) (V : Ef) (b0 b1 b2 b3 b4 b5 b6 b7 : Option Addr) (d0 d1 d2 d3 d4 d5 d6 d7 : Nat) (U : Ef) (w : World) (hV : InE w 0 a0 a1 a2 a3 a4 a5 a6 a7 V) (mV : mEf V) (hU : InE w 0 b0 b1 b2 b3 b4 b5 b6 b7 U) (mU : mEf U) :
    Calls Try.prog 5 #[.agg #[.slice a0 V.l0.length c0, .slice a1 V.l1.length c1, .slice a2 V.l2.length c2, .slice a3 V.l3.length c3, .slice a4 V.l4.length c4, .slice a5 V.l5.length c5, .slice a6 V.l6.length c6, .slice a7 V.l7.length c7, .bool V.sp, .bool V.kl], .agg #[.slice b0 U.l0.length d0, .slice b1 U.l1.length d1, .slice b2 U.l2.length d2, .slice b3 U.l3.length d3, .slice b4 U.l4.length d4, .slice b5 U.l5.length d5, .slice b6 U.l6.length d6, .slice b7 U.l7.length d7, .bool U.sp, .bool U.kl]] w fun e w' => e = .returned (.bool true) ∧ Below w.heap.size w w' := by
  obtain ⟨k0, k1, L0⟩ := blkTwoE w #[.slice a0 V.l0.length c0, .slice a1 V.l1.length c1, .slice a2 V.l2.length c2, .slice a3 V.l3.length c3, .slice a4 V.l4.length c4, .slice a5 V.l5.length c5, .slice a6 V.l6.length c6, .slice a7 V.l7.length c7, .bool V.sp, .bool V.kl] #[.slice b0 U.l0.length d0, .slice b1 U.l1.length d1, .slice b2 U.l2.length d2, .slice b3 U.l3.length d3, .slice b4 U.l4.length d4, .slice b5 U.l5.length d5, .slice b6 U.l6.length d6, .slice b7 U.l7.length d7, .bool U.sp, .bool U.kl] 24 24
  obtain ⟨x0, x1, x2, x3, x4, x5, x6, x7, x8, x9, xf⟩ := k0.ten
  have HV : Hid (InE w 0 a0 a1 a2 a3 a4 a5 a6 a7 V) := hV
  have HU : Hid (InE w 0 b0 b1 b2 b3 b4 b5 b6 b7 U) := hU
  clear hV hU
  go_enter Try.func5, Try.ntmps5
  go_wp2_with fail
  refine (szEffect_gen a0 a1 a2 a3 a4 a5 a6 a7 c0 c1 c2 c3 c4 c5 c6 c7 V 1048576 _ mV (by omega) (by omega)).mono ?_
  rintro e w1 ⟨⟨r, rfl, hr⟩, hb1⟩
  have L1 := bl_trans L0 hb1
  replace k0 := k0.later hb1
  replace k1 := k1.later hb1
  clear x0 x1 x2 x3 x4 x5 x6 x7 x8 x9 xf hb1 L0 mV
  rcases hr with rfl | ⟨r0, r1, kv⟩
  · go_wp2_with fail
    go_ret
    exact ⟨rfl, L1⟩
  have t1 : decide (r < 0) = false := by simp; omega
  have KV : Hid (kEf V) := kv
  clear kv
  obtain ⟨y0, y1, y2, y3, y4, y5, y6, y7, y8, y9, yf⟩ := k1.ten
  go_wp2_with fail
  refine (szEffect_gen b0 b1 b2 b3 b4 b5 b6 b7 d0 d1 d2 d3 d4 d5 d6 d7 U r _ mU r0 (by omega)).mono ?_
  rintro e w2 ⟨⟨r', rfl, hr⟩, hb2⟩
  have L2 := bl_trans L1 hb2
  replace k0 := k0.later hb2
  replace k1 := k1.later hb2
  clear y0 y1 y2 y3 y4 y5 y6 y7 y8 y9 yf hb2 L1 t1 mU
  rcases hr with rfl | ⟨r0', r1', ku⟩
  · go_wp2_with fail
    go_ret
    exact ⟨rfl, L2⟩
  have t1 : decide (r' < 0) = false := by simp; omega
  have KU : Hid (kEf U) := ku
  clear ku r0 r1 r0' r1'
  have KLV : Hid (V.l0.length ≤ 4398046511104 ∧ V.l1.length ≤ 4398046511104 ∧ V.l2.length ≤ 4398046511104 ∧ V.l3.length ≤ 4398046511104 ∧ V.l4.length ≤ 4398046511104 ∧ V.l5.length ≤ 4398046511104 ∧ V.l6.length ≤ 4398046511104 ∧ V.l7.length ≤ 4398046511104) := by obtain ⟨m0, m1, m2, m3, m4, m5, m6, m7⟩ := KV.out; show _ ∧ _; omega
  have KLU : Hid (U.l0.length ≤ 4398046511104 ∧ U.l1.length ≤ 4398046511104 ∧ U.l2.length ≤ 4398046511104 ∧ U.l3.length ≤ 4398046511104 ∧ U.l4.length ≤ 4398046511104 ∧ U.l5.length ≤ 4398046511104 ∧ U.l6.length ≤ 4398046511104 ∧ U.l7.length ≤ 4398046511104) := by obtain ⟨m0, m1, m2, m3, m4, m5, m6, m7⟩ := KU.out; show _ ∧ _; omega
  have ltX : w.heap.size + 1 < w2.heap.size := k1.lt
  have K0 : Hid (Blk w2 w.heap.size #[.slice a0 V.l0.length c0, .slice a1 V.l1.length c1, .slice a2 V.l2.length c2, .slice a3 V.l3.length c3, .slice a4 V.l4.length c4, .slice a5 V.l5.length c5, .slice a6 V.l6.length c6, .slice a7 V.l7.length c7, .bool V.sp, .bool V.kl] 24) := k0
  have K1 : Hid (Blk w2 (w.heap.size + 1) #[.slice b0 U.l0.length d0, .slice b1 U.l1.length d1, .slice b2 U.l2.length d2, .slice b3 U.l3.length d3, .slice b4 U.l4.length d4, .slice b5 U.l5.length d5, .slice b6 U.l6.length d6, .slice b7 U.l7.length d7, .bool U.sp, .bool U.kl] 24) := k1
  clear k0 k1
  go_wp2_with fail
  have KV2 : Hid (V.l0.length ≤ 2199023255552 ∧ V.l1.length ≤ 2199023255552 ∧ V.l2.length ≤ 2199023255552 ∧ V.l3.length ≤ 2199023255552 ∧ V.l4.length ≤ 2199023255552 ∧ V.l5.length ≤ 2199023255552 ∧ V.l6.length ≤ 2199023255552 ∧ V.l7.length ≤ 2199023255552) := by obtain ⟨m0, m1, m2, m3, m4, m5, m6, m7⟩ := KV.out; show _ ∧ _; omega
  have KU2 : Hid (U.l0.length ≤ 2199023255552 ∧ U.l1.length ≤ 2199023255552 ∧ U.l2.length ≤ 2199023255552 ∧ U.l3.length ≤ 2199023255552 ∧ U.l4.length ≤ 2199023255552 ∧ U.l5.length ≤ 2199023255552 ∧ U.l6.length ≤ 2199023255552 ∧ U.l7.length ≤ 2199023255552) := by obtain ⟨m0, m1, m2, m3, m4, m5, m6, m7⟩ := KU.out; show _ ∧ _; omega
  go_cut [6] (fun pz wx => ∃ (kz : Nat) (p0 p1 p2 p3 p4 p5 p6 p7 : Option Addr) (n0 n1 n2 n3 n4 n5 n6 n7 : Nat) (J : Ef), pz = .pointer (some ⟨kz, 0, none⟩) ∧ Blk wx kz #[.slice p0 J.l0.length n0, .slice p1 J.l1.length n1, .slice p2 J.l2.length n2, .slice p3 J.l3.length n3, .slice p4 J.l4.length n4, .slice p5 J.l5.length n5, .slice p6 J.l6.length n6, .slice p7 J.l7.length n7, .bool J.sp, .bool J.kl] 27 ∧ OE wx 0 p0 p1 p2 p3 p4 p5 p6 p7 n0 n1 n2 n3 n4 n5 n6 n7 J ∧ JoinIs V U J ∧ Below w2.heap.size w2 wx)
  case first =>
    refine wp_region_held_drew (S := (fun w' => Blk w' w.heap.size #[.slice a0 V.l0.length c0, .slice a1 V.l1.length c1, .slice a2 V.l2.length c2, .slice a3 V.l3.length c3, .slice a4 V.l4.length c4, .slice a5 V.l5.length c5, .slice a6 V.l6.length c6, .slice a7 V.l7.length c7, .bool V.sp, .bool V.kl] 24 ∧ Blk w' (w.heap.size + 1) #[.slice b0 U.l0.length d0, .slice b1 U.l1.length d1, .slice b2 U.l2.length d2, .slice b3 U.l3.length d3, .slice b4 U.l4.length d4, .slice b5 U.l5.length d5, .slice b6 U.l6.length d6, .slice b7 U.l7.length d7, .bool U.sp, .bool U.kl] 24)) (by kernel_rfl) ?_ (fun hHeld => ?_)
    · exact ⟨K0.out, K1.out⟩
    have LX : Hid (Below w2.heap.size w2 w2) := Below.refl _ _
    refine wpAnyH_one (i := 0) (d := 24) (v := ?_) rfl rfl (by kernel_rfl) (by kernel_rfl) (by kernel_rfl) (fun _ _ _ h => h) (by rfl) (by assumption) ?_ ?_
    rotate_left 1
    · intro w hSw; (try dsimp only at hSw); obtain ⟨q0, q1⟩ := hSw; obtain ⟨x0, x1, x2, x3, x4, x5, x6, x7, x8, x9, xf⟩ := q0.ten; go_simp <;> with_reducible rfl
    simp only [List.foldl, Act.put, List.setIfInBounds_toArray, List.set_cons_zero, List.set_cons_succ]
    refine wpAnyH_one (i := 2) (d := 26) (v := ?_) rfl rfl (by kernel_rfl) (by kernel_rfl) (by kernel_rfl) (fun _ _ _ h => h) (by rfl) (by assumption) ?_ ?_
    rotate_left 1
    · intro w hSw; (try dsimp only at hSw); obtain ⟨q0, q1⟩ := hSw; obtain ⟨x0, x1, x2, x3, x4, x5, x6, x7, x8, x9, xf⟩ := q1.ten; go_simp <;> with_reducible rfl
    simp only [List.foldl, Act.put, List.setIfInBounds_toArray, List.set_cons_zero, List.set_cons_succ]
    refine wpAnyH_ready (rs := [1, 5]) (by kernel_rfl) (by simp) ?_
    refine AllReadyH.cons rfl (fun K hK => ?_) ?_
    · skip
      go_simp
      refine (toEffect_made a0 a1 a2 a3 a4 a5 a6 a7 c0 c1 c2 c3 c4 c5 c6 c7 V 0 _ (HV.out.later (bl_trans L2 (bl_drew LX.out))) KV.out).mono ?_
      rintro z g1 ⟨⟨e0, e1, e2, e3, e4, e5, e6, e7, rfl, hI⟩, hb⟩
      have hc : Below w2.heap.size w2 g1 := bl_trans (bl_drew (Below.refl _ _)) hb
      have LX : Hid (Below w2.heap.size w2 g1) := bl_trans LX.out hc
      have IA : Hid (InE g1 0 (some ⟨e0, 0, none⟩) (some ⟨e1, 0, none⟩) (some ⟨e2, 0, none⟩) (some ⟨e3, 0, none⟩) (some ⟨e4, 0, none⟩) (some ⟨e5, 0, none⟩) (some ⟨e6, 0, none⟩) (some ⟨e7, 0, none⟩) V) := hI.drop (Nat.zero_le _)
      have K0 : Hid (Blk g1 w.heap.size #[.slice a0 V.l0.length c0, .slice a1 V.l1.length c1, .slice a2 V.l2.length c2, .slice a3 V.l3.length c3, .slice a4 V.l4.length c4, .slice a5 V.l5.length c5, .slice a6 V.l6.length c6, .slice a7 V.l7.length c7, .bool V.sp, .bool V.kl] 24) := K0.out.later hc
      have K1 : Hid (Blk g1 (w.heap.size + 1) #[.slice b0 U.l0.length d0, .slice b1 U.l1.length d1, .slice b2 U.l2.length d2, .slice b3 U.l3.length d3, .slice b4 U.l4.length d4, .slice b5 U.l5.length d5, .slice b6 U.l6.length d6, .slice b7 U.l7.length d7, .bool U.sp, .bool U.kl] 24) := K1.out.later hc
      clear hb hc hI 
      refine hK.out _ _ ?_ (fun hHeld => ?_)
      · exact ⟨K0.out, K1.out⟩
      clear hK K
      try simp only [List.foldl, Act.put, List.setIfInBounds_toArray, List.set_cons_zero, List.set_cons_succ]
      refine wpAnyH_ready (rs := [3, 5]) (by kernel_rfl) (by simp) ?_
      refine AllReadyH.cons rfl (fun K hK => ?_) ?_
      · skip
        go_simp
        refine (toEffect_made b0 b1 b2 b3 b4 b5 b6 b7 d0 d1 d2 d3 d4 d5 d6 d7 U 0 _ (HU.out.later (bl_trans L2 LX.out)) KU.out).mono ?_
        rintro z g2 ⟨⟨f0, f1, f2, f3, f4, f5, f6, f7, rfl, hI⟩, hb⟩
        have hc : Below g1.heap.size g1 g2 := hb
        have LX : Hid (Below w2.heap.size w2 g2) := bl_trans LX.out hc
        have IB : Hid (InE g2 0 (some ⟨f0, 0, none⟩) (some ⟨f1, 0, none⟩) (some ⟨f2, 0, none⟩) (some ⟨f3, 0, none⟩) (some ⟨f4, 0, none⟩) (some ⟨f5, 0, none⟩) (some ⟨f6, 0, none⟩) (some ⟨f7, 0, none⟩) U) := hI.drop (Nat.zero_le _)
        have IA : Hid (InE g2 0 (some ⟨e0, 0, none⟩) (some ⟨e1, 0, none⟩) (some ⟨e2, 0, none⟩) (some ⟨e3, 0, none⟩) (some ⟨e4, 0, none⟩) (some ⟨e5, 0, none⟩) (some ⟨e6, 0, none⟩) (some ⟨e7, 0, none⟩) V) := IA.out.later hc
        have K0 : Hid (Blk g2 w.heap.size #[.slice a0 V.l0.length c0, .slice a1 V.l1.length c1, .slice a2 V.l2.length c2, .slice a3 V.l3.length c3, .slice a4 V.l4.length c4, .slice a5 V.l5.length c5, .slice a6 V.l6.length c6, .slice a7 V.l7.length c7, .bool V.sp, .bool V.kl] 24) := K0.out.later hc
        have K1 : Hid (Blk g2 (w.heap.size + 1) #[.slice b0 U.l0.length d0, .slice b1 U.l1.length d1, .slice b2 U.l2.length d2, .slice b3 U.l3.length d3, .slice b4 U.l4.length d4, .slice b5 U.l5.length d5, .slice b6 U.l6.length d6, .slice b7 U.l7.length d7, .bool U.sp, .bool U.kl] 24) := K1.out.later hc
        clear hb hc hI 
        refine hK.out _ _ ?_ (fun hHeld => ?_)
        · exact ⟨K0.out, K1.out⟩
        clear hK K
        try simp only [List.foldl, Act.put, List.setIfInBounds_toArray, List.set_cons_zero, List.set_cons_succ]
        refine wpAnyH_ready (rs := [4, 5]) (by kernel_rfl) (by simp) ?_
        refine AllReadyH.cons rfl (fun K hK => ?_) ?_
        · skip
          go_simp
          refine (specJoin_any _ _ _ _ _ _ _ _ _ _ _ _ _ _ _ _ V _ _ _ _ _ _ _ _ _ _ _ _ _ _ _ _ U _ _ _ IA.out IB.out KV2.out KU2.out).mono ?_
          rintro z g3 ⟨⟨p0, p1, p2, p3, p4, p5, p6, p7, n0, n1, n2, n3, n4, n5, n6, n7, J, rfl, hO, hJ⟩, hb⟩
          have hc : Below g2.heap.size g2 g3 := hb
          have LX : Hid (Below w2.heap.size w2 g3) := bl_trans LX.out hc
          have OJ : Hid (OE g3 0 p0 p1 p2 p3 p4 p5 p6 p7 n0 n1 n2 n3 n4 n5 n6 n7 J) := hO.drop (Nat.zero_le _)
          have HJ : Hid (JoinIs V U J) := hJ
          have K0 : Hid (Blk g3 w.heap.size #[.slice a0 V.l0.length c0, .slice a1 V.l1.length c1, .slice a2 V.l2.length c2, .slice a3 V.l3.length c3, .slice a4 V.l4.length c4, .slice a5 V.l5.length c5, .slice a6 V.l6.length c6, .slice a7 V.l7.length c7, .bool V.sp, .bool V.kl] 24) := K0.out.later hc
          have K1 : Hid (Blk g3 (w.heap.size + 1) #[.slice b0 U.l0.length d0, .slice b1 U.l1.length d1, .slice b2 U.l2.length d2, .slice b3 U.l3.length d3, .slice b4 U.l4.length d4, .slice b5 U.l5.length d5, .slice b6 U.l6.length d6, .slice b7 U.l7.length d7, .bool U.sp, .bool U.kl] 24) := K1.out.later hc
          clear hb hc hO hJ IA IB
          refine hK.out _ _ ?_ (fun hHeld => ?_)
          · exact ⟨K0.out, K1.out⟩
          clear hK K
          try simp only [List.foldl, Act.put, List.setIfInBounds_toArray, List.set_cons_zero, List.set_cons_succ]
          refine wpAnyH_ready (rs := [5]) (by kernel_rfl) (by simp) ?_
          refine AllReadyH.cons rfl (fun K hK => ?_) AllReadyH.nil
          go_simp
          have hg : Below g3.heap.size g3 (g3.alloc (.cells #[.slice none 0 0, .slice none 0 0, .slice none 0 0, .slice none 0 0, .slice none 0 0, .slice none 0 0, .slice none 0 0, .slice none 0 0, .bool false, .bool false] 27)) := bl_alloc (Below.refl _ _) _
          have KZ : Hid (Blk (g3.alloc (.cells #[.slice none 0 0, .slice none 0 0, .slice none 0 0, .slice none 0 0, .slice none 0 0, .slice none 0 0, .slice none 0 0, .slice none 0 0, .bool false, .bool false] 27)) g3.heap.size #[.slice none 0 0, .slice none 0 0, .slice none 0 0, .slice none 0 0, .slice none 0 0, .slice none 0 0, .slice none 0 0, .slice none 0 0, .bool false, .bool false] 27) := Blk.new _ _ _
          have hxs : w2.heap.size ≤ g3.heap.size := LX.out.size
          have NZ : Hid (NoB g3.heap.size p0 p1 p2 p3 p4 p5 p6 p7 n0 n1 n2 n3 n4 n5 n6 n7 J) := OJ.out.no_ge (Nat.le_refl _)
          have LX : Hid (Below w2.heap.size w2 (g3.alloc (.cells #[.slice none 0 0, .slice none 0 0, .slice none 0 0, .slice none 0 0, .slice none 0 0, .slice none 0 0, .slice none 0 0, .slice none 0 0, .bool false, .bool false] 27))) := bl_trans LX.out hg
          have OJ : Hid (OE (g3.alloc (.cells #[.slice none 0 0, .slice none 0 0, .slice none 0 0, .slice none 0 0, .slice none 0 0, .slice none 0 0, .slice none 0 0, .slice none 0 0, .bool false, .bool false] 27)) 0 p0 p1 p2 p3 p4 p5 p6 p7 n0 n1 n2 n3 n4 n5 n6 n7 J) := OJ.out.later hg
          have K0 : Hid (Blk (g3.alloc (.cells #[.slice none 0 0, .slice none 0 0, .slice none 0 0, .slice none 0 0, .slice none 0 0, .slice none 0 0, .slice none 0 0, .slice none 0 0, .bool false, .bool false] 27)) w.heap.size #[.slice a0 V.l0.length c0, .slice a1 V.l1.length c1, .slice a2 V.l2.length c2, .slice a3 V.l3.length c3, .slice a4 V.l4.length c4, .slice a5 V.l5.length c5, .slice a6 V.l6.length c6, .slice a7 V.l7.length c7, .bool V.sp, .bool V.kl] 24) := K0.out.later hg
          have K1 : Hid (Blk (g3.alloc (.cells #[.slice none 0 0, .slice none 0 0, .slice none 0 0, .slice none 0 0, .slice none 0 0, .slice none 0 0, .slice none 0 0, .slice none 0 0, .bool false, .bool false] 27)) (w.heap.size + 1) #[.slice b0 U.l0.length d0, .slice b1 U.l1.length d1, .slice b2 U.l2.length d2, .slice b3 U.l3.length d3, .slice b4 U.l4.length d4, .slice b5 U.l5.length d5, .slice b6 U.l6.length d6, .slice b7 U.l7.length d7, .bool U.sp, .bool U.kl] 24) := K1.out.later hg
          clear hg
          refine hK.out _ _ ?_ (fun hHeld => ?_)
          · exact ⟨K0.out, K1.out⟩
          clear hK K
          try simp only [List.foldl, Act.put, List.setIfInBounds_toArray, List.set_cons_zero, List.set_cons_succ]
          generalize hGe : (g3.alloc (.cells #[.slice none 0 0, .slice none 0 0, .slice none 0 0, .slice none 0 0, .slice none 0 0, .slice none 0 0, .slice none 0 0, .slice none 0 0, .bool false, .bool false] 27)) = g4 at KZ hHeld LX OJ K0 K1 ⊢
          obtain ⟨kz, hkz⟩ : ∃ k, g3.heap.size = k := ⟨_, rfl⟩
          have HKZ : Hid (w2.heap.size ≤ kz) := Nat.le_trans hxs (Nat.le_of_eq hkz)
          clear hxs
          rw [hkz] at KZ NZ
          try rw [hkz]
          clear hGe hkz
          refine wpAnyH_ready (rs := [6]) (by kernel_rfl) (by simp) ?_
          refine AllReadyH.cons rfl (fun K hK => ?_) AllReadyH.nil
          have hlx := HKZ.out
          refine wp_store_row 27 (.tmp 6) (.tmp 28) rfl kz #[.slice p0 J.l0.length n0, .slice p1 J.l1.length n1, .slice p2 J.l2.length n2, .slice p3 J.l3.length n3, .slice p4 J.l4.length n4, .slice p5 J.l5.length n5, .slice p6 J.l6.length n6, .slice p7 J.l7.length n7, .bool J.sp, .bool J.kl] rfl rfl 27 _ KZ.out (by rw [Try.infoEf]; rfl) rfl one10 ?_
          have LX : Hid (Below w2.heap.size w2 (g4.setRow kz #[.slice p0 J.l0.length n0, .slice p1 J.l1.length n1, .slice p2 J.l2.length n2, .slice p3 J.l3.length n3, .slice p4 J.l4.length n4, .slice p5 J.l5.length n5, .slice p6 J.l6.length n6, .slice p7 J.l7.length n7, .bool J.sp, .bool J.kl])) := below_setRow LX.out hlx _
          have KZ : Hid (Blk (g4.setRow kz #[.slice p0 J.l0.length n0, .slice p1 J.l1.length n1, .slice p2 J.l2.length n2, .slice p3 J.l3.length n3, .slice p4 J.l4.length n4, .slice p5 J.l5.length n5, .slice p6 J.l6.length n6, .slice p7 J.l7.length n7, .bool J.sp, .bool J.kl]) kz #[.slice p0 J.l0.length n0, .slice p1 J.l1.length n1, .slice p2 J.l2.length n2, .slice p3 J.l3.length n3, .slice p4 J.l4.length n4, .slice p5 J.l5.length n5, .slice p6 J.l6.length n6, .slice p7 J.l7.length n7, .bool J.sp, .bool J.kl] 27) := setRow_heap _ _ _ _ _ _ KZ.out
          have OJ : Hid (OE (g4.setRow kz #[.slice p0 J.l0.length n0, .slice p1 J.l1.length n1, .slice p2 J.l2.length n2, .slice p3 J.l3.length n3, .slice p4 J.l4.length n4, .slice p5 J.l5.length n5, .slice p6 J.l6.length n6, .slice p7 J.l7.length n7, .bool J.sp, .bool J.kl]) 0 p0 p1 p2 p3 p4 p5 p6 p7 n0 n1 n2 n3 n4 n5 n6 n7 J) := OJ.out.row NZ.out _
          have K0 : Hid (Blk (g4.setRow kz #[.slice p0 J.l0.length n0, .slice p1 J.l1.length n1, .slice p2 J.l2.length n2, .slice p3 J.l3.length n3, .slice p4 J.l4.length n4, .slice p5 J.l5.length n5, .slice p6 J.l6.length n6, .slice p7 J.l7.length n7, .bool J.sp, .bool J.kl]) w.heap.size #[.slice a0 V.l0.length c0, .slice a1 V.l1.length c1, .slice a2 V.l2.length c2, .slice a3 V.l3.length c3, .slice a4 V.l4.length c4, .slice a5 V.l5.length c5, .slice a6 V.l6.length c6, .slice a7 V.l7.length c7, .bool V.sp, .bool V.kl] 24) := (setRow_other _ _ _ _ (by have := ltX; omega)).trans K0.out
          have K1 : Hid (Blk (g4.setRow kz #[.slice p0 J.l0.length n0, .slice p1 J.l1.length n1, .slice p2 J.l2.length n2, .slice p3 J.l3.length n3, .slice p4 J.l4.length n4, .slice p5 J.l5.length n5, .slice p6 J.l6.length n6, .slice p7 J.l7.length n7, .bool J.sp, .bool J.kl]) (w.heap.size + 1) #[.slice b0 U.l0.length d0, .slice b1 U.l1.length d1, .slice b2 U.l2.length d2, .slice b3 U.l3.length d3, .slice b4 U.l4.length d4, .slice b5 U.l5.length d5, .slice b6 U.l6.length d6, .slice b7 U.l7.length d7, .bool U.sp, .bool U.kl] 24) := (setRow_other _ _ _ _ (by have := ltX; omega)).trans K1.out
          refine hK.out _ _ ?_ (fun hHeld => ?_)
          · exact ⟨K0.out, K1.out⟩
          clear hK K
          try simp only [List.foldl, Act.put, List.setIfInBounds_toArray, List.set_cons_zero, List.set_cons_succ]
          refine wpAnyH_done (by kernel_rfl) ?_ _
          go_wp2_with fail
          go_meet
          exact ⟨kz, p0, p1, p2, p3, p4, p5, p6, p7, n0, n1, n2, n3, n4, n5, n6, n7, J, rfl, KZ.out, OJ.out, HJ.out, LX.out⟩
        refine AllReadyH.cons rfl (fun K hK => ?_) AllReadyH.nil
        go_simp
        have hg : Below g2.heap.size g2 (g2.alloc (.cells #[.slice none 0 0, .slice none 0 0, .slice none 0 0, .slice none 0 0, .slice none 0 0, .slice none 0 0, .slice none 0 0, .slice none 0 0, .bool false, .bool false] 27)) := bl_alloc (Below.refl _ _) _
        have KZ : Hid (Blk (g2.alloc (.cells #[.slice none 0 0, .slice none 0 0, .slice none 0 0, .slice none 0 0, .slice none 0 0, .slice none 0 0, .slice none 0 0, .slice none 0 0, .bool false, .bool false] 27)) g2.heap.size #[.slice none 0 0, .slice none 0 0, .slice none 0 0, .slice none 0 0, .slice none 0 0, .slice none 0 0, .slice none 0 0, .slice none 0 0, .bool false, .bool false] 27) := Blk.new _ _ _
        have hxs : w2.heap.size ≤ g2.heap.size := LX.out.size
        have LX : Hid (Below w2.heap.size w2 (g2.alloc (.cells #[.slice none 0 0, .slice none 0 0, .slice none 0 0, .slice none 0 0, .slice none 0 0, .slice none 0 0, .slice none 0 0, .slice none 0 0, .bool false, .bool false] 27))) := bl_trans LX.out hg
        have IA : Hid (InE (g2.alloc (.cells #[.slice none 0 0, .slice none 0 0, .slice none 0 0, .slice none 0 0, .slice none 0 0, .slice none 0 0, .slice none 0 0, .slice none 0 0, .bool false, .bool false] 27)) 0 (some ⟨e0, 0, none⟩) (some ⟨e1, 0, none⟩) (some ⟨e2, 0, none⟩) (some ⟨e3, 0, none⟩) (some ⟨e4, 0, none⟩) (some ⟨e5, 0, none⟩) (some ⟨e6, 0, none⟩) (some ⟨e7, 0, none⟩) V) := IA.out.later hg
        have IB : Hid (InE (g2.alloc (.cells #[.slice none 0 0, .slice none 0 0, .slice none 0 0, .slice none 0 0, .slice none 0 0, .slice none 0 0, .slice none 0 0, .slice none 0 0, .bool false, .bool false] 27)) 0 (some ⟨f0, 0, none⟩) (some ⟨f1, 0, none⟩) (some ⟨f2, 0, none⟩) (some ⟨f3, 0, none⟩) (some ⟨f4, 0, none⟩) (some ⟨f5, 0, none⟩) (some ⟨f6, 0, none⟩) (some ⟨f7, 0, none⟩) U) := IB.out.later hg
        have K0 : Hid (Blk (g2.alloc (.cells #[.slice none 0 0, .slice none 0 0, .slice none 0 0, .slice none 0 0, .slice none 0 0, .slice none 0 0, .slice none 0 0, .slice none 0 0, .bool false, .bool false] 27)) w.heap.size #[.slice a0 V.l0.length c0, .slice a1 V.l1.length c1, .slice a2 V.l2.length c2, .slice a3 V.l3.length c3, .slice a4 V.l4.length c4, .slice a5 V.l5.length c5, .slice a6 V.l6.length c6, .slice a7 V.l7.length c7, .bool V.sp, .bool V.kl] 24) := K0.out.later hg
        have K1 : Hid (Blk (g2.alloc (.cells #[.slice none 0 0, .slice none 0 0, .slice none 0 0, .slice none 0 0, .slice none 0 0, .slice none 0 0, .slice none 0 0, .slice none 0 0, .bool false, .bool false] 27)) (w.heap.size + 1) #[.slice b0 U.l0.length d0, .slice b1 U.l1.length d1, .slice b2 U.l2.length d2, .slice b3 U.l3.length d3, .slice b4 U.l4.length d4, .slice b5 U.l5.length d5, .slice b6 U.l6.length d6, .slice b7 U.l7.length d7, .bool U.sp, .bool U.kl] 24) := K1.out.later hg
        clear hg
        refine hK.out _ _ ?_ (fun hHeld => ?_)
        · exact ⟨K0.out, K1.out⟩
        clear hK K
        try simp only [List.foldl, Act.put, List.setIfInBounds_toArray, List.set_cons_zero, List.set_cons_succ]
        generalize hGe : (g2.alloc (.cells #[.slice none 0 0, .slice none 0 0, .slice none 0 0, .slice none 0 0, .slice none 0 0, .slice none 0 0, .slice none 0 0, .slice none 0 0, .bool false, .bool false] 27)) = g5 at KZ hHeld LX IA IB K0 K1 ⊢
        obtain ⟨kz, hkz⟩ : ∃ k, g2.heap.size = k := ⟨_, rfl⟩
        have HKZ : Hid (w2.heap.size ≤ kz) := Nat.le_trans hxs (Nat.le_of_eq hkz)
        clear hxs
        rw [hkz] at KZ
        try rw [hkz]
        clear hGe hkz
        refine wpAnyH_ready (rs := [4]) (by kernel_rfl) (by simp) ?_
        refine AllReadyH.cons rfl (fun K hK => ?_) AllReadyH.nil
        go_simp
        refine (specJoin_any _ _ _ _ _ _ _ _ _ _ _ _ _ _ _ _ V _ _ _ _ _ _ _ _ _ _ _ _ _ _ _ _ U _ _ _ IA.out IB.out KV2.out KU2.out).mono ?_
        rintro z g6 ⟨⟨p0, p1, p2, p3, p4, p5, p6, p7, n0, n1, n2, n3, n4, n5, n6, n7, J, rfl, hO, hJ⟩, hb⟩
        have hc : Below g5.heap.size g5 g6 := hb
        have LX : Hid (Below w2.heap.size w2 g6) := bl_trans LX.out hc
        have OJ : Hid (OE g6 0 p0 p1 p2 p3 p4 p5 p6 p7 n0 n1 n2 n3 n4 n5 n6 n7 J) := hO.drop (Nat.zero_le _)
        have HJ : Hid (JoinIs V U J) := hJ
        have NZ : Hid (NoB kz p0 p1 p2 p3 p4 p5 p6 p7 n0 n1 n2 n3 n4 n5 n6 n7 J) := hO.no_lt KZ.out.lt
        have KZ : Hid (Blk g6 kz #[.slice none 0 0, .slice none 0 0, .slice none 0 0, .slice none 0 0, .slice none 0 0, .slice none 0 0, .slice none 0 0, .slice none 0 0, .bool false, .bool false] 27) := KZ.out.later hc
        have K0 : Hid (Blk g6 w.heap.size #[.slice a0 V.l0.length c0, .slice a1 V.l1.length c1, .slice a2 V.l2.length c2, .slice a3 V.l3.length c3, .slice a4 V.l4.length c4, .slice a5 V.l5.length c5, .slice a6 V.l6.length c6, .slice a7 V.l7.length c7, .bool V.sp, .bool V.kl] 24) := K0.out.later hc
        have K1 : Hid (Blk g6 (w.heap.size + 1) #[.slice b0 U.l0.length d0, .slice b1 U.l1.length d1, .slice b2 U.l2.length d2, .slice b3 U.l3.length d3, .slice b4 U.l4.length d4, .slice b5 U.l5.length d5, .slice b6 U.l6.length d6, .slice b7 U.l7.length d7, .bool U.sp, .bool U.kl] 24) := K1.out.later hc
        clear hb hc hO hJ IA IB
        refine hK.out _ _ ?_ (fun hHeld => ?_)
        · exact ⟨K0.out, K1.out⟩
        clear hK K
        try simp only [List.foldl, Act.put, List.setIfInBounds_toArray, List.set_cons_zero, List.set_cons_succ]
        refine wpAnyH_ready (rs := [6]) (by kernel_rfl) (by simp) ?_
        refine AllReadyH.cons rfl (fun K hK => ?_) AllReadyH.nil
        have hlx := HKZ.out
        refine wp_store_row 27 (.tmp 6) (.tmp 28) rfl kz #[.slice p0 J.l0.length n0, .slice p1 J.l1.length n1, .slice p2 J.l2.length n2, .slice p3 J.l3.length n3, .slice p4 J.l4.length n4, .slice p5 J.l5.length n5, .slice p6 J.l6.length n6, .slice p7 J.l7.length n7, .bool J.sp, .bool J.kl] rfl rfl 27 _ KZ.out (by rw [Try.infoEf]; rfl) rfl one10 ?_
        have LX : Hid (Below w2.heap.size w2 (g6.setRow kz #[.slice p0 J.l0.length n0, .slice p1 J.l1.length n1, .slice p2 J.l2.length n2, .slice p3 J.l3.length n3, .slice p4 J.l4.length n4, .slice p5 J.l5.length n5, .slice p6 J.l6.length n6, .slice p7 J.l7.length n7, .bool J.sp, .bool J.kl])) := below_setRow LX.out hlx _
        have KZ : Hid (Blk (g6.setRow kz #[.slice p0 J.l0.length n0, .slice p1 J.l1.length n1, .slice p2 J.l2.length n2, .slice p3 J.l3.length n3, .slice p4 J.l4.length n4, .slice p5 J.l5.length n5, .slice p6 J.l6.length n6, .slice p7 J.l7.length n7, .bool J.sp, .bool J.kl]) kz #[.slice p0 J.l0.length n0, .slice p1 J.l1.length n1, .slice p2 J.l2.length n2, .slice p3 J.l3.length n3, .slice p4 J.l4.length n4, .slice p5 J.l5.length n5, .slice p6 J.l6.length n6, .slice p7 J.l7.length n7, .bool J.sp, .bool J.kl] 27) := setRow_heap _ _ _ _ _ _ KZ.out
        have OJ : Hid (OE (g6.setRow kz #[.slice p0 J.l0.length n0, .slice p1 J.l1.length n1, .slice p2 J.l2.length n2, .slice p3 J.l3.length n3, .slice p4 J.l4.length n4, .slice p5 J.l5.length n5, .slice p6 J.l6.length n6, .slice p7 J.l7.length n7, .bool J.sp, .bool J.kl]) 0 p0 p1 p2 p3 p4 p5 p6 p7 n0 n1 n2 n3 n4 n5 n6 n7 J) := OJ.out.row NZ.out _
        have K0 : Hid (Blk (g6.setRow kz #[.slice p0 J.l0.length n0, .slice p1 J.l1.length n1, .slice p2 J.l2.length n2, .slice p3 J.l3.length n3, .slice p4 J.l4.length n4, .slice p5 J.l5.length n5, .slice p6 J.l6.length n6, .slice p7 J.l7.length n7, .bool J.sp, .bool J.kl]) w.heap.size #[.slice a0 V.l0.length c0, .slice a1 V.l1.length c1, .slice a2 V.l2.length c2, .slice a3 V.l3.length c3, .slice a4 V.l4.length c4, .slice a5 V.l5.length c5, .slice a6 V.l6.length c6, .slice a7 V.l7.length c7, .bool V.sp, .bool V.kl] 24) := (setRow_other _ _ _ _ (by have := ltX; omega)).trans K0.out
        have K1 : Hid (Blk (g6.setRow kz #[.slice p0 J.l0.length n0, .slice p1 J.l1.length n1, .slice p2 J.l2.length n2, .slice p3 J.l3.length n3, .slice p4 J.l4.length n4, .slice p5 J.l5.length n5, .slice p6 J.l6.length n6, .slice p7 J.l7.length n7, .bool J.sp, .bool J.kl]) (w.heap.size + 1) #[.slice b0 U.l0.length d0, .slice b1 U.l1.length d1, .slice b2 U.l2.length d2, .slice b3 U.l3.length d3, .slice b4 U.l4.length d4, .slice b5 U.l5.length d5, .slice b6 U.l6.length d6, .slice b7 U.l7.length d7, .bool U.sp, .bool U.kl] 24) := (setRow_other _ _ _ _ (by have := ltX; omega)).trans K1.out
        refine hK.out _ _ ?_ (fun hHeld => ?_)
        · exact ⟨K0.out, K1.out⟩
        clear hK K
        try simp only [List.foldl, Act.put, List.setIfInBounds_toArray, List.set_cons_zero, List.set_cons_succ]
        refine wpAnyH_done (by kernel_rfl) ?_ _
        go_wp2_with fail
        go_meet
        exact ⟨kz, p0, p1, p2, p3, p4, p5, p6, p7, n0, n1, n2, n3, n4, n5, n6, n7, J, rfl, KZ.out, OJ.out, HJ.out, LX.out⟩
      refine AllReadyH.cons rfl (fun K hK => ?_) AllReadyH.nil
      go_simp
      have hg : Below g1.heap.size g1 (g1.alloc (.cells #[.slice none 0 0, .slice none 0 0, .slice none 0 0, .slice none 0 0, .slice none 0 0, .slice none 0 0, .slice none 0 0, .slice none 0 0, .bool false, .bool false] 27)) := bl_alloc (Below.refl _ _) _
      have KZ : Hid (Blk (g1.alloc (.cells #[.slice none 0 0, .slice none 0 0, .slice none 0 0, .slice none 0 0, .slice none 0 0, .slice none 0 0, .slice none 0 0, .slice none 0 0, .bool false, .bool false] 27)) g1.heap.size #[.slice none 0 0, .slice none 0 0, .slice none 0 0, .slice none 0 0, .slice none 0 0, .slice none 0 0, .slice none 0 0, .slice none 0 0, .bool false, .bool false] 27) := Blk.new _ _ _
      have hxs : w2.heap.size ≤ g1.heap.size := LX.out.size
      have LX : Hid (Below w2.heap.size w2 (g1.alloc (.cells #[.slice none 0 0, .slice none 0 0, .slice none 0 0, .slice none 0 0, .slice none 0 0, .slice none 0 0, .slice none 0 0, .slice none 0 0, .bool false, .bool false] 27))) := bl_trans LX.out hg
      have IA : Hid (InE (g1.alloc (.cells #[.slice none 0 0, .slice none 0 0, .slice none 0 0, .slice none 0 0, .slice none 0 0, .slice none 0 0, .slice none 0 0, .slice none 0 0, .bool false, .bool false] 27)) 0 (some ⟨e0, 0, none⟩) (some ⟨e1, 0, none⟩) (some ⟨e2, 0, none⟩) (some ⟨e3, 0, none⟩) (some ⟨e4, 0, none⟩) (some ⟨e5, 0, none⟩) (some ⟨e6, 0, none⟩) (some ⟨e7, 0, none⟩) V) := IA.out.later hg
      have K0 : Hid (Blk (g1.alloc (.cells #[.slice none 0 0, .slice none 0 0, .slice none 0 0, .slice none 0 0, .slice none 0 0, .slice none 0 0, .slice none 0 0, .slice none 0 0, .bool false, .bool false] 27)) w.heap.size #[.slice a0 V.l0.length c0, .slice a1 V.l1.length c1, .slice a2 V.l2.length c2, .slice a3 V.l3.length c3, .slice a4 V.l4.length c4, .slice a5 V.l5.length c5, .slice a6 V.l6.length c6, .slice a7 V.l7.length c7, .bool V.sp, .bool V.kl] 24) := K0.out.later hg
      have K1 : Hid (Blk (g1.alloc (.cells #[.slice none 0 0, .slice none 0 0, .slice none 0 0, .slice none 0 0, .slice none 0 0, .slice none 0 0, .slice none 0 0, .slice none 0 0, .bool false, .bool false] 27)) (w.heap.size + 1) #[.slice b0 U.l0.length d0, .slice b1 U.l1.length d1, .slice b2 U.l2.length d2, .slice b3 U.l3.length d3, .slice b4 U.l4.length d4, .slice b5 U.l5.length d5, .slice b6 U.l6.length d6, .slice b7 U.l7.length d7, .bool U.sp, .bool U.kl] 24) := K1.out.later hg
      clear hg
      refine hK.out _ _ ?_ (fun hHeld => ?_)
      · exact ⟨K0.out, K1.out⟩
      clear hK K
      try simp only [List.foldl, Act.put, List.setIfInBounds_toArray, List.set_cons_zero, List.set_cons_succ]
      generalize hGe : (g1.alloc (.cells #[.slice none 0 0, .slice none 0 0, .slice none 0 0, .slice none 0 0, .slice none 0 0, .slice none 0 0, .slice none 0 0, .slice none 0 0, .bool false, .bool false] 27)) = g7 at KZ hHeld LX IA K0 K1 ⊢
      obtain ⟨kz, hkz⟩ : ∃ k, g1.heap.size = k := ⟨_, rfl⟩
      have HKZ : Hid (w2.heap.size ≤ kz) := Nat.le_trans hxs (Nat.le_of_eq hkz)
      clear hxs
      rw [hkz] at KZ
      try rw [hkz]
      clear hGe hkz
      refine wpAnyH_ready (rs := [3]) (by kernel_rfl) (by simp) ?_
      refine AllReadyH.cons rfl (fun K hK => ?_) AllReadyH.nil
      go_simp
      refine (toEffect_made b0 b1 b2 b3 b4 b5 b6 b7 d0 d1 d2 d3 d4 d5 d6 d7 U 0 _ (HU.out.later (bl_trans L2 LX.out)) KU.out).mono ?_
      rintro z g8 ⟨⟨f0, f1, f2, f3, f4, f5, f6, f7, rfl, hI⟩, hb⟩
      have hc : Below g7.heap.size g7 g8 := hb
      have LX : Hid (Below w2.heap.size w2 g8) := bl_trans LX.out hc
      have IB : Hid (InE g8 0 (some ⟨f0, 0, none⟩) (some ⟨f1, 0, none⟩) (some ⟨f2, 0, none⟩) (some ⟨f3, 0, none⟩) (some ⟨f4, 0, none⟩) (some ⟨f5, 0, none⟩) (some ⟨f6, 0, none⟩) (some ⟨f7, 0, none⟩) U) := hI.drop (Nat.zero_le _)
      have IA : Hid (InE g8 0 (some ⟨e0, 0, none⟩) (some ⟨e1, 0, none⟩) (some ⟨e2, 0, none⟩) (some ⟨e3, 0, none⟩) (some ⟨e4, 0, none⟩) (some ⟨e5, 0, none⟩) (some ⟨e6, 0, none⟩) (some ⟨e7, 0, none⟩) V) := IA.out.later hc
      have KZ : Hid (Blk g8 kz #[.slice none 0 0, .slice none 0 0, .slice none 0 0, .slice none 0 0, .slice none 0 0, .slice none 0 0, .slice none 0 0, .slice none 0 0, .bool false, .bool false] 27) := KZ.out.later hc
      have K0 : Hid (Blk g8 w.heap.size #[.slice a0 V.l0.length c0, .slice a1 V.l1.length c1, .slice a2 V.l2.length c2, .slice a3 V.l3.length c3, .slice a4 V.l4.length c4, .slice a5 V.l5.length c5, .slice a6 V.l6.length c6, .slice a7 V.l7.length c7, .bool V.sp, .bool V.kl] 24) := K0.out.later hc
      have K1 : Hid (Blk g8 (w.heap.size + 1) #[.slice b0 U.l0.length d0, .slice b1 U.l1.length d1, .slice b2 U.l2.length d2, .slice b3 U.l3.length d3, .slice b4 U.l4.length d4, .slice b5 U.l5.length d5, .slice b6 U.l6.length d6, .slice b7 U.l7.length d7, .bool U.sp, .bool U.kl] 24) := K1.out.later hc
      clear hb hc hI 
      refine hK.out _ _ ?_ (fun hHeld => ?_)
      · exact ⟨K0.out, K1.out⟩
      clear hK K
      try simp only [List.foldl, Act.put, List.setIfInBounds_toArray, List.set_cons_zero, List.set_cons_succ]
      refine wpAnyH_ready (rs := [4]) (by kernel_rfl) (by simp) ?_
      refine AllReadyH.cons rfl (fun K hK => ?_) AllReadyH.nil
      go_simp
      refine (specJoin_any _ _ _ _ _ _ _ _ _ _ _ _ _ _ _ _ V _ _ _ _ _ _ _ _ _ _ _ _ _ _ _ _ U _ _ _ IA.out IB.out KV2.out KU2.out).mono ?_
      rintro z g9 ⟨⟨p0, p1, p2, p3, p4, p5, p6, p7, n0, n1, n2, n3, n4, n5, n6, n7, J, rfl, hO, hJ⟩, hb⟩
      have hc : Below g8.heap.size g8 g9 := hb
      have LX : Hid (Below w2.heap.size w2 g9) := bl_trans LX.out hc
      have OJ : Hid (OE g9 0 p0 p1 p2 p3 p4 p5 p6 p7 n0 n1 n2 n3 n4 n5 n6 n7 J) := hO.drop (Nat.zero_le _)
      have HJ : Hid (JoinIs V U J) := hJ
      have NZ : Hid (NoB kz p0 p1 p2 p3 p4 p5 p6 p7 n0 n1 n2 n3 n4 n5 n6 n7 J) := hO.no_lt KZ.out.lt
      have KZ : Hid (Blk g9 kz #[.slice none 0 0, .slice none 0 0, .slice none 0 0, .slice none 0 0, .slice none 0 0, .slice none 0 0, .slice none 0 0, .slice none 0 0, .bool false, .bool false] 27) := KZ.out.later hc
      have K0 : Hid (Blk g9 w.heap.size #[.slice a0 V.l0.length c0, .slice a1 V.l1.length c1, .slice a2 V.l2.length c2, .slice a3 V.l3.length c3, .slice a4 V.l4.length c4, .slice a5 V.l5.length c5, .slice a6 V.l6.length c6, .slice a7 V.l7.length c7, .bool V.sp, .bool V.kl] 24) := K0.out.later hc
      have K1 : Hid (Blk g9 (w.heap.size + 1) #[.slice b0 U.l0.length d0, .slice b1 U.l1.length d1, .slice b2 U.l2.length d2, .slice b3 U.l3.length d3, .slice b4 U.l4.length d4, .slice b5 U.l5.length d5, .slice b6 U.l6.length d6, .slice b7 U.l7.length d7, .bool U.sp, .bool U.kl] 24) := K1.out.later hc
      clear hb hc hO hJ IA IB
      refine hK.out _ _ ?_ (fun hHeld => ?_)
      · exact ⟨K0.out, K1.out⟩
      clear hK K
      try simp only [List.foldl, Act.put, List.setIfInBounds_toArray, List.set_cons_zero, List.set_cons_succ]
      refine wpAnyH_ready (rs := [6]) (by kernel_rfl) (by simp) ?_
      refine AllReadyH.cons rfl (fun K hK => ?_) AllReadyH.nil
      have hlx := HKZ.out
      refine wp_store_row 27 (.tmp 6) (.tmp 28) rfl kz #[.slice p0 J.l0.length n0, .slice p1 J.l1.length n1, .slice p2 J.l2.length n2, .slice p3 J.l3.length n3, .slice p4 J.l4.length n4, .slice p5 J.l5.length n5, .slice p6 J.l6.length n6, .slice p7 J.l7.length n7, .bool J.sp, .bool J.kl] rfl rfl 27 _ KZ.out (by rw [Try.infoEf]; rfl) rfl one10 ?_
      have LX : Hid (Below w2.heap.size w2 (g9.setRow kz #[.slice p0 J.l0.length n0, .slice p1 J.l1.length n1, .slice p2 J.l2.length n2, .slice p3 J.l3.length n3, .slice p4 J.l4.length n4, .slice p5 J.l5.length n5, .slice p6 J.l6.length n6, .slice p7 J.l7.length n7, .bool J.sp, .bool J.kl])) := below_setRow LX.out hlx _
      have KZ : Hid (Blk (g9.setRow kz #[.slice p0 J.l0.length n0, .slice p1 J.l1.length n1, .slice p2 J.l2.length n2, .slice p3 J.l3.length n3, .slice p4 J.l4.length n4, .slice p5 J.l5.length n5, .slice p6 J.l6.length n6, .slice p7 J.l7.length n7, .bool J.sp, .bool J.kl]) kz #[.slice p0 J.l0.length n0, .slice p1 J.l1.length n1, .slice p2 J.l2.length n2, .slice p3 J.l3.length n3, .slice p4 J.l4.length n4, .slice p5 J.l5.length n5, .slice p6 J.l6.length n6, .slice p7 J.l7.length n7, .bool J.sp, .bool J.kl] 27) := setRow_heap _ _ _ _ _ _ KZ.out
      have OJ : Hid (OE (g9.setRow kz #[.slice p0 J.l0.length n0, .slice p1 J.l1.length n1, .slice p2 J.l2.length n2, .slice p3 J.l3.length n3, .slice p4 J.l4.length n4, .slice p5 J.l5.length n5, .slice p6 J.l6.length n6, .slice p7 J.l7.length n7, .bool J.sp, .bool J.kl]) 0 p0 p1 p2 p3 p4 p5 p6 p7 n0 n1 n2 n3 n4 n5 n6 n7 J) := OJ.out.row NZ.out _
      have K0 : Hid (Blk (g9.setRow kz #[.slice p0 J.l0.length n0, .slice p1 J.l1.length n1, .slice p2 J.l2.length n2, .slice p3 J.l3.length n3, .slice p4 J.l4.length n4, .slice p5 J.l5.length n5, .slice p6 J.l6.length n6, .slice p7 J.l7.length n7, .bool J.sp, .bool J.kl]) w.heap.size #[.slice a0 V.l0.length c0, .slice a1 V.l1.length c1, .slice a2 V.l2.length c2, .slice a3 V.l3.length c3, .slice a4 V.l4.length c4, .slice a5 V.l5.length c5, .slice a6 V.l6.length c6, .slice a7 V.l7.length c7, .bool V.sp, .bool V.kl] 24) := (setRow_other _ _ _ _ (by have := ltX; omega)).trans K0.out
      have K1 : Hid (Blk (g9.setRow kz #[.slice p0 J.l0.length n0, .slice p1 J.l1.length n1, .slice p2 J.l2.length n2, .slice p3 J.l3.length n3, .slice p4 J.l4.length n4, .slice p5 J.l5.length n5, .slice p6 J.l6.length n6, .slice p7 J.l7.length n7, .bool J.sp, .bool J.kl]) (w.heap.size + 1) #[.slice b0 U.l0.length d0, .slice b1 U.l1.length d1, .slice b2 U.l2.length d2, .slice b3 U.l3.length d3, .slice b4 U.l4.length d4, .slice b5 U.l5.length d5, .slice b6 U.l6.length d6, .slice b7 U.l7.length d7, .bool U.sp, .bool U.kl] 24) := (setRow_other _ _ _ _ (by have := ltX; omega)).trans K1.out
      refine hK.out _ _ ?_ (fun hHeld => ?_)
      · exact ⟨K0.out, K1.out⟩
      clear hK K
      try simp only [List.foldl, Act.put, List.setIfInBounds_toArray, List.set_cons_zero, List.set_cons_succ]
      refine wpAnyH_done (by kernel_rfl) ?_ _
      go_wp2_with fail
      go_meet
      exact ⟨kz, p0, p1, p2, p3, p4, p5, p6, p7, n0, n1, n2, n3, n4, n5, n6, n7, J, rfl, KZ.out, OJ.out, HJ.out, LX.out⟩
    refine AllReadyH.cons rfl (fun K hK => ?_) AllReadyH.nil
    go_simp
    have hg : Below w2.heap.size w2 (w2.alloc (.cells #[.slice none 0 0, .slice none 0 0, .slice none 0 0, .slice none 0 0, .slice none 0 0, .slice none 0 0, .slice none 0 0, .slice none 0 0, .bool false, .bool false] 27)).drew := bl_drew (bl_alloc (Below.refl _ _) _)
    have KZ : Hid (Blk (w2.alloc (.cells #[.slice none 0 0, .slice none 0 0, .slice none 0 0, .slice none 0 0, .slice none 0 0, .slice none 0 0, .slice none 0 0, .slice none 0 0, .bool false, .bool false] 27)).drew w2.heap.size #[.slice none 0 0, .slice none 0 0, .slice none 0 0, .slice none 0 0, .slice none 0 0, .slice none 0 0, .slice none 0 0, .slice none 0 0, .bool false, .bool false] 27) := Blk.new _ _ _
    have hxs : w2.heap.size ≤ w2.heap.size := LX.out.size
    have LX : Hid (Below w2.heap.size w2 (w2.alloc (.cells #[.slice none 0 0, .slice none 0 0, .slice none 0 0, .slice none 0 0, .slice none 0 0, .slice none 0 0, .slice none 0 0, .slice none 0 0, .bool false, .bool false] 27)).drew) := bl_trans LX.out hg
    have K0 : Hid (Blk (w2.alloc (.cells #[.slice none 0 0, .slice none 0 0, .slice none 0 0, .slice none 0 0, .slice none 0 0, .slice none 0 0, .slice none 0 0, .slice none 0 0, .bool false, .bool false] 27)).drew w.heap.size #[.slice a0 V.l0.length c0, .slice a1 V.l1.length c1, .slice a2 V.l2.length c2, .slice a3 V.l3.length c3, .slice a4 V.l4.length c4, .slice a5 V.l5.length c5, .slice a6 V.l6.length c6, .slice a7 V.l7.length c7, .bool V.sp, .bool V.kl] 24) := K0.out.later hg
    have K1 : Hid (Blk (w2.alloc (.cells #[.slice none 0 0, .slice none 0 0, .slice none 0 0, .slice none 0 0, .slice none 0 0, .slice none 0 0, .slice none 0 0, .slice none 0 0, .bool false, .bool false] 27)).drew (w.heap.size + 1) #[.slice b0 U.l0.length d0, .slice b1 U.l1.length d1, .slice b2 U.l2.length d2, .slice b3 U.l3.length d3, .slice b4 U.l4.length d4, .slice b5 U.l5.length d5, .slice b6 U.l6.length d6, .slice b7 U.l7.length d7, .bool U.sp, .bool U.kl] 24) := K1.out.later hg
    clear hg
    refine hK.out _ _ ?_ (fun hHeld => ?_)
    · exact ⟨K0.out, K1.out⟩
    clear hK K
    try simp only [List.foldl, Act.put, List.setIfInBounds_toArray, List.set_cons_zero, List.set_cons_succ]
    generalize hGe : (w2.alloc (.cells #[.slice none 0 0, .slice none 0 0, .slice none 0 0, .slice none 0 0, .slice none 0 0, .slice none 0 0, .slice none 0 0, .slice none 0 0, .bool false, .bool false] 27)).drew = g10 at KZ hHeld LX K0 K1 ⊢
    obtain ⟨kz, hkz⟩ : ∃ k, w2.heap.size = k := ⟨_, rfl⟩
    have HKZ : Hid (w2.heap.size ≤ kz) := Nat.le_trans hxs (Nat.le_of_eq hkz)
    clear hxs
    rw [hkz] at KZ
    try rw [hkz]
    clear hGe hkz
    refine wpAnyH_ready (rs := [1]) (by kernel_rfl) (by simp) ?_
    refine AllReadyH.cons rfl (fun K hK => ?_) AllReadyH.nil
    go_simp
    refine (toEffect_made a0 a1 a2 a3 a4 a5 a6 a7 c0 c1 c2 c3 c4 c5 c6 c7 V 0 _ (HV.out.later (bl_trans L2 LX.out)) KV.out).mono ?_
    rintro z g11 ⟨⟨e0, e1, e2, e3, e4, e5, e6, e7, rfl, hI⟩, hb⟩
    have hc : Below g10.heap.size g10 g11 := hb
    have LX : Hid (Below w2.heap.size w2 g11) := bl_trans LX.out hc
    have IA : Hid (InE g11 0 (some ⟨e0, 0, none⟩) (some ⟨e1, 0, none⟩) (some ⟨e2, 0, none⟩) (some ⟨e3, 0, none⟩) (some ⟨e4, 0, none⟩) (some ⟨e5, 0, none⟩) (some ⟨e6, 0, none⟩) (some ⟨e7, 0, none⟩) V) := hI.drop (Nat.zero_le _)
    have KZ : Hid (Blk g11 kz #[.slice none 0 0, .slice none 0 0, .slice none 0 0, .slice none 0 0, .slice none 0 0, .slice none 0 0, .slice none 0 0, .slice none 0 0, .bool false, .bool false] 27) := KZ.out.later hc
    have K0 : Hid (Blk g11 w.heap.size #[.slice a0 V.l0.length c0, .slice a1 V.l1.length c1, .slice a2 V.l2.length c2, .slice a3 V.l3.length c3, .slice a4 V.l4.length c4, .slice a5 V.l5.length c5, .slice a6 V.l6.length c6, .slice a7 V.l7.length c7, .bool V.sp, .bool V.kl] 24) := K0.out.later hc
    have K1 : Hid (Blk g11 (w.heap.size + 1) #[.slice b0 U.l0.length d0, .slice b1 U.l1.length d1, .slice b2 U.l2.length d2, .slice b3 U.l3.length d3, .slice b4 U.l4.length d4, .slice b5 U.l5.length d5, .slice b6 U.l6.length d6, .slice b7 U.l7.length d7, .bool U.sp, .bool U.kl] 24) := K1.out.later hc
    clear hb hc hI 
    refine hK.out _ _ ?_ (fun hHeld => ?_)
    · exact ⟨K0.out, K1.out⟩
    clear hK K
    try simp only [List.foldl, Act.put, List.setIfInBounds_toArray, List.set_cons_zero, List.set_cons_succ]
    refine wpAnyH_ready (rs := [3]) (by kernel_rfl) (by simp) ?_
    refine AllReadyH.cons rfl (fun K hK => ?_) AllReadyH.nil
    go_simp
    refine (toEffect_made b0 b1 b2 b3 b4 b5 b6 b7 d0 d1 d2 d3 d4 d5 d6 d7 U 0 _ (HU.out.later (bl_trans L2 LX.out)) KU.out).mono ?_
    rintro z g12 ⟨⟨f0, f1, f2, f3, f4, f5, f6, f7, rfl, hI⟩, hb⟩
    have hc : Below g11.heap.size g11 g12 := hb
    have LX : Hid (Below w2.heap.size w2 g12) := bl_trans LX.out hc
    have IB : Hid (InE g12 0 (some ⟨f0, 0, none⟩) (some ⟨f1, 0, none⟩) (some ⟨f2, 0, none⟩) (some ⟨f3, 0, none⟩) (some ⟨f4, 0, none⟩) (some ⟨f5, 0, none⟩) (some ⟨f6, 0, none⟩) (some ⟨f7, 0, none⟩) U) := hI.drop (Nat.zero_le _)
    have KZ : Hid (Blk g12 kz #[.slice none 0 0, .slice none 0 0, .slice none 0 0, .slice none 0 0, .slice none 0 0, .slice none 0 0, .slice none 0 0, .slice none 0 0, .bool false, .bool false] 27) := KZ.out.later hc
    have IA : Hid (InE g12 0 (some ⟨e0, 0, none⟩) (some ⟨e1, 0, none⟩) (some ⟨e2, 0, none⟩) (some ⟨e3, 0, none⟩) (some ⟨e4, 0, none⟩) (some ⟨e5, 0, none⟩) (some ⟨e6, 0, none⟩) (some ⟨e7, 0, none⟩) V) := IA.out.later hc
    have K0 : Hid (Blk g12 w.heap.size #[.slice a0 V.l0.length c0, .slice a1 V.l1.length c1, .slice a2 V.l2.length c2, .slice a3 V.l3.length c3, .slice a4 V.l4.length c4, .slice a5 V.l5.length c5, .slice a6 V.l6.length c6, .slice a7 V.l7.length c7, .bool V.sp, .bool V.kl] 24) := K0.out.later hc
    have K1 : Hid (Blk g12 (w.heap.size + 1) #[.slice b0 U.l0.length d0, .slice b1 U.l1.length d1, .slice b2 U.l2.length d2, .slice b3 U.l3.length d3, .slice b4 U.l4.length d4, .slice b5 U.l5.length d5, .slice b6 U.l6.length d6, .slice b7 U.l7.length d7, .bool U.sp, .bool U.kl] 24) := K1.out.later hc
    clear hb hc hI 
    refine hK.out _ _ ?_ (fun hHeld => ?_)
    · exact ⟨K0.out, K1.out⟩
    clear hK K
    try simp only [List.foldl, Act.put, List.setIfInBounds_toArray, List.set_cons_zero, List.set_cons_succ]
    refine wpAnyH_ready (rs := [4]) (by kernel_rfl) (by simp) ?_
    refine AllReadyH.cons rfl (fun K hK => ?_) AllReadyH.nil
    go_simp
    refine (specJoin_any _ _ _ _ _ _ _ _ _ _ _ _ _ _ _ _ V _ _ _ _ _ _ _ _ _ _ _ _ _ _ _ _ U _ _ _ IA.out IB.out KV2.out KU2.out).mono ?_
    rintro z g13 ⟨⟨p0, p1, p2, p3, p4, p5, p6, p7, n0, n1, n2, n3, n4, n5, n6, n7, J, rfl, hO, hJ⟩, hb⟩
    have hc : Below g12.heap.size g12 g13 := hb
    have LX : Hid (Below w2.heap.size w2 g13) := bl_trans LX.out hc
    have OJ : Hid (OE g13 0 p0 p1 p2 p3 p4 p5 p6 p7 n0 n1 n2 n3 n4 n5 n6 n7 J) := hO.drop (Nat.zero_le _)
    have HJ : Hid (JoinIs V U J) := hJ
    have NZ : Hid (NoB kz p0 p1 p2 p3 p4 p5 p6 p7 n0 n1 n2 n3 n4 n5 n6 n7 J) := hO.no_lt KZ.out.lt
    have KZ : Hid (Blk g13 kz #[.slice none 0 0, .slice none 0 0, .slice none 0 0, .slice none 0 0, .slice none 0 0, .slice none 0 0, .slice none 0 0, .slice none 0 0, .bool false, .bool false] 27) := KZ.out.later hc
    have K0 : Hid (Blk g13 w.heap.size #[.slice a0 V.l0.length c0, .slice a1 V.l1.length c1, .slice a2 V.l2.length c2, .slice a3 V.l3.length c3, .slice a4 V.l4.length c4, .slice a5 V.l5.length c5, .slice a6 V.l6.length c6, .slice a7 V.l7.length c7, .bool V.sp, .bool V.kl] 24) := K0.out.later hc
    have K1 : Hid (Blk g13 (w.heap.size + 1) #[.slice b0 U.l0.length d0, .slice b1 U.l1.length d1, .slice b2 U.l2.length d2, .slice b3 U.l3.length d3, .slice b4 U.l4.length d4, .slice b5 U.l5.length d5, .slice b6 U.l6.length d6, .slice b7 U.l7.length d7, .bool U.sp, .bool U.kl] 24) := K1.out.later hc
    clear hb hc hO hJ IA IB
    refine hK.out _ _ ?_ (fun hHeld => ?_)
    · exact ⟨K0.out, K1.out⟩
    clear hK K
    try simp only [List.foldl, Act.put, List.setIfInBounds_toArray, List.set_cons_zero, List.set_cons_succ]
    refine wpAnyH_ready (rs := [6]) (by kernel_rfl) (by simp) ?_
    refine AllReadyH.cons rfl (fun K hK => ?_) AllReadyH.nil
    have hlx := HKZ.out
    refine wp_store_row 27 (.tmp 6) (.tmp 28) rfl kz #[.slice p0 J.l0.length n0, .slice p1 J.l1.length n1, .slice p2 J.l2.length n2, .slice p3 J.l3.length n3, .slice p4 J.l4.length n4, .slice p5 J.l5.length n5, .slice p6 J.l6.length n6, .slice p7 J.l7.length n7, .bool J.sp, .bool J.kl] rfl rfl 27 _ KZ.out (by rw [Try.infoEf]; rfl) rfl one10 ?_
    have LX : Hid (Below w2.heap.size w2 (g13.setRow kz #[.slice p0 J.l0.length n0, .slice p1 J.l1.length n1, .slice p2 J.l2.length n2, .slice p3 J.l3.length n3, .slice p4 J.l4.length n4, .slice p5 J.l5.length n5, .slice p6 J.l6.length n6, .slice p7 J.l7.length n7, .bool J.sp, .bool J.kl])) := below_setRow LX.out hlx _
    have KZ : Hid (Blk (g13.setRow kz #[.slice p0 J.l0.length n0, .slice p1 J.l1.length n1, .slice p2 J.l2.length n2, .slice p3 J.l3.length n3, .slice p4 J.l4.length n4, .slice p5 J.l5.length n5, .slice p6 J.l6.length n6, .slice p7 J.l7.length n7, .bool J.sp, .bool J.kl]) kz #[.slice p0 J.l0.length n0, .slice p1 J.l1.length n1, .slice p2 J.l2.length n2, .slice p3 J.l3.length n3, .slice p4 J.l4.length n4, .slice p5 J.l5.length n5, .slice p6 J.l6.length n6, .slice p7 J.l7.length n7, .bool J.sp, .bool J.kl] 27) := setRow_heap _ _ _ _ _ _ KZ.out
    have OJ : Hid (OE (g13.setRow kz #[.slice p0 J.l0.length n0, .slice p1 J.l1.length n1, .slice p2 J.l2.length n2, .slice p3 J.l3.length n3, .slice p4 J.l4.length n4, .slice p5 J.l5.length n5, .slice p6 J.l6.length n6, .slice p7 J.l7.length n7, .bool J.sp, .bool J.kl]) 0 p0 p1 p2 p3 p4 p5 p6 p7 n0 n1 n2 n3 n4 n5 n6 n7 J) := OJ.out.row NZ.out _
    have K0 : Hid (Blk (g13.setRow kz #[.slice p0 J.l0.length n0, .slice p1 J.l1.length n1, .slice p2 J.l2.length n2, .slice p3 J.l3.length n3, .slice p4 J.l4.length n4, .slice p5 J.l5.length n5, .slice p6 J.l6.length n6, .slice p7 J.l7.length n7, .bool J.sp, .bool J.kl]) w.heap.size #[.slice a0 V.l0.length c0, .slice a1 V.l1.length c1, .slice a2 V.l2.length c2, .slice a3 V.l3.length c3, .slice a4 V.l4.length c4, .slice a5 V.l5.length c5, .slice a6 V.l6.length c6, .slice a7 V.l7.length c7, .bool V.sp, .bool V.kl] 24) := (setRow_other _ _ _ _ (by have := ltX; omega)).trans K0.out
    have K1 : Hid (Blk (g13.setRow kz #[.slice p0 J.l0.length n0, .slice p1 J.l1.length n1, .slice p2 J.l2.length n2, .slice p3 J.l3.length n3, .slice p4 J.l4.length n4, .slice p5 J.l5.length n5, .slice p6 J.l6.length n6, .slice p7 J.l7.length n7, .bool J.sp, .bool J.kl]) (w.heap.size + 1) #[.slice b0 U.l0.length d0, .slice b1 U.l1.length d1, .slice b2 U.l2.length d2, .slice b3 U.l3.length d3, .slice b4 U.l4.length d4, .slice b5 U.l5.length d5, .slice b6 U.l6.length d6, .slice b7 U.l7.length d7, .bool U.sp, .bool U.kl] 24) := (setRow_other _ _ _ _ (by have := ltX; omega)).trans K1.out
    refine hK.out _ _ ?_ (fun hHeld => ?_)
    · exact ⟨K0.out, K1.out⟩
    clear hK K
    try simp only [List.foldl, Act.put, List.setIfInBounds_toArray, List.set_cons_zero, List.set_cons_succ]
    refine wpAnyH_done (by kernel_rfl) ?_ _
    go_wp2_with fail
    go_meet
    exact ⟨kz, p0, p1, p2, p3, p4, p5, p6, p7, n0, n1, n2, n3, n4, n5, n6, n7, J, rfl, KZ.out, OJ.out, HJ.out, LX.out⟩
  case rest =>
    obtain ⟨kz, p0, p1, p2, p3, p4, p5, p6, p7, n0, n1, n2, n3, n4, n5, n6, n7, J, rfl, KW, OJ, HJ, hwx⟩ := hcut
    have HJ := Hid.mk' HJ
    have lJ : Hid (∀ i, (J.lst i).length ≤ 2097152) := HJ.out.len KV.out KU.out
    have KLJ : Hid (J.l0.length ≤ 4398046511104 ∧ J.l1.length ≤ 4398046511104 ∧ J.l2.length ≤ 4398046511104 ∧ J.l3.length ≤ 4398046511104 ∧ J.l4.length ≤ 4398046511104 ∧ J.l5.length ≤ 4398046511104 ∧ J.l6.length ≤ 4398046511104 ∧ J.l7.length ≤ 4398046511104) := by show _ ∧ _; have q := lJ.out; exact ⟨Nat.le_trans (q 0) (by omega), Nat.le_trans (q 1) (by omega), Nat.le_trans (q 2) (by omega), Nat.le_trans (q 3) (by omega), Nat.le_trans (q 4) (by omega), Nat.le_trans (q 5) (by omega), Nat.le_trans (q 6) (by omega), Nat.le_trans (q 7) (by omega)⟩
    have L3 : Hid (Below w.heap.size w wc) := bl_trans L2 hwx
    have K0 := K0.out.later hwx
    have K1 := K1.out.later hwx
    have nz : Hid (kz < wc.heap.size) := KW.lt
    have nK : Hid (w.heap.size + 1 < wc.heap.size) := K1.lt
    have KW0 := Hid.mk' KW
    have OJ0 := Hid.mk' OJ
    clear hwx L2 ltX KW OJ
    obtain ⟨x0, x1, x2, x3, x4, x5, x6, x7, x8, x9, xf⟩ := K0.ten
    go_wp2_with fail
    refine (toEffect_made a0 a1 a2 a3 a4 a5 a6 a7 c0 c1 c2 c3 c4 c5 c6 c7 V 0 _ (HV.out.later L3.out) KV.out).mono ?_
    rintro e wd ⟨⟨h0, h1, h2, h3, h4, h5, h6, h7, rfl, hx⟩, hbd⟩
    have hcd : Hid (wc.heap.size ≤ wd.heap.size) := hbd.size
    have KX := Blk.new wd #[.slice (some ⟨h0, 0, none⟩) V.l0.length V.l0.length, .slice (some ⟨h1, 0, none⟩) V.l1.length V.l1.length, .slice (some ⟨h2, 0, none⟩) V.l2.length V.l2.length, .slice (some ⟨h3, 0, none⟩) V.l3.length V.l3.length, .slice (some ⟨h4, 0, none⟩) V.l4.length V.l4.length, .slice (some ⟨h5, 0, none⟩) V.l5.length V.l5.length, .slice (some ⟨h6, 0, none⟩) V.l6.length V.l6.length, .slice (some ⟨h7, 0, none⟩) V.l7.length V.l7.length, .bool V.sp, .bool V.kl] 27
    have LYY : Below wd.heap.size wd (wd.alloc (.cells #[.slice (some ⟨h0, 0, none⟩) V.l0.length V.l0.length, .slice (some ⟨h1, 0, none⟩) V.l1.length V.l1.length, .slice (some ⟨h2, 0, none⟩) V.l2.length V.l2.length, .slice (some ⟨h3, 0, none⟩) V.l3.length V.l3.length, .slice (some ⟨h4, 0, none⟩) V.l4.length V.l4.length, .slice (some ⟨h5, 0, none⟩) V.l5.length V.l5.length, .slice (some ⟨h6, 0, none⟩) V.l6.length V.l6.length, .slice (some ⟨h7, 0, none⟩) V.l7.length V.l7.length, .bool V.sp, .bool V.kl] 27)) := bl_alloc (Below.refl _ _) _
    replace K0 := (K0.later hbd).later LYY
    replace K1 := (K1.later hbd).later LYY
    replace hx := hx.later LYY
    have LD : Below wc.heap.size wc (wd.alloc (.cells #[.slice (some ⟨h0, 0, none⟩) V.l0.length V.l0.length, .slice (some ⟨h1, 0, none⟩) V.l1.length V.l1.length, .slice (some ⟨h2, 0, none⟩) V.l2.length V.l2.length, .slice (some ⟨h3, 0, none⟩) V.l3.length V.l3.length, .slice (some ⟨h4, 0, none⟩) V.l4.length V.l4.length, .slice (some ⟨h5, 0, none⟩) V.l5.length V.l5.length, .slice (some ⟨h6, 0, none⟩) V.l6.length V.l6.length, .slice (some ⟨h7, 0, none⟩) V.l7.length V.l7.length, .bool V.sp, .bool V.kl] 27)) := bl_trans hbd LYY
    clear x0 x1 x2 x3 x4 x5 x6 x7 x8 x9 xf hbd LYY
    obtain ⟨y0, y1, y2, y3, y4, y5, y6, y7, y8, y9, yf⟩ := K1.ten
    go_wp2_with fail
    clear y0 y1 y2 y3 y4 y5 y6 y7 y8 y9 yf
    generalize hX : wd.alloc (.cells #[.slice (some ⟨h0, 0, none⟩) V.l0.length V.l0.length, .slice (some ⟨h1, 0, none⟩) V.l1.length V.l1.length, .slice (some ⟨h2, 0, none⟩) V.l2.length V.l2.length, .slice (some ⟨h3, 0, none⟩) V.l3.length V.l3.length, .slice (some ⟨h4, 0, none⟩) V.l4.length V.l4.length, .slice (some ⟨h5, 0, none⟩) V.l5.length V.l5.length, .slice (some ⟨h6, 0, none⟩) V.l6.length V.l6.length, .slice (some ⟨h7, 0, none⟩) V.l7.length V.l7.length, .bool V.sp, .bool V.kl] 27) = Y at KX K0 K1 LD hx ⊢
    clear hX
    refine (toEffect_made b0 b1 b2 b3 b4 b5 b6 b7 d0 d1 d2 d3 d4 d5 d6 d7 U 0 _ (HU.out.later (bl_trans L3.out LD)) KU.out).mono ?_
    rintro e we ⟨⟨k0, k1, k2, k3, k4, k5, k6, k7, rfl, hy⟩, hbe⟩
    have hde : Hid (wc.heap.size ≤ we.heap.size) := by have := LD.size; have := hbe.size; show _ ≤ _; omega
    replace hy := hy.drop LD.size
    have KY := Blk.new we #[.slice (some ⟨k0, 0, none⟩) U.l0.length U.l0.length, .slice (some ⟨k1, 0, none⟩) U.l1.length U.l1.length, .slice (some ⟨k2, 0, none⟩) U.l2.length U.l2.length, .slice (some ⟨k3, 0, none⟩) U.l3.length U.l3.length, .slice (some ⟨k4, 0, none⟩) U.l4.length U.l4.length, .slice (some ⟨k5, 0, none⟩) U.l5.length U.l5.length, .slice (some ⟨k6, 0, none⟩) U.l6.length U.l6.length, .slice (some ⟨k7, 0, none⟩) U.l7.length U.l7.length, .bool U.sp, .bool U.kl] 27
    have LZ : Below we.heap.size we (we.alloc (.cells #[.slice (some ⟨k0, 0, none⟩) U.l0.length U.l0.length, .slice (some ⟨k1, 0, none⟩) U.l1.length U.l1.length, .slice (some ⟨k2, 0, none⟩) U.l2.length U.l2.length, .slice (some ⟨k3, 0, none⟩) U.l3.length U.l3.length, .slice (some ⟨k4, 0, none⟩) U.l4.length U.l4.length, .slice (some ⟨k5, 0, none⟩) U.l5.length U.l5.length, .slice (some ⟨k6, 0, none⟩) U.l6.length U.l6.length, .slice (some ⟨k7, 0, none⟩) U.l7.length U.l7.length, .bool U.sp, .bool U.kl] 27)) := bl_alloc (Below.refl _ _) _
    replace KX := (KX.later hbe).later LZ
    replace K0 := (K0.later hbe).later LZ
    replace K1 := (K1.later hbe).later LZ
    replace hx := (hx.later hbe).later LZ
    replace hy := hy.later LZ
    have LE := bl_trans (bl_trans LD hbe) LZ
    clear LD hbe LZ
    obtain ⟨x0, x1, x2, x3, x4, x5, x6, x7, x8, x9, xf⟩ := KX.ten
    obtain ⟨y0, y1, y2, y3, y4, y5, y6, y7, y8, y9, yf⟩ := KY.ten
    go_wp2_with fail
    generalize hZ : we.alloc (.cells #[.slice (some ⟨k0, 0, none⟩) U.l0.length U.l0.length, .slice (some ⟨k1, 0, none⟩) U.l1.length U.l1.length, .slice (some ⟨k2, 0, none⟩) U.l2.length U.l2.length, .slice (some ⟨k3, 0, none⟩) U.l3.length U.l3.length, .slice (some ⟨k4, 0, none⟩) U.l4.length U.l4.length, .slice (some ⟨k5, 0, none⟩) U.l5.length U.l5.length, .slice (some ⟨k6, 0, none⟩) U.l6.length U.l6.length, .slice (some ⟨k7, 0, none⟩) U.l7.length U.l7.length, .bool U.sp, .bool U.kl] 27) = Z at KX KY K0 K1 LE hx hy x0 x1 x2 x3 x4 x5 x6 x7 x8 x9 xf y0 y1 y2 y3 y4 y5 y6 y7 y8 y9 yf ⊢
    clear hZ
    have KXZ := Hid.mk' KX
    have KYZ := Hid.mk' KY
    have HXZ := Hid.mk' hx
    have HYZ := Hid.mk' hy
    refine (implJoin_any _ _ _ _ _ _ _ _ _ _ _ _ _ _ _ _ V _ _ _ _ _ _ _ _ _ _ _ _ _ _ _ _ U _ _ Z hx hy (lst_le KV2.out) (lst_le KU2.out)).mono ?_
    rintro e wf ⟨⟨P, Cp, N, J', rfl, hC, hJ'⟩, hbf⟩
    obtain rfl : J = J' := (HJ.out.same hJ').symm
    have KG := Blk.new wf #[.slice (P 0) J.l0.length (Cp 0), .slice (P 1) J.l1.length (Cp 1), .slice (P 2) J.l2.length (Cp 2), .slice (P 3) J.l3.length (Cp 3), .slice (P 4) J.l4.length (Cp 4), .slice (P 5) J.l5.length (Cp 5), .slice (P 6) J.l6.length (Cp 6), .slice (P 7) J.l7.length (Cp 7), .bool J.sp, .bool J.kl] 27
    have LG : Below wf.heap.size wf (wf.alloc (.cells #[.slice (P 0) J.l0.length (Cp 0), .slice (P 1) J.l1.length (Cp 1), .slice (P 2) J.l2.length (Cp 2), .slice (P 3) J.l3.length (Cp 3), .slice (P 4) J.l4.length (Cp 4), .slice (P 5) J.l5.length (Cp 5), .slice (P 6) J.l6.length (Cp 6), .slice (P 7) J.l7.length (Cp 7), .bool J.sp, .bool J.kl] 27)) := bl_alloc (Below.refl _ _) _
    have hfg : Hid (N 8 ≤ wf.heap.size) := hC.2.2.2
    have hZf : Hid (Z.heap.size ≤ wf.heap.size) := hbf.size
    have LZG : Below Z.heap.size Z (wf.alloc (.cells #[.slice (P 0) J.l0.length (Cp 0), .slice (P 1) J.l1.length (Cp 1), .slice (P 2) J.l2.length (Cp 2), .slice (P 3) J.l3.length (Cp 3), .slice (P 4) J.l4.length (Cp 4), .slice (P 5) J.l5.length (Cp 5), .slice (P 6) J.l6.length (Cp 6), .slice (P 7) J.l7.length (Cp 7), .bool J.sp, .bool J.kl] 27)) := bl_trans hbf LG
    have CH := Hid.mk' (hC.later LG)
    have KW1 : Hid (Blk (wf.alloc (.cells #[.slice (P 0) J.l0.length (Cp 0), .slice (P 1) J.l1.length (Cp 1), .slice (P 2) J.l2.length (Cp 2), .slice (P 3) J.l3.length (Cp 3), .slice (P 4) J.l4.length (Cp 4), .slice (P 5) J.l5.length (Cp 5), .slice (P 6) J.l6.length (Cp 6), .slice (P 7) J.l7.length (Cp 7), .bool J.sp, .bool J.kl] 27)) kz #[.slice p0 J.l0.length n0, .slice p1 J.l1.length n1, .slice p2 J.l2.length n2, .slice p3 J.l3.length n3, .slice p4 J.l4.length n4, .slice p5 J.l5.length n5, .slice p6 J.l6.length n6, .slice p7 J.l7.length n7, .bool J.sp, .bool J.kl] 27) := (KW0.out.later LE).later LZG
    have OJ1 : Hid (OE (wf.alloc (.cells #[.slice (P 0) J.l0.length (Cp 0), .slice (P 1) J.l1.length (Cp 1), .slice (P 2) J.l2.length (Cp 2), .slice (P 3) J.l3.length (Cp 3), .slice (P 4) J.l4.length (Cp 4), .slice (P 5) J.l5.length (Cp 5), .slice (P 6) J.l6.length (Cp 6), .slice (P 7) J.l7.length (Cp 7), .bool J.sp, .bool J.kl] 27)) 0 p0 p1 p2 p3 p4 p5 p6 p7 n0 n1 n2 n3 n4 n5 n6 n7 J) := (OJ0.out.later LE).later LZG
    have K0 := Hid.mk' (K0.later LZG)
    have K1 := Hid.mk' (K1.later LZG)
    have KG := Hid.mk' KG
    have LCZ := Hid.mk' LE
    have LZG := Hid.mk' LZG
    clear hC hJ' hbf LG LE hx hy KX KY x0 x1 x2 x3 x4 x5 x6 x7 x8 x9 xf y0 y1 y2 y3 y4 y5 y6 y7 y8 y9 yf
    obtain ⟨x0, x1, x2, x3, x4, x5, x6, x7, x8, x9, xf⟩ := KG.out.ten
    obtain ⟨y0, y1, y2, y3, y4, y5, y6, y7, y8, y9, yf⟩ := KW1.out.ten
    go_wp2_with fail
    generalize hG : wf.alloc (.cells #[.slice (P 0) J.l0.length (Cp 0), .slice (P 1) J.l1.length (Cp 1), .slice (P 2) J.l2.length (Cp 2), .slice (P 3) J.l3.length (Cp 3), .slice (P 4) J.l4.length (Cp 4), .slice (P 5) J.l5.length (Cp 5), .slice (P 6) J.l6.length (Cp 6), .slice (P 7) J.l7.length (Cp 7), .bool J.sp, .bool J.kl] 27) = X9 at CH KW1 OJ1 K0 K1 KG LZG x0 x1 x2 x3 x4 x5 x6 x7 x8 x9 xf y0 y1 y2 y3 y4 y5 y6 y7 y8 y9 yf ⊢
    clear hG
    refine (eqEffect_self _ _ _ _ _ _ _ _ _ _ _ _ _ _ _ _ _ _ _ _ _ _ _ _ _ _ _ _ _ _ _ _ J _ _ X9 CH.out.oe.inE OJ1.out.inE KLJ.out).mono ?_
    rintro e xa ⟨rfl, hba⟩
    have LZa : Hid (Below Z.heap.size Z xa) := bl_trans LZG.out hba
    have CHa := Hid.mk' (CH.out.later hba)
    have K0a : Hid (Blk xa w.heap.size #[.slice a0 V.l0.length c0, .slice a1 V.l1.length c1, .slice a2 V.l2.length c2, .slice a3 V.l3.length c3, .slice a4 V.l4.length c4, .slice a5 V.l5.length c5, .slice a6 V.l6.length c6, .slice a7 V.l7.length c7, .bool V.sp, .bool V.kl] 24) := K0.out.later hba
    have K1a : Hid (Blk xa (w.heap.size + 1) #[.slice b0 U.l0.length d0, .slice b1 U.l1.length d1, .slice b2 U.l2.length d2, .slice b3 U.l3.length d3, .slice b4 U.l4.length d4, .slice b5 U.l5.length d5, .slice b6 U.l6.length d6, .slice b7 U.l7.length d7, .bool U.sp, .bool U.kl] 24) := K1.out.later hba
    have KGa : Hid (Blk xa wf.heap.size #[.slice (P 0) J.l0.length (Cp 0), .slice (P 1) J.l1.length (Cp 1), .slice (P 2) J.l2.length (Cp 2), .slice (P 3) J.l3.length (Cp 3), .slice (P 4) J.l4.length (Cp 4), .slice (P 5) J.l5.length (Cp 5), .slice (P 6) J.l6.length (Cp 6), .slice (P 7) J.l7.length (Cp 7), .bool J.sp, .bool J.kl] 27) := KG.out.later hba
    have KXa : Hid (Blk xa wd.heap.size #[.slice (some ⟨h0, 0, none⟩) V.l0.length V.l0.length, .slice (some ⟨h1, 0, none⟩) V.l1.length V.l1.length, .slice (some ⟨h2, 0, none⟩) V.l2.length V.l2.length, .slice (some ⟨h3, 0, none⟩) V.l3.length V.l3.length, .slice (some ⟨h4, 0, none⟩) V.l4.length V.l4.length, .slice (some ⟨h5, 0, none⟩) V.l5.length V.l5.length, .slice (some ⟨h6, 0, none⟩) V.l6.length V.l6.length, .slice (some ⟨h7, 0, none⟩) V.l7.length V.l7.length, .bool V.sp, .bool V.kl] 27) := KXZ.out.later LZa.out
    have LWa : Hid (Below w.heap.size w xa) := bl_trans L3.out (bl_trans LCZ.out LZa.out)
    have HXa : Hid (InE xa _ (some ⟨h0, 0, none⟩) (some ⟨h1, 0, none⟩) (some ⟨h2, 0, none⟩) (some ⟨h3, 0, none⟩) (some ⟨h4, 0, none⟩) (some ⟨h5, 0, none⟩) (some ⟨h6, 0, none⟩) (some ⟨h7, 0, none⟩) V) := HXZ.out.later LZa.out
    clear hba CH KW1 OJ1 K0 K1 KG LZG x0 x1 x2 x3 x4 x5 x6 x7 x8 x9 xf y0 y1 y2 y3 y4 y5 y6 y7 y8 y9 yf
    obtain ⟨x0, x1, x2, x3, x4, x5, x6, x7, x8, x9, xf⟩ := KXa.out.ten
    obtain ⟨z0, z1, z2, z3, z4, z5, z6, z7, z8, z9, zf⟩ := K0a.out.ten
    go_wp2_with fail
    go_region_held3 (fun w' => w'.cell? ⟨wd.heap.size, 0, none⟩ = some (.slice (some ⟨h0, 0, none⟩) V.l0.length V.l0.length) ∧ w'.cell? ⟨wd.heap.size, 1, none⟩ = some (.slice (some ⟨h1, 0, none⟩) V.l1.length V.l1.length) ∧ w'.cell? ⟨wd.heap.size, 2, none⟩ = some (.slice (some ⟨h2, 0, none⟩) V.l2.length V.l2.length) ∧ w'.cell? ⟨wd.heap.size, 3, none⟩ = some (.slice (some ⟨h3, 0, none⟩) V.l3.length V.l3.length) ∧ w'.cell? ⟨wd.heap.size, 4, none⟩ = some (.slice (some ⟨h4, 0, none⟩) V.l4.length V.l4.length) ∧ w'.cell? ⟨wd.heap.size, 5, none⟩ = some (.slice (some ⟨h5, 0, none⟩) V.l5.length V.l5.length) ∧ w'.cell? ⟨wd.heap.size, 6, none⟩ = some (.slice (some ⟨h6, 0, none⟩) V.l6.length V.l6.length) ∧ w'.cell? ⟨wd.heap.size, 7, none⟩ = some (.slice (some ⟨h7, 0, none⟩) V.l7.length V.l7.length) ∧ w'.cell? ⟨wd.heap.size, 8, none⟩ = some (.bool V.sp) ∧ w'.cell? ⟨wd.heap.size, 9, none⟩ = some (.bool V.kl) ∧ w'.cell? ⟨w.heap.size, 0, none⟩ = some (.slice a0 V.l0.length c0) ∧ w'.cell? ⟨w.heap.size, 1, none⟩ = some (.slice a1 V.l1.length c1) ∧ w'.cell? ⟨w.heap.size, 2, none⟩ = some (.slice a2 V.l2.length c2) ∧ w'.cell? ⟨w.heap.size, 3, none⟩ = some (.slice a3 V.l3.length c3) ∧ w'.cell? ⟨w.heap.size, 4, none⟩ = some (.slice a4 V.l4.length c4) ∧ w'.cell? ⟨w.heap.size, 5, none⟩ = some (.slice a5 V.l5.length c5) ∧ w'.cell? ⟨w.heap.size, 6, none⟩ = some (.slice a6 V.l6.length c6) ∧ w'.cell? ⟨w.heap.size, 7, none⟩ = some (.slice a7 V.l7.length c7) ∧ w'.cell? ⟨w.heap.size, 8, none⟩ = some (.bool V.sp) ∧ w'.cell? ⟨w.heap.size, 9, none⟩ = some (.bool V.kl)) (simp [x0, x1, x2, x3, x4, x5, x6, x7, x8, x9, z0, z1, z2, z3, z4, z5, z6, z7, z8, z9])
      (first
        | (go_at_call 9; refine (toEffect_made a0 a1 a2 a3 a4 a5 a6 a7 c0 c1 c2 c3 c4 c5 c6 c7 V 0 _ (HV.out.later (bl_drew LWa.out)) KV.out).mono ?_; rintro e wg ⟨⟨q0, q1, q2, q3, q4, q5, q6, q7, rfl, hIg⟩, hbg⟩; have hwg : Below xa.heap.size xa wg := bl_trans (bl_drew (Below.refl _ _)) hbg; obtain ⟨x0, x1, x2, x3, x4, x5, x6, x7, x8, x9, xf⟩ := (KXa.out.later hwg).ten; obtain ⟨z0, z1, z2, z3, z4, z5, z6, z7, z8, z9, zf⟩ := (K0a.out.later hwg).ten)
        | (go_at_call 11; refine (eqEffect_self _ _ _ _ _ _ _ _ _ _ _ _ _ _ _ _ _ _ _ _ _ _ _ _ _ _ _ _ _ _ _ _ V _ _ wg (HXa.out.later hwg) hIg KLV.out).mono ?_; rintro e wh ⟨rfl, hbh⟩; have hwh : Below xa.heap.size xa wh := bl_trans hwg hbh; obtain ⟨x0, x1, x2, x3, x4, x5, x6, x7, x8, x9, xf⟩ := (KXa.out.later hwh).ten; obtain ⟨z0, z1, z2, z3, z4, z5, z6, z7, z8, z9, zf⟩ := (K0a.out.later hwh).ten))
    have LZh : Hid (Below Z.heap.size Z wh) := bl_trans LZa.out hwh
    have CHh := Hid.mk' (CHa.out.later hwh)
    have K0h : Hid (Blk wh w.heap.size #[.slice a0 V.l0.length c0, .slice a1 V.l1.length c1, .slice a2 V.l2.length c2, .slice a3 V.l3.length c3, .slice a4 V.l4.length c4, .slice a5 V.l5.length c5, .slice a6 V.l6.length c6, .slice a7 V.l7.length c7, .bool V.sp, .bool V.kl] 24) := K0a.out.later hwh
    have K1h : Hid (Blk wh (w.heap.size + 1) #[.slice b0 U.l0.length d0, .slice b1 U.l1.length d1, .slice b2 U.l2.length d2, .slice b3 U.l3.length d3, .slice b4 U.l4.length d4, .slice b5 U.l5.length d5, .slice b6 U.l6.length d6, .slice b7 U.l7.length d7, .bool U.sp, .bool U.kl] 24) := K1a.out.later hwh
    have KGh : Hid (Blk wh wf.heap.size #[.slice (P 0) J.l0.length (Cp 0), .slice (P 1) J.l1.length (Cp 1), .slice (P 2) J.l2.length (Cp 2), .slice (P 3) J.l3.length (Cp 3), .slice (P 4) J.l4.length (Cp 4), .slice (P 5) J.l5.length (Cp 5), .slice (P 6) J.l6.length (Cp 6), .slice (P 7) J.l7.length (Cp 7), .bool J.sp, .bool J.kl] 27) := KGa.out.later hwh
    have LWh : Hid (Below w.heap.size w wh) := bl_trans LWa.out hwh
    have KYh : Hid (Blk wh we.heap.size #[.slice (some ⟨k0, 0, none⟩) U.l0.length U.l0.length, .slice (some ⟨k1, 0, none⟩) U.l1.length U.l1.length, .slice (some ⟨k2, 0, none⟩) U.l2.length U.l2.length, .slice (some ⟨k3, 0, none⟩) U.l3.length U.l3.length, .slice (some ⟨k4, 0, none⟩) U.l4.length U.l4.length, .slice (some ⟨k5, 0, none⟩) U.l5.length U.l5.length, .slice (some ⟨k6, 0, none⟩) U.l6.length U.l6.length, .slice (some ⟨k7, 0, none⟩) U.l7.length U.l7.length, .bool U.sp, .bool U.kl] 27) := KYZ.out.later LZh.out
    have HYh : Hid (InE wh _ (some ⟨k0, 0, none⟩) (some ⟨k1, 0, none⟩) (some ⟨k2, 0, none⟩) (some ⟨k3, 0, none⟩) (some ⟨k4, 0, none⟩) (some ⟨k5, 0, none⟩) (some ⟨k6, 0, none⟩) (some ⟨k7, 0, none⟩) U) := HYZ.out.later LZh.out
    clear hwg hbg hwh hbh hIg x0 x1 x2 x3 x4 x5 x6 x7 x8 x9 xf z0 z1 z2 z3 z4 z5 z6 z7 z8 z9 zf CHa K0a K1a KGa LWa KXa HXa LZa
    obtain ⟨x0, x1, x2, x3, x4, x5, x6, x7, x8, x9, xf⟩ := KYh.out.ten
    obtain ⟨z0, z1, z2, z3, z4, z5, z6, z7, z8, z9, zf⟩ := K1h.out.ten
    go_wp2_with fail
    go_region_held3 (fun w' => w'.cell? ⟨we.heap.size, 0, none⟩ = some (.slice (some ⟨k0, 0, none⟩) U.l0.length U.l0.length) ∧ w'.cell? ⟨we.heap.size, 1, none⟩ = some (.slice (some ⟨k1, 0, none⟩) U.l1.length U.l1.length) ∧ w'.cell? ⟨we.heap.size, 2, none⟩ = some (.slice (some ⟨k2, 0, none⟩) U.l2.length U.l2.length) ∧ w'.cell? ⟨we.heap.size, 3, none⟩ = some (.slice (some ⟨k3, 0, none⟩) U.l3.length U.l3.length) ∧ w'.cell? ⟨we.heap.size, 4, none⟩ = some (.slice (some ⟨k4, 0, none⟩) U.l4.length U.l4.length) ∧ w'.cell? ⟨we.heap.size, 5, none⟩ = some (.slice (some ⟨k5, 0, none⟩) U.l5.length U.l5.length) ∧ w'.cell? ⟨we.heap.size, 6, none⟩ = some (.slice (some ⟨k6, 0, none⟩) U.l6.length U.l6.length) ∧ w'.cell? ⟨we.heap.size, 7, none⟩ = some (.slice (some ⟨k7, 0, none⟩) U.l7.length U.l7.length) ∧ w'.cell? ⟨we.heap.size, 8, none⟩ = some (.bool U.sp) ∧ w'.cell? ⟨we.heap.size, 9, none⟩ = some (.bool U.kl) ∧ w'.cell? ⟨w.heap.size + 1, 0, none⟩ = some (.slice b0 U.l0.length d0) ∧ w'.cell? ⟨w.heap.size + 1, 1, none⟩ = some (.slice b1 U.l1.length d1) ∧ w'.cell? ⟨w.heap.size + 1, 2, none⟩ = some (.slice b2 U.l2.length d2) ∧ w'.cell? ⟨w.heap.size + 1, 3, none⟩ = some (.slice b3 U.l3.length d3) ∧ w'.cell? ⟨w.heap.size + 1, 4, none⟩ = some (.slice b4 U.l4.length d4) ∧ w'.cell? ⟨w.heap.size + 1, 5, none⟩ = some (.slice b5 U.l5.length d5) ∧ w'.cell? ⟨w.heap.size + 1, 6, none⟩ = some (.slice b6 U.l6.length d6) ∧ w'.cell? ⟨w.heap.size + 1, 7, none⟩ = some (.slice b7 U.l7.length d7) ∧ w'.cell? ⟨w.heap.size + 1, 8, none⟩ = some (.bool U.sp) ∧ w'.cell? ⟨w.heap.size + 1, 9, none⟩ = some (.bool U.kl)) (simp [x0, x1, x2, x3, x4, x5, x6, x7, x8, x9, z0, z1, z2, z3, z4, z5, z6, z7, z8, z9])
      (first
        | (go_at_call 9; refine (toEffect_made b0 b1 b2 b3 b4 b5 b6 b7 d0 d1 d2 d3 d4 d5 d6 d7 U 0 _ (HU.out.later (bl_drew LWh.out)) KU.out).mono ?_; rintro e wg ⟨⟨q0, q1, q2, q3, q4, q5, q6, q7, rfl, hIg⟩, hbg⟩; have hwg : Below wh.heap.size wh wg := bl_trans (bl_drew (Below.refl _ _)) hbg; obtain ⟨x0, x1, x2, x3, x4, x5, x6, x7, x8, x9, xf⟩ := (KYh.out.later hwg).ten; obtain ⟨z0, z1, z2, z3, z4, z5, z6, z7, z8, z9, zf⟩ := (K1h.out.later hwg).ten)
        | (go_at_call 11; refine (eqEffect_self _ _ _ _ _ _ _ _ _ _ _ _ _ _ _ _ _ _ _ _ _ _ _ _ _ _ _ _ _ _ _ _ U _ _ wg (HYh.out.later hwg) hIg KLU.out).mono ?_; rintro e wi ⟨rfl, hbi⟩; have hwi : Below wh.heap.size wh wi := bl_trans hwg hbi; obtain ⟨x0, x1, x2, x3, x4, x5, x6, x7, x8, x9, xf⟩ := (KYh.out.later hwi).ten; obtain ⟨z0, z1, z2, z3, z4, z5, z6, z7, z8, z9, zf⟩ := (K1h.out.later hwi).ten))
    have LZi : Hid (Below Z.heap.size Z wi) := bl_trans LZh.out hwi
    have CHi := Hid.mk' (CHh.out.later hwi)
    have K0i : Hid (Blk wi w.heap.size #[.slice a0 V.l0.length c0, .slice a1 V.l1.length c1, .slice a2 V.l2.length c2, .slice a3 V.l3.length c3, .slice a4 V.l4.length c4, .slice a5 V.l5.length c5, .slice a6 V.l6.length c6, .slice a7 V.l7.length c7, .bool V.sp, .bool V.kl] 24) := K0h.out.later hwi
    have K1i : Hid (Blk wi (w.heap.size + 1) #[.slice b0 U.l0.length d0, .slice b1 U.l1.length d1, .slice b2 U.l2.length d2, .slice b3 U.l3.length d3, .slice b4 U.l4.length d4, .slice b5 U.l5.length d5, .slice b6 U.l6.length d6, .slice b7 U.l7.length d7, .bool U.sp, .bool U.kl] 24) := K1h.out.later hwi
    have KGi : Hid (Blk wi wf.heap.size #[.slice (P 0) J.l0.length (Cp 0), .slice (P 1) J.l1.length (Cp 1), .slice (P 2) J.l2.length (Cp 2), .slice (P 3) J.l3.length (Cp 3), .slice (P 4) J.l4.length (Cp 4), .slice (P 5) J.l5.length (Cp 5), .slice (P 6) J.l6.length (Cp 6), .slice (P 7) J.l7.length (Cp 7), .bool J.sp, .bool J.kl] 27) := KGh.out.later hwi
    have LWi : Hid (Below w.heap.size w wi) := bl_trans LWh.out hwi
    have KXi : Hid (Blk wi wd.heap.size #[.slice (some ⟨h0, 0, none⟩) V.l0.length V.l0.length, .slice (some ⟨h1, 0, none⟩) V.l1.length V.l1.length, .slice (some ⟨h2, 0, none⟩) V.l2.length V.l2.length, .slice (some ⟨h3, 0, none⟩) V.l3.length V.l3.length, .slice (some ⟨h4, 0, none⟩) V.l4.length V.l4.length, .slice (some ⟨h5, 0, none⟩) V.l5.length V.l5.length, .slice (some ⟨h6, 0, none⟩) V.l6.length V.l6.length, .slice (some ⟨h7, 0, none⟩) V.l7.length V.l7.length, .bool V.sp, .bool V.kl] 27) := KXZ.out.later LZi.out
    clear hwg hbg hwi hbi hIg x0 x1 x2 x3 x4 x5 x6 x7 x8 x9 xf z0 z1 z2 z3 z4 z5 z6 z7 z8 z9 zf CHh K0h K1h KGh LWh KYh HYh LZh
    -- marks of the arguments
    have hp : 0 < wc.heap.size := by have := nK.out; omega
    have hlo : wc.heap.size ≤ wi.heap.size := by have := LCZ.out.size; have := LZi.out.size; omega
    have hlz : Hid (wc.heap.size ≤ Z.heap.size) := LCZ.out.size
    obtain ⟨x0, x1, x2, x3, x4, x5, x6, x7, x8, x9, xf⟩ := KXi.out.ten
    go_wp2_with fail
    refine (markEffect_w wc.heap.size Z wi (some ⟨h0, 0, none⟩) (some ⟨h1, 0, none⟩) (some ⟨h2, 0, none⟩) (some ⟨h3, 0, none⟩) (some ⟨h4, 0, none⟩) (some ⟨h5, 0, none⟩) (some ⟨h6, 0, none⟩) (some ⟨h7, 0, none⟩) V.l0.length V.l1.length V.l2.length V.l3.length V.l4.length V.l5.length V.l6.length V.l7.length V 1 _ HXZ.out hp hlo (Mr.start LZi.out _) KV.out (by omega) (by omega)).mono ?_
    rintro e wj ⟨⟨q1, rfl, q10, q11⟩, hM1⟩
    have M1 := Hid.mk' hM1
    have hy0 := KYZ.out.ten
    have hyl : we.heap.size < Z.heap.size := KYZ.out.lt
    have hyw := hde.out
    obtain ⟨y0, y1, y2, y3, y4, y5, y6, y7, y8, y9, yf⟩ := hy0
    have z0 := M1.out.sl hyw hyl y0
    have z1 := M1.out.sl hyw hyl y1
    have z2 := M1.out.sl hyw hyl y2
    have z3 := M1.out.sl hyw hyl y3
    have z4 := M1.out.sl hyw hyl y4
    have z5 := M1.out.sl hyw hyl y5
    have z6 := M1.out.sl hyw hyl y6
    have z7 := M1.out.sl hyw hyl y7
    have z8 := M1.out.bo hyw hyl y8
    have z9 := M1.out.bo hyw hyl y9
    clear hM1 x0 x1 x2 x3 x4 x5 x6 x7 x8 x9 xf y0 y1 y2 y3 y4 y5 y6 y7 y8 y9 yf KXi
    go_wp2_with fail
    refine (markEffect_w wc.heap.size Z wi (some ⟨k0, 0, none⟩) (some ⟨k1, 0, none⟩) (some ⟨k2, 0, none⟩) (some ⟨k3, 0, none⟩) (some ⟨k4, 0, none⟩) (some ⟨k5, 0, none⟩) (some ⟨k6, 0, none⟩) (some ⟨k7, 0, none⟩) U.l0.length U.l1.length U.l2.length U.l3.length U.l4.length U.l5.length U.l6.length U.l7.length U q1 _ HYZ.out hp hlo M1.out KU.out q10 (by omega)).mono ?_
    rintro e wk ⟨⟨q2, rfl, q20, q21⟩, hM2⟩
    have M2 := Hid.mk' hM2
    have CHk : Hid (Ch wk Z.heap.size P Cp N J.lst 8) := CHi.out.same2 (fun g h1 h2 => hM2.out g h1 h2) (by have := CHi.out.2.2.2; have := hM2.be.size; omega)
    have KGk : Hid (Blk wk wf.heap.size #[.slice (P 0) J.l0.length (Cp 0), .slice (P 1) J.l1.length (Cp 1), .slice (P 2) J.l2.length (Cp 2), .slice (P 3) J.l3.length (Cp 3), .slice (P 4) J.l4.length (Cp 4), .slice (P 5) J.l5.length (Cp 5), .slice (P 6) J.l6.length (Cp 6), .slice (P 7) J.l7.length (Cp 7), .bool J.sp, .bool J.kl] 27) := hM2.blk hZf.out KGi.out
    have BEk : Hid (Below wc.heap.size wc wk) := (bl_trans LCZ.out LZi.out).trans hM2.be
    have KWk : Hid (Blk wk kz #[.slice p0 J.l0.length n0, .slice p1 J.l1.length n1, .slice p2 J.l2.length n2, .slice p3 J.l3.length n3, .slice p4 J.l4.length n4, .slice p5 J.l5.length n5, .slice p6 J.l6.length n6, .slice p7 J.l7.length n7, .bool J.sp, .bool J.kl] 27) := KW0.out.same' (BEk.out.block kz nz.out)
    have OJk : Hid (OE wk 0 p0 p1 p2 p3 p4 p5 p6 p7 n0 n1 n2 n3 n4 n5 n6 n7 J) := OJ0.out.same (fun g hg => BEk.out.block g hg)
    have K0k : Hid (Blk wk w.heap.size #[.slice a0 V.l0.length c0, .slice a1 V.l1.length c1, .slice a2 V.l2.length c2, .slice a3 V.l3.length c3, .slice a4 V.l4.length c4, .slice a5 V.l5.length c5, .slice a6 V.l6.length c6, .slice a7 V.l7.length c7, .bool V.sp, .bool V.kl] 24) := K0i.out.same' (hM2.be.block _ (by have := nK.out; omega))
    have K1k : Hid (Blk wk (w.heap.size + 1) #[.slice b0 U.l0.length d0, .slice b1 U.l1.length d1, .slice b2 U.l2.length d2, .slice b3 U.l3.length d3, .slice b4 U.l4.length d4, .slice b5 U.l5.length d5, .slice b6 U.l6.length d6, .slice b7 U.l7.length d7, .bool U.sp, .bool U.kl] 24) := K1i.out.same' (hM2.be.block _ nK.out)
    have LWk : Hid (Below w.heap.size w wk) := bl_trans L3.out BEk.out
    have hZk : Hid (Z.heap.size ≤ wk.heap.size) := hM2.s1
    have dd1 : decide (q2 < 0) = false := by simp; omega
    clear hM2 M1 M2 z0 z1 z2 z3 z4 z5 z6 z7 z8 z9 CHi KGi K0i K1i LWi LZi hyl hyw
    obtain ⟨x0, x1, x2, x3, x4, x5, x6, x7, x8, x9, xf⟩ := KGk.out.ten
    obtain ⟨y0, y1, y2, y3, y4, y5, y6, y7, y8, y9, yf⟩ := KWk.out.ten
    go_wp2_with fail
    refine (eqEffect_self _ _ _ _ _ _ _ _ _ _ _ _ _ _ _ _ _ _ _ _ _ _ _ _ _ _ _ _ _ _ _ _ J _ _ wk CHk.out.oe.inE OJk.out.inE KLJ.out).mono ?_
    rintro e wl ⟨rfl, hbl⟩
    have CHl := Hid.mk' (CHk.out.later hbl)
    have KGl : Hid (Blk wl wf.heap.size #[.slice (P 0) J.l0.length (Cp 0), .slice (P 1) J.l1.length (Cp 1), .slice (P 2) J.l2.length (Cp 2), .slice (P 3) J.l3.length (Cp 3), .slice (P 4) J.l4.length (Cp 4), .slice (P 5) J.l5.length (Cp 5), .slice (P 6) J.l6.length (Cp 6), .slice (P 7) J.l7.length (Cp 7), .bool J.sp, .bool J.kl] 27) := KGk.out.later hbl
    have KWl : Hid (Blk wl kz #[.slice p0 J.l0.length n0, .slice p1 J.l1.length n1, .slice p2 J.l2.length n2, .slice p3 J.l3.length n3, .slice p4 J.l4.length n4, .slice p5 J.l5.length n5, .slice p6 J.l6.length n6, .slice p7 J.l7.length n7, .bool J.sp, .bool J.kl] 27) := KWk.out.later hbl
    have OJl : Hid (OE wl 0 p0 p1 p2 p3 p4 p5 p6 p7 n0 n1 n2 n3 n4 n5 n6 n7 J) := OJk.out.later hbl
    have K0l : Hid (Blk wl w.heap.size #[.slice a0 V.l0.length c0, .slice a1 V.l1.length c1, .slice a2 V.l2.length c2, .slice a3 V.l3.length c3, .slice a4 V.l4.length c4, .slice a5 V.l5.length c5, .slice a6 V.l6.length c6, .slice a7 V.l7.length c7, .bool V.sp, .bool V.kl] 24) := K0k.out.later hbl
    have K1l : Hid (Blk wl (w.heap.size + 1) #[.slice b0 U.l0.length d0, .slice b1 U.l1.length d1, .slice b2 U.l2.length d2, .slice b3 U.l3.length d3, .slice b4 U.l4.length d4, .slice b5 U.l5.length d5, .slice b6 U.l6.length d6, .slice b7 U.l7.length d7, .bool U.sp, .bool U.kl] 24) := K1k.out.later hbl
    have LWl : Hid (Below w.heap.size w wl) := bl_trans LWk.out hbl
    have BEl : Hid (Below wc.heap.size wc wl) := bl_trans BEk.out hbl
    have hZl : Hid (Z.heap.size ≤ wl.heap.size) := by have := hZk.out; have := hbl.size; show _ ≤ _; omega
    clear hbl CHk KGk KWk OJk K0k K1k LWk BEk hZk x0 x1 x2 x3 x4 x5 x6 x7 x8 x9 xf y0 y1 y2 y3 y4 y5 y6 y7 y8 y9 yf q10 q11 q20 q21
    -- the answer's own marks
    have lJ9 : Hid (∀ i, (J.lst i).length ≤ 1000000000) := fun i => Nat.le_trans (lJ.out i) (by omega)
    obtain ⟨x0, x1, x2, x3, x4, x5, x6, x7, x8, x9, xf⟩ := KGl.out.ten
    go_wp2_with fail
    refine (markEffect_own P Cp N J Z.heap.size wl CHl.out hZl.out lJ9.out).mono ?_
    rintro e wm ⟨rfl, hCm, hbm, hBm⟩
    have CHm := Hid.mk' hCm
    have KGm : Hid (Blk wm wf.heap.size #[.slice (P 0) J.l0.length (Cp 0), .slice (P 1) J.l1.length (Cp 1), .slice (P 2) J.l2.length (Cp 2), .slice (P 3) J.l3.length (Cp 3), .slice (P 4) J.l4.length (Cp 4), .slice (P 5) J.l5.length (Cp 5), .slice (P 6) J.l6.length (Cp 6), .slice (P 7) J.l7.length (Cp 7), .bool J.sp, .bool J.kl] 27) := hBm _ _ _ hfg.out KGl.out
    have hbw := hbm.mono hlz.out
    have KWm : Hid (Blk wm kz #[.slice p0 J.l0.length n0, .slice p1 J.l1.length n1, .slice p2 J.l2.length n2, .slice p3 J.l3.length n3, .slice p4 J.l4.length n4, .slice p5 J.l5.length n5, .slice p6 J.l6.length n6, .slice p7 J.l7.length n7, .bool J.sp, .bool J.kl] 27) := KWl.out.same' (hbw.block kz nz.out)
    have OJm : Hid (OE wm 0 p0 p1 p2 p3 p4 p5 p6 p7 n0 n1 n2 n3 n4 n5 n6 n7 J) := OJ0.out.same (fun g hg => (BEl.out.trans hbw).block g hg)
    have K0m : Hid (Blk wm w.heap.size #[.slice a0 V.l0.length c0, .slice a1 V.l1.length c1, .slice a2 V.l2.length c2, .slice a3 V.l3.length c3, .slice a4 V.l4.length c4, .slice a5 V.l5.length c5, .slice a6 V.l6.length c6, .slice a7 V.l7.length c7, .bool V.sp, .bool V.kl] 24) := K0l.out.same' (hbw.block _ (by have := nK.out; omega))
    have K1m : Hid (Blk wm (w.heap.size + 1) #[.slice b0 U.l0.length d0, .slice b1 U.l1.length d1, .slice b2 U.l2.length d2, .slice b3 U.l3.length d3, .slice b4 U.l4.length d4, .slice b5 U.l5.length d5, .slice b6 U.l6.length d6, .slice b7 U.l7.length d7, .bool U.sp, .bool U.kl] 24) := K1l.out.same' (hbw.block _ nK.out)
    have LWm : Hid (Below w.heap.size w wm) := bl_trans L3.out (BEl.out.trans hbw)
    clear hCm hbm hBm hbw CHl KGl KWl OJl K0l K1l LWl BEl hZl x0 x1 x2 x3 x4 x5 x6 x7 x8 x9 xf
    obtain ⟨x0, x1, x2, x3, x4, x5, x6, x7, x8, x9, xf⟩ := KGm.out.ten
    go_wp2_with fail
    refine (heldEffect_own P Cp N J Z.heap.size wm CHm.out lJ9.out).mono ?_
    rintro e wy ⟨rfl, hbn⟩
    have CHy := Hid.mk' (CHm.out.later hbn)
    have KGy : Hid (Blk wy wf.heap.size #[.slice (P 0) J.l0.length (Cp 0), .slice (P 1) J.l1.length (Cp 1), .slice (P 2) J.l2.length (Cp 2), .slice (P 3) J.l3.length (Cp 3), .slice (P 4) J.l4.length (Cp 4), .slice (P 5) J.l5.length (Cp 5), .slice (P 6) J.l6.length (Cp 6), .slice (P 7) J.l7.length (Cp 7), .bool J.sp, .bool J.kl] 27) := KGm.out.later hbn
    have KWy : Hid (Blk wy kz #[.slice p0 J.l0.length n0, .slice p1 J.l1.length n1, .slice p2 J.l2.length n2, .slice p3 J.l3.length n3, .slice p4 J.l4.length n4, .slice p5 J.l5.length n5, .slice p6 J.l6.length n6, .slice p7 J.l7.length n7, .bool J.sp, .bool J.kl] 27) := KWm.out.later hbn
    have OJy : Hid (OE wy 0 p0 p1 p2 p3 p4 p5 p6 p7 n0 n1 n2 n3 n4 n5 n6 n7 J) := OJm.out.later hbn
    have K0 : Hid (Blk wy w.heap.size #[.slice a0 V.l0.length c0, .slice a1 V.l1.length c1, .slice a2 V.l2.length c2, .slice a3 V.l3.length c3, .slice a4 V.l4.length c4, .slice a5 V.l5.length c5, .slice a6 V.l6.length c6, .slice a7 V.l7.length c7, .bool V.sp, .bool V.kl] 24) := K0m.out.later hbn
    have K1 : Hid (Blk wy (w.heap.size + 1) #[.slice b0 U.l0.length d0, .slice b1 U.l1.length d1, .slice b2 U.l2.length d2, .slice b3 U.l3.length d3, .slice b4 U.l4.length d4, .slice b5 U.l5.length d5, .slice b6 U.l6.length d6, .slice b7 U.l7.length d7, .bool U.sp, .bool U.kl] 24) := K1m.out.later hbn
    have LY : Hid (Below w.heap.size w wy) := bl_trans LWm.out hbn
    have ltX : w.heap.size + 1 < wy.heap.size := K1.out.lt
    clear hbn CHm KGm KWm OJm K0m K1m LWm x0 x1 x2 x3 x4 x5 x6 x7 x8 x9 xf
    have dd2 : decide ((((((((((1 : Int) + (J.l0.length : Int)) + (J.l1.length : Int)) + (J.l2.length : Int)) + (J.l3.length : Int)) + (J.l4.length : Int)) + (J.l5.length : Int)) + (J.l6.length : Int)) + (J.l7.length : Int)) < 0) = false := by simp; omega
    have dd3 : ((((((((((1 : Int) + (J.l0.length : Int)) + (J.l1.length : Int)) + (J.l2.length : Int)) + (J.l3.length : Int)) + (J.l4.length : Int)) + (J.l5.length : Int)) + (J.l6.length : Int)) + (J.l7.length : Int)) != (((((((((1 : Int) + (J.l0.length : Int)) + (J.l1.length : Int)) + (J.l2.length : Int)) + (J.l3.length : Int)) + (J.l4.length : Int)) + (J.l5.length : Int)) + (J.l6.length : Int)) + (J.l7.length : Int))) = false := by simp
    go_wp2_with fail
    go_cut [13] (fun pz wx => ∃ (kz : Nat) (r0 r1 r2 r3 r4 r5 r6 r7 : Option Addr) (m0 m1 m2 m3 m4 m5 m6 m7 : Nat) (J0 : Ef), pz = .pointer (some ⟨kz, 0, none⟩) ∧ Blk wx kz #[.slice r0 J0.l0.length m0, .slice r1 J0.l1.length m1, .slice r2 J0.l2.length m2, .slice r3 J0.l3.length m3, .slice r4 J0.l4.length m4, .slice r5 J0.l5.length m5, .slice r6 J0.l6.length m6, .slice r7 J0.l7.length m7, .bool J0.sp, .bool J0.kl] 27 ∧ OE wx 0 r0 r1 r2 r3 r4 r5 r6 r7 m0 m1 m2 m3 m4 m5 m6 m7 J0 ∧ JoinIs V U J0 ∧ Below wy.heap.size wy wx)
    case first =>
      clear CHy KGy KWy OJy dd2 dd3
      refine wp_region_held_drew (S := (fun w' => Blk w' w.heap.size #[.slice a0 V.l0.length c0, .slice a1 V.l1.length c1, .slice a2 V.l2.length c2, .slice a3 V.l3.length c3, .slice a4 V.l4.length c4, .slice a5 V.l5.length c5, .slice a6 V.l6.length c6, .slice a7 V.l7.length c7, .bool V.sp, .bool V.kl] 24 ∧ Blk w' (w.heap.size + 1) #[.slice b0 U.l0.length d0, .slice b1 U.l1.length d1, .slice b2 U.l2.length d2, .slice b3 U.l3.length d3, .slice b4 U.l4.length d4, .slice b5 U.l5.length d5, .slice b6 U.l6.length d6, .slice b7 U.l7.length d7, .bool U.sp, .bool U.kl] 24)) (by kernel_rfl) ?_ (fun hHeld => ?_)
      · exact ⟨K0.out, K1.out⟩
      have LX : Hid (Below wy.heap.size wy wy) := Below.refl _ _
      refine wpAnyH_one (i := 0) (d := 75) (v := ?_) rfl rfl (by kernel_rfl) (by kernel_rfl) (by kernel_rfl) (fun _ _ _ h => h) (by rfl) (by assumption) ?_ ?_
      rotate_left 1
      · intro w hSw; (try dsimp only at hSw); obtain ⟨q0, q1⟩ := hSw; obtain ⟨x0, x1, x2, x3, x4, x5, x6, x7, x8, x9, xf⟩ := q0.ten; go_simp <;> with_reducible rfl
      simp only [List.foldl, Act.put, List.setIfInBounds_toArray, List.set_cons_zero, List.set_cons_succ]
      refine wpAnyH_one (i := 2) (d := 77) (v := ?_) rfl rfl (by kernel_rfl) (by kernel_rfl) (by kernel_rfl) (fun _ _ _ h => h) (by rfl) (by assumption) ?_ ?_
      rotate_left 1
      · intro w hSw; (try dsimp only at hSw); obtain ⟨q0, q1⟩ := hSw; obtain ⟨x0, x1, x2, x3, x4, x5, x6, x7, x8, x9, xf⟩ := q1.ten; go_simp <;> with_reducible rfl
      simp only [List.foldl, Act.put, List.setIfInBounds_toArray, List.set_cons_zero, List.set_cons_succ]
      refine wpAnyH_ready (rs := [1, 5]) (by kernel_rfl) (by simp) ?_
      refine AllReadyH.cons rfl (fun K hK => ?_) ?_
      · skip
        go_simp
        refine (toEffect_made a0 a1 a2 a3 a4 a5 a6 a7 c0 c1 c2 c3 c4 c5 c6 c7 V 0 _ (HV.out.later (bl_trans LY.out (bl_drew LX.out))) KV.out).mono ?_
        rintro z g1 ⟨⟨e0, e1, e2, e3, e4, e5, e6, e7, rfl, hI⟩, hb⟩
        have hc : Below wy.heap.size wy g1 := bl_trans (bl_drew (Below.refl _ _)) hb
        have LX : Hid (Below wy.heap.size wy g1) := bl_trans LX.out hc
        have IA : Hid (InE g1 0 (some ⟨e0, 0, none⟩) (some ⟨e1, 0, none⟩) (some ⟨e2, 0, none⟩) (some ⟨e3, 0, none⟩) (some ⟨e4, 0, none⟩) (some ⟨e5, 0, none⟩) (some ⟨e6, 0, none⟩) (some ⟨e7, 0, none⟩) V) := hI.drop (Nat.zero_le _)
        have K0 : Hid (Blk g1 w.heap.size #[.slice a0 V.l0.length c0, .slice a1 V.l1.length c1, .slice a2 V.l2.length c2, .slice a3 V.l3.length c3, .slice a4 V.l4.length c4, .slice a5 V.l5.length c5, .slice a6 V.l6.length c6, .slice a7 V.l7.length c7, .bool V.sp, .bool V.kl] 24) := K0.out.later hc
        have K1 : Hid (Blk g1 (w.heap.size + 1) #[.slice b0 U.l0.length d0, .slice b1 U.l1.length d1, .slice b2 U.l2.length d2, .slice b3 U.l3.length d3, .slice b4 U.l4.length d4, .slice b5 U.l5.length d5, .slice b6 U.l6.length d6, .slice b7 U.l7.length d7, .bool U.sp, .bool U.kl] 24) := K1.out.later hc
        clear hb hc hI 
        refine hK.out _ _ ?_ (fun hHeld => ?_)
        · exact ⟨K0.out, K1.out⟩
        clear hK K
        try simp only [List.foldl, Act.put, List.setIfInBounds_toArray, List.set_cons_zero, List.set_cons_succ]
        refine wpAnyH_ready (rs := [3, 5]) (by kernel_rfl) (by simp) ?_
        refine AllReadyH.cons rfl (fun K hK => ?_) ?_
        · skip
          go_simp
          refine (toEffect_made b0 b1 b2 b3 b4 b5 b6 b7 d0 d1 d2 d3 d4 d5 d6 d7 U 0 _ (HU.out.later (bl_trans LY.out LX.out)) KU.out).mono ?_
          rintro z g2 ⟨⟨f0, f1, f2, f3, f4, f5, f6, f7, rfl, hI⟩, hb⟩
          have hc : Below g1.heap.size g1 g2 := hb
          have LX : Hid (Below wy.heap.size wy g2) := bl_trans LX.out hc
          have IB : Hid (InE g2 0 (some ⟨f0, 0, none⟩) (some ⟨f1, 0, none⟩) (some ⟨f2, 0, none⟩) (some ⟨f3, 0, none⟩) (some ⟨f4, 0, none⟩) (some ⟨f5, 0, none⟩) (some ⟨f6, 0, none⟩) (some ⟨f7, 0, none⟩) U) := hI.drop (Nat.zero_le _)
          have IA : Hid (InE g2 0 (some ⟨e0, 0, none⟩) (some ⟨e1, 0, none⟩) (some ⟨e2, 0, none⟩) (some ⟨e3, 0, none⟩) (some ⟨e4, 0, none⟩) (some ⟨e5, 0, none⟩) (some ⟨e6, 0, none⟩) (some ⟨e7, 0, none⟩) V) := IA.out.later hc
          have K0 : Hid (Blk g2 w.heap.size #[.slice a0 V.l0.length c0, .slice a1 V.l1.length c1, .slice a2 V.l2.length c2, .slice a3 V.l3.length c3, .slice a4 V.l4.length c4, .slice a5 V.l5.length c5, .slice a6 V.l6.length c6, .slice a7 V.l7.length c7, .bool V.sp, .bool V.kl] 24) := K0.out.later hc
          have K1 : Hid (Blk g2 (w.heap.size + 1) #[.slice b0 U.l0.length d0, .slice b1 U.l1.length d1, .slice b2 U.l2.length d2, .slice b3 U.l3.length d3, .slice b4 U.l4.length d4, .slice b5 U.l5.length d5, .slice b6 U.l6.length d6, .slice b7 U.l7.length d7, .bool U.sp, .bool U.kl] 24) := K1.out.later hc
          clear hb hc hI 
          refine hK.out _ _ ?_ (fun hHeld => ?_)
          · exact ⟨K0.out, K1.out⟩
          clear hK K
          try simp only [List.foldl, Act.put, List.setIfInBounds_toArray, List.set_cons_zero, List.set_cons_succ]
          refine wpAnyH_ready (rs := [4, 5]) (by kernel_rfl) (by simp) ?_
          refine AllReadyH.cons rfl (fun K hK => ?_) ?_
          · skip
            go_simp
            refine (implJoin_oe _ _ _ _ _ _ _ _ _ _ _ _ _ _ _ _ V _ _ _ _ _ _ _ _ _ _ _ _ _ _ _ _ U _ _ _ IA.out IB.out KV2.out KU2.out).mono ?_
            rintro z g3 ⟨⟨r0, r1, r2, r3, r4, r5, r6, r7, m0, m1, m2, m3, m4, m5, m6, m7, J0, rfl, hO, hJ⟩, hb⟩
            have hc : Below g2.heap.size g2 g3 := hb
            have LX : Hid (Below wy.heap.size wy g3) := bl_trans LX.out hc
            have OJ : Hid (OE g3 0 r0 r1 r2 r3 r4 r5 r6 r7 m0 m1 m2 m3 m4 m5 m6 m7 J0) := hO.drop (Nat.zero_le _)
            have HJ : Hid (JoinIs V U J0) := hJ
            have K0 : Hid (Blk g3 w.heap.size #[.slice a0 V.l0.length c0, .slice a1 V.l1.length c1, .slice a2 V.l2.length c2, .slice a3 V.l3.length c3, .slice a4 V.l4.length c4, .slice a5 V.l5.length c5, .slice a6 V.l6.length c6, .slice a7 V.l7.length c7, .bool V.sp, .bool V.kl] 24) := K0.out.later hc
            have K1 : Hid (Blk g3 (w.heap.size + 1) #[.slice b0 U.l0.length d0, .slice b1 U.l1.length d1, .slice b2 U.l2.length d2, .slice b3 U.l3.length d3, .slice b4 U.l4.length d4, .slice b5 U.l5.length d5, .slice b6 U.l6.length d6, .slice b7 U.l7.length d7, .bool U.sp, .bool U.kl] 24) := K1.out.later hc
            clear hb hc hO hJ IA IB
            refine hK.out _ _ ?_ (fun hHeld => ?_)
            · exact ⟨K0.out, K1.out⟩
            clear hK K
            try simp only [List.foldl, Act.put, List.setIfInBounds_toArray, List.set_cons_zero, List.set_cons_succ]
            refine wpAnyH_ready (rs := [5]) (by kernel_rfl) (by simp) ?_
            refine AllReadyH.cons rfl (fun K hK => ?_) AllReadyH.nil
            go_simp
            have hg : Below g3.heap.size g3 (g3.alloc (.cells #[.slice none 0 0, .slice none 0 0, .slice none 0 0, .slice none 0 0, .slice none 0 0, .slice none 0 0, .slice none 0 0, .slice none 0 0, .bool false, .bool false] 27)) := bl_alloc (Below.refl _ _) _
            have KZ : Hid (Blk (g3.alloc (.cells #[.slice none 0 0, .slice none 0 0, .slice none 0 0, .slice none 0 0, .slice none 0 0, .slice none 0 0, .slice none 0 0, .slice none 0 0, .bool false, .bool false] 27)) g3.heap.size #[.slice none 0 0, .slice none 0 0, .slice none 0 0, .slice none 0 0, .slice none 0 0, .slice none 0 0, .slice none 0 0, .slice none 0 0, .bool false, .bool false] 27) := Blk.new _ _ _
            have hxs : wy.heap.size ≤ g3.heap.size := LX.out.size
            have NZ : Hid (NoB g3.heap.size r0 r1 r2 r3 r4 r5 r6 r7 m0 m1 m2 m3 m4 m5 m6 m7 J0) := OJ.out.no_ge (Nat.le_refl _)
            have LX : Hid (Below wy.heap.size wy (g3.alloc (.cells #[.slice none 0 0, .slice none 0 0, .slice none 0 0, .slice none 0 0, .slice none 0 0, .slice none 0 0, .slice none 0 0, .slice none 0 0, .bool false, .bool false] 27))) := bl_trans LX.out hg
            have OJ : Hid (OE (g3.alloc (.cells #[.slice none 0 0, .slice none 0 0, .slice none 0 0, .slice none 0 0, .slice none 0 0, .slice none 0 0, .slice none 0 0, .slice none 0 0, .bool false, .bool false] 27)) 0 r0 r1 r2 r3 r4 r5 r6 r7 m0 m1 m2 m3 m4 m5 m6 m7 J0) := OJ.out.later hg
            have K0 : Hid (Blk (g3.alloc (.cells #[.slice none 0 0, .slice none 0 0, .slice none 0 0, .slice none 0 0, .slice none 0 0, .slice none 0 0, .slice none 0 0, .slice none 0 0, .bool false, .bool false] 27)) w.heap.size #[.slice a0 V.l0.length c0, .slice a1 V.l1.length c1, .slice a2 V.l2.length c2, .slice a3 V.l3.length c3, .slice a4 V.l4.length c4, .slice a5 V.l5.length c5, .slice a6 V.l6.length c6, .slice a7 V.l7.length c7, .bool V.sp, .bool V.kl] 24) := K0.out.later hg
            have K1 : Hid (Blk (g3.alloc (.cells #[.slice none 0 0, .slice none 0 0, .slice none 0 0, .slice none 0 0, .slice none 0 0, .slice none 0 0, .slice none 0 0, .slice none 0 0, .bool false, .bool false] 27)) (w.heap.size + 1) #[.slice b0 U.l0.length d0, .slice b1 U.l1.length d1, .slice b2 U.l2.length d2, .slice b3 U.l3.length d3, .slice b4 U.l4.length d4, .slice b5 U.l5.length d5, .slice b6 U.l6.length d6, .slice b7 U.l7.length d7, .bool U.sp, .bool U.kl] 24) := K1.out.later hg
            clear hg
            refine hK.out _ _ ?_ (fun hHeld => ?_)
            · exact ⟨K0.out, K1.out⟩
            clear hK K
            try simp only [List.foldl, Act.put, List.setIfInBounds_toArray, List.set_cons_zero, List.set_cons_succ]
            generalize hGe : (g3.alloc (.cells #[.slice none 0 0, .slice none 0 0, .slice none 0 0, .slice none 0 0, .slice none 0 0, .slice none 0 0, .slice none 0 0, .slice none 0 0, .bool false, .bool false] 27)) = g4 at KZ hHeld LX OJ K0 K1 ⊢
            obtain ⟨kz, hkz⟩ : ∃ k, g3.heap.size = k := ⟨_, rfl⟩
            have HKZ : Hid (wy.heap.size ≤ kz) := Nat.le_trans hxs (Nat.le_of_eq hkz)
            clear hxs
            rw [hkz] at KZ NZ
            try rw [hkz]
            clear hGe hkz
            refine wpAnyH_ready (rs := [6]) (by kernel_rfl) (by simp) ?_
            refine AllReadyH.cons rfl (fun K hK => ?_) AllReadyH.nil
            have hlx := HKZ.out
            refine wp_store_row 27 (.tmp 13) (.tmp 79) rfl kz #[.slice r0 J0.l0.length m0, .slice r1 J0.l1.length m1, .slice r2 J0.l2.length m2, .slice r3 J0.l3.length m3, .slice r4 J0.l4.length m4, .slice r5 J0.l5.length m5, .slice r6 J0.l6.length m6, .slice r7 J0.l7.length m7, .bool J0.sp, .bool J0.kl] rfl rfl 27 _ KZ.out (by rw [Try.infoEf]; rfl) rfl one10 ?_
            have LX : Hid (Below wy.heap.size wy (g4.setRow kz #[.slice r0 J0.l0.length m0, .slice r1 J0.l1.length m1, .slice r2 J0.l2.length m2, .slice r3 J0.l3.length m3, .slice r4 J0.l4.length m4, .slice r5 J0.l5.length m5, .slice r6 J0.l6.length m6, .slice r7 J0.l7.length m7, .bool J0.sp, .bool J0.kl])) := below_setRow LX.out hlx _
            have KZ : Hid (Blk (g4.setRow kz #[.slice r0 J0.l0.length m0, .slice r1 J0.l1.length m1, .slice r2 J0.l2.length m2, .slice r3 J0.l3.length m3, .slice r4 J0.l4.length m4, .slice r5 J0.l5.length m5, .slice r6 J0.l6.length m6, .slice r7 J0.l7.length m7, .bool J0.sp, .bool J0.kl]) kz #[.slice r0 J0.l0.length m0, .slice r1 J0.l1.length m1, .slice r2 J0.l2.length m2, .slice r3 J0.l3.length m3, .slice r4 J0.l4.length m4, .slice r5 J0.l5.length m5, .slice r6 J0.l6.length m6, .slice r7 J0.l7.length m7, .bool J0.sp, .bool J0.kl] 27) := setRow_heap _ _ _ _ _ _ KZ.out
            have OJ : Hid (OE (g4.setRow kz #[.slice r0 J0.l0.length m0, .slice r1 J0.l1.length m1, .slice r2 J0.l2.length m2, .slice r3 J0.l3.length m3, .slice r4 J0.l4.length m4, .slice r5 J0.l5.length m5, .slice r6 J0.l6.length m6, .slice r7 J0.l7.length m7, .bool J0.sp, .bool J0.kl]) 0 r0 r1 r2 r3 r4 r5 r6 r7 m0 m1 m2 m3 m4 m5 m6 m7 J0) := OJ.out.row NZ.out _
            have K0 : Hid (Blk (g4.setRow kz #[.slice r0 J0.l0.length m0, .slice r1 J0.l1.length m1, .slice r2 J0.l2.length m2, .slice r3 J0.l3.length m3, .slice r4 J0.l4.length m4, .slice r5 J0.l5.length m5, .slice r6 J0.l6.length m6, .slice r7 J0.l7.length m7, .bool J0.sp, .bool J0.kl]) w.heap.size #[.slice a0 V.l0.length c0, .slice a1 V.l1.length c1, .slice a2 V.l2.length c2, .slice a3 V.l3.length c3, .slice a4 V.l4.length c4, .slice a5 V.l5.length c5, .slice a6 V.l6.length c6, .slice a7 V.l7.length c7, .bool V.sp, .bool V.kl] 24) := (setRow_other _ _ _ _ (by have := ltX; omega)).trans K0.out
            have K1 : Hid (Blk (g4.setRow kz #[.slice r0 J0.l0.length m0, .slice r1 J0.l1.length m1, .slice r2 J0.l2.length m2, .slice r3 J0.l3.length m3, .slice r4 J0.l4.length m4, .slice r5 J0.l5.length m5, .slice r6 J0.l6.length m6, .slice r7 J0.l7.length m7, .bool J0.sp, .bool J0.kl]) (w.heap.size + 1) #[.slice b0 U.l0.length d0, .slice b1 U.l1.length d1, .slice b2 U.l2.length d2, .slice b3 U.l3.length d3, .slice b4 U.l4.length d4, .slice b5 U.l5.length d5, .slice b6 U.l6.length d6, .slice b7 U.l7.length d7, .bool U.sp, .bool U.kl] 24) := (setRow_other _ _ _ _ (by have := ltX; omega)).trans K1.out
            refine hK.out _ _ ?_ (fun hHeld => ?_)
            · exact ⟨K0.out, K1.out⟩
            clear hK K
            try simp only [List.foldl, Act.put, List.setIfInBounds_toArray, List.set_cons_zero, List.set_cons_succ]
            refine wpAnyH_done (by kernel_rfl) ?_ _
            go_wp2_with fail
            go_meet
            exact ⟨kz, r0, r1, r2, r3, r4, r5, r6, r7, m0, m1, m2, m3, m4, m5, m6, m7, J0, rfl, KZ.out, OJ.out, HJ.out, LX.out⟩
          refine AllReadyH.cons rfl (fun K hK => ?_) AllReadyH.nil
          go_simp
          have hg : Below g2.heap.size g2 (g2.alloc (.cells #[.slice none 0 0, .slice none 0 0, .slice none 0 0, .slice none 0 0, .slice none 0 0, .slice none 0 0, .slice none 0 0, .slice none 0 0, .bool false, .bool false] 27)) := bl_alloc (Below.refl _ _) _
          have KZ : Hid (Blk (g2.alloc (.cells #[.slice none 0 0, .slice none 0 0, .slice none 0 0, .slice none 0 0, .slice none 0 0, .slice none 0 0, .slice none 0 0, .slice none 0 0, .bool false, .bool false] 27)) g2.heap.size #[.slice none 0 0, .slice none 0 0, .slice none 0 0, .slice none 0 0, .slice none 0 0, .slice none 0 0, .slice none 0 0, .slice none 0 0, .bool false, .bool false] 27) := Blk.new _ _ _
          have hxs : wy.heap.size ≤ g2.heap.size := LX.out.size
          have LX : Hid (Below wy.heap.size wy (g2.alloc (.cells #[.slice none 0 0, .slice none 0 0, .slice none 0 0, .slice none 0 0, .slice none 0 0, .slice none 0 0, .slice none 0 0, .slice none 0 0, .bool false, .bool false] 27))) := bl_trans LX.out hg
          have IA : Hid (InE (g2.alloc (.cells #[.slice none 0 0, .slice none 0 0, .slice none 0 0, .slice none 0 0, .slice none 0 0, .slice none 0 0, .slice none 0 0, .slice none 0 0, .bool false, .bool false] 27)) 0 (some ⟨e0, 0, none⟩) (some ⟨e1, 0, none⟩) (some ⟨e2, 0, none⟩) (some ⟨e3, 0, none⟩) (some ⟨e4, 0, none⟩) (some ⟨e5, 0, none⟩) (some ⟨e6, 0, none⟩) (some ⟨e7, 0, none⟩) V) := IA.out.later hg
          have IB : Hid (InE (g2.alloc (.cells #[.slice none 0 0, .slice none 0 0, .slice none 0 0, .slice none 0 0, .slice none 0 0, .slice none 0 0, .slice none 0 0, .slice none 0 0, .bool false, .bool false] 27)) 0 (some ⟨f0, 0, none⟩) (some ⟨f1, 0, none⟩) (some ⟨f2, 0, none⟩) (some ⟨f3, 0, none⟩) (some ⟨f4, 0, none⟩) (some ⟨f5, 0, none⟩) (some ⟨f6, 0, none⟩) (some ⟨f7, 0, none⟩) U) := IB.out.later hg
          have K0 : Hid (Blk (g2.alloc (.cells #[.slice none 0 0, .slice none 0 0, .slice none 0 0, .slice none 0 0, .slice none 0 0, .slice none 0 0, .slice none 0 0, .slice none 0 0, .bool false, .bool false] 27)) w.heap.size #[.slice a0 V.l0.length c0, .slice a1 V.l1.length c1, .slice a2 V.l2.length c2, .slice a3 V.l3.length c3, .slice a4 V.l4.length c4, .slice a5 V.l5.length c5, .slice a6 V.l6.length c6, .slice a7 V.l7.length c7, .bool V.sp, .bool V.kl] 24) := K0.out.later hg
          have K1 : Hid (Blk (g2.alloc (.cells #[.slice none 0 0, .slice none 0 0, .slice none 0 0, .slice none 0 0, .slice none 0 0, .slice none 0 0, .slice none 0 0, .slice none 0 0, .bool false, .bool false] 27)) (w.heap.size + 1) #[.slice b0 U.l0.length d0, .slice b1 U.l1.length d1, .slice b2 U.l2.length d2, .slice b3 U.l3.length d3, .slice b4 U.l4.length d4, .slice b5 U.l5.length d5, .slice b6 U.l6.length d6, .slice b7 U.l7.length d7, .bool U.sp, .bool U.kl] 24) := K1.out.later hg
          clear hg
          refine hK.out _ _ ?_ (fun hHeld => ?_)
          · exact ⟨K0.out, K1.out⟩
          clear hK K
          try simp only [List.foldl, Act.put, List.setIfInBounds_toArray, List.set_cons_zero, List.set_cons_succ]
          generalize hGe : (g2.alloc (.cells #[.slice none 0 0, .slice none 0 0, .slice none 0 0, .slice none 0 0, .slice none 0 0, .slice none 0 0, .slice none 0 0, .slice none 0 0, .bool false, .bool false] 27)) = g5 at KZ hHeld LX IA IB K0 K1 ⊢
          obtain ⟨kz, hkz⟩ : ∃ k, g2.heap.size = k := ⟨_, rfl⟩
          have HKZ : Hid (wy.heap.size ≤ kz) := Nat.le_trans hxs (Nat.le_of_eq hkz)
          clear hxs
          rw [hkz] at KZ
          try rw [hkz]
          clear hGe hkz
          refine wpAnyH_ready (rs := [4]) (by kernel_rfl) (by simp) ?_
          refine AllReadyH.cons rfl (fun K hK => ?_) AllReadyH.nil
          go_simp
          refine (implJoin_oe _ _ _ _ _ _ _ _ _ _ _ _ _ _ _ _ V _ _ _ _ _ _ _ _ _ _ _ _ _ _ _ _ U _ _ _ IA.out IB.out KV2.out KU2.out).mono ?_
          rintro z g6 ⟨⟨r0, r1, r2, r3, r4, r5, r6, r7, m0, m1, m2, m3, m4, m5, m6, m7, J0, rfl, hO, hJ⟩, hb⟩
          have hc : Below g5.heap.size g5 g6 := hb
          have LX : Hid (Below wy.heap.size wy g6) := bl_trans LX.out hc
          have OJ : Hid (OE g6 0 r0 r1 r2 r3 r4 r5 r6 r7 m0 m1 m2 m3 m4 m5 m6 m7 J0) := hO.drop (Nat.zero_le _)
          have HJ : Hid (JoinIs V U J0) := hJ
          have NZ : Hid (NoB kz r0 r1 r2 r3 r4 r5 r6 r7 m0 m1 m2 m3 m4 m5 m6 m7 J0) := hO.no_lt KZ.out.lt
          have KZ : Hid (Blk g6 kz #[.slice none 0 0, .slice none 0 0, .slice none 0 0, .slice none 0 0, .slice none 0 0, .slice none 0 0, .slice none 0 0, .slice none 0 0, .bool false, .bool false] 27) := KZ.out.later hc
          have K0 : Hid (Blk g6 w.heap.size #[.slice a0 V.l0.length c0, .slice a1 V.l1.length c1, .slice a2 V.l2.length c2, .slice a3 V.l3.length c3, .slice a4 V.l4.length c4, .slice a5 V.l5.length c5, .slice a6 V.l6.length c6, .slice a7 V.l7.length c7, .bool V.sp, .bool V.kl] 24) := K0.out.later hc
          have K1 : Hid (Blk g6 (w.heap.size + 1) #[.slice b0 U.l0.length d0, .slice b1 U.l1.length d1, .slice b2 U.l2.length d2, .slice b3 U.l3.length d3, .slice b4 U.l4.length d4, .slice b5 U.l5.length d5, .slice b6 U.l6.length d6, .slice b7 U.l7.length d7, .bool U.sp, .bool U.kl] 24) := K1.out.later hc
          clear hb hc hO hJ IA IB
          refine hK.out _ _ ?_ (fun hHeld => ?_)
          · exact ⟨K0.out, K1.out⟩
          clear hK K
          try simp only [List.foldl, Act.put, List.setIfInBounds_toArray, List.set_cons_zero, List.set_cons_succ]
          refine wpAnyH_ready (rs := [6]) (by kernel_rfl) (by simp) ?_
          refine AllReadyH.cons rfl (fun K hK => ?_) AllReadyH.nil
          have hlx := HKZ.out
          refine wp_store_row 27 (.tmp 13) (.tmp 79) rfl kz #[.slice r0 J0.l0.length m0, .slice r1 J0.l1.length m1, .slice r2 J0.l2.length m2, .slice r3 J0.l3.length m3, .slice r4 J0.l4.length m4, .slice r5 J0.l5.length m5, .slice r6 J0.l6.length m6, .slice r7 J0.l7.length m7, .bool J0.sp, .bool J0.kl] rfl rfl 27 _ KZ.out (by rw [Try.infoEf]; rfl) rfl one10 ?_
          have LX : Hid (Below wy.heap.size wy (g6.setRow kz #[.slice r0 J0.l0.length m0, .slice r1 J0.l1.length m1, .slice r2 J0.l2.length m2, .slice r3 J0.l3.length m3, .slice r4 J0.l4.length m4, .slice r5 J0.l5.length m5, .slice r6 J0.l6.length m6, .slice r7 J0.l7.length m7, .bool J0.sp, .bool J0.kl])) := below_setRow LX.out hlx _
          have KZ : Hid (Blk (g6.setRow kz #[.slice r0 J0.l0.length m0, .slice r1 J0.l1.length m1, .slice r2 J0.l2.length m2, .slice r3 J0.l3.length m3, .slice r4 J0.l4.length m4, .slice r5 J0.l5.length m5, .slice r6 J0.l6.length m6, .slice r7 J0.l7.length m7, .bool J0.sp, .bool J0.kl]) kz #[.slice r0 J0.l0.length m0, .slice r1 J0.l1.length m1, .slice r2 J0.l2.length m2, .slice r3 J0.l3.length m3, .slice r4 J0.l4.length m4, .slice r5 J0.l5.length m5, .slice r6 J0.l6.length m6, .slice r7 J0.l7.length m7, .bool J0.sp, .bool J0.kl] 27) := setRow_heap _ _ _ _ _ _ KZ.out
          have OJ : Hid (OE (g6.setRow kz #[.slice r0 J0.l0.length m0, .slice r1 J0.l1.length m1, .slice r2 J0.l2.length m2, .slice r3 J0.l3.length m3, .slice r4 J0.l4.length m4, .slice r5 J0.l5.length m5, .slice r6 J0.l6.length m6, .slice r7 J0.l7.length m7, .bool J0.sp, .bool J0.kl]) 0 r0 r1 r2 r3 r4 r5 r6 r7 m0 m1 m2 m3 m4 m5 m6 m7 J0) := OJ.out.row NZ.out _
          have K0 : Hid (Blk (g6.setRow kz #[.slice r0 J0.l0.length m0, .slice r1 J0.l1.length m1, .slice r2 J0.l2.length m2, .slice r3 J0.l3.length m3, .slice r4 J0.l4.length m4, .slice r5 J0.l5.length m5, .slice r6 J0.l6.length m6, .slice r7 J0.l7.length m7, .bool J0.sp, .bool J0.kl]) w.heap.size #[.slice a0 V.l0.length c0, .slice a1 V.l1.length c1, .slice a2 V.l2.length c2, .slice a3 V.l3.length c3, .slice a4 V.l4.length c4, .slice a5 V.l5.length c5, .slice a6 V.l6.length c6, .slice a7 V.l7.length c7, .bool V.sp, .bool V.kl] 24) := (setRow_other _ _ _ _ (by have := ltX; omega)).trans K0.out
          have K1 : Hid (Blk (g6.setRow kz #[.slice r0 J0.l0.length m0, .slice r1 J0.l1.length m1, .slice r2 J0.l2.length m2, .slice r3 J0.l3.length m3, .slice r4 J0.l4.length m4, .slice r5 J0.l5.length m5, .slice r6 J0.l6.length m6, .slice r7 J0.l7.length m7, .bool J0.sp, .bool J0.kl]) (w.heap.size + 1) #[.slice b0 U.l0.length d0, .slice b1 U.l1.length d1, .slice b2 U.l2.length d2, .slice b3 U.l3.length d3, .slice b4 U.l4.length d4, .slice b5 U.l5.length d5, .slice b6 U.l6.length d6, .slice b7 U.l7.length d7, .bool U.sp, .bool U.kl] 24) := (setRow_other _ _ _ _ (by have := ltX; omega)).trans K1.out
          refine hK.out _ _ ?_ (fun hHeld => ?_)
          · exact ⟨K0.out, K1.out⟩
          clear hK K
          try simp only [List.foldl, Act.put, List.setIfInBounds_toArray, List.set_cons_zero, List.set_cons_succ]
          refine wpAnyH_done (by kernel_rfl) ?_ _
          go_wp2_with fail
          go_meet
          exact ⟨kz, r0, r1, r2, r3, r4, r5, r6, r7, m0, m1, m2, m3, m4, m5, m6, m7, J0, rfl, KZ.out, OJ.out, HJ.out, LX.out⟩
        refine AllReadyH.cons rfl (fun K hK => ?_) AllReadyH.nil
        go_simp
        have hg : Below g1.heap.size g1 (g1.alloc (.cells #[.slice none 0 0, .slice none 0 0, .slice none 0 0, .slice none 0 0, .slice none 0 0, .slice none 0 0, .slice none 0 0, .slice none 0 0, .bool false, .bool false] 27)) := bl_alloc (Below.refl _ _) _
        have KZ : Hid (Blk (g1.alloc (.cells #[.slice none 0 0, .slice none 0 0, .slice none 0 0, .slice none 0 0, .slice none 0 0, .slice none 0 0, .slice none 0 0, .slice none 0 0, .bool false, .bool false] 27)) g1.heap.size #[.slice none 0 0, .slice none 0 0, .slice none 0 0, .slice none 0 0, .slice none 0 0, .slice none 0 0, .slice none 0 0, .slice none 0 0, .bool false, .bool false] 27) := Blk.new _ _ _
        have hxs : wy.heap.size ≤ g1.heap.size := LX.out.size
        have LX : Hid (Below wy.heap.size wy (g1.alloc (.cells #[.slice none 0 0, .slice none 0 0, .slice none 0 0, .slice none 0 0, .slice none 0 0, .slice none 0 0, .slice none 0 0, .slice none 0 0, .bool false, .bool false] 27))) := bl_trans LX.out hg
        have IA : Hid (InE (g1.alloc (.cells #[.slice none 0 0, .slice none 0 0, .slice none 0 0, .slice none 0 0, .slice none 0 0, .slice none 0 0, .slice none 0 0, .slice none 0 0, .bool false, .bool false] 27)) 0 (some ⟨e0, 0, none⟩) (some ⟨e1, 0, none⟩) (some ⟨e2, 0, none⟩) (some ⟨e3, 0, none⟩) (some ⟨e4, 0, none⟩) (some ⟨e5, 0, none⟩) (some ⟨e6, 0, none⟩) (some ⟨e7, 0, none⟩) V) := IA.out.later hg
        have K0 : Hid (Blk (g1.alloc (.cells #[.slice none 0 0, .slice none 0 0, .slice none 0 0, .slice none 0 0, .slice none 0 0, .slice none 0 0, .slice none 0 0, .slice none 0 0, .bool false, .bool false] 27)) w.heap.size #[.slice a0 V.l0.length c0, .slice a1 V.l1.length c1, .slice a2 V.l2.length c2, .slice a3 V.l3.length c3, .slice a4 V.l4.length c4, .slice a5 V.l5.length c5, .slice a6 V.l6.length c6, .slice a7 V.l7.length c7, .bool V.sp, .bool V.kl] 24) := K0.out.later hg
        have K1 : Hid (Blk (g1.alloc (.cells #[.slice none 0 0, .slice none 0 0, .slice none 0 0, .slice none 0 0, .slice none 0 0, .slice none 0 0, .slice none 0 0, .slice none 0 0, .bool false, .bool false] 27)) (w.heap.size + 1) #[.slice b0 U.l0.length d0, .slice b1 U.l1.length d1, .slice b2 U.l2.length d2, .slice b3 U.l3.length d3, .slice b4 U.l4.length d4, .slice b5 U.l5.length d5, .slice b6 U.l6.length d6, .slice b7 U.l7.length d7, .bool U.sp, .bool U.kl] 24) := K1.out.later hg
        clear hg
        refine hK.out _ _ ?_ (fun hHeld => ?_)
        · exact ⟨K0.out, K1.out⟩
        clear hK K
        try simp only [List.foldl, Act.put, List.setIfInBounds_toArray, List.set_cons_zero, List.set_cons_succ]
        generalize hGe : (g1.alloc (.cells #[.slice none 0 0, .slice none 0 0, .slice none 0 0, .slice none 0 0, .slice none 0 0, .slice none 0 0, .slice none 0 0, .slice none 0 0, .bool false, .bool false] 27)) = g7 at KZ hHeld LX IA K0 K1 ⊢
        obtain ⟨kz, hkz⟩ : ∃ k, g1.heap.size = k := ⟨_, rfl⟩
        have HKZ : Hid (wy.heap.size ≤ kz) := Nat.le_trans hxs (Nat.le_of_eq hkz)
        clear hxs
        rw [hkz] at KZ
        try rw [hkz]
        clear hGe hkz
        refine wpAnyH_ready (rs := [3]) (by kernel_rfl) (by simp) ?_
        refine AllReadyH.cons rfl (fun K hK => ?_) AllReadyH.nil
        go_simp
        refine (toEffect_made b0 b1 b2 b3 b4 b5 b6 b7 d0 d1 d2 d3 d4 d5 d6 d7 U 0 _ (HU.out.later (bl_trans LY.out LX.out)) KU.out).mono ?_
        rintro z g8 ⟨⟨f0, f1, f2, f3, f4, f5, f6, f7, rfl, hI⟩, hb⟩
        have hc : Below g7.heap.size g7 g8 := hb
        have LX : Hid (Below wy.heap.size wy g8) := bl_trans LX.out hc
        have IB : Hid (InE g8 0 (some ⟨f0, 0, none⟩) (some ⟨f1, 0, none⟩) (some ⟨f2, 0, none⟩) (some ⟨f3, 0, none⟩) (some ⟨f4, 0, none⟩) (some ⟨f5, 0, none⟩) (some ⟨f6, 0, none⟩) (some ⟨f7, 0, none⟩) U) := hI.drop (Nat.zero_le _)
        have IA : Hid (InE g8 0 (some ⟨e0, 0, none⟩) (some ⟨e1, 0, none⟩) (some ⟨e2, 0, none⟩) (some ⟨e3, 0, none⟩) (some ⟨e4, 0, none⟩) (some ⟨e5, 0, none⟩) (some ⟨e6, 0, none⟩) (some ⟨e7, 0, none⟩) V) := IA.out.later hc
        have KZ : Hid (Blk g8 kz #[.slice none 0 0, .slice none 0 0, .slice none 0 0, .slice none 0 0, .slice none 0 0, .slice none 0 0, .slice none 0 0, .slice none 0 0, .bool false, .bool false] 27) := KZ.out.later hc
        have K0 : Hid (Blk g8 w.heap.size #[.slice a0 V.l0.length c0, .slice a1 V.l1.length c1, .slice a2 V.l2.length c2, .slice a3 V.l3.length c3, .slice a4 V.l4.length c4, .slice a5 V.l5.length c5, .slice a6 V.l6.length c6, .slice a7 V.l7.length c7, .bool V.sp, .bool V.kl] 24) := K0.out.later hc
        have K1 : Hid (Blk g8 (w.heap.size + 1) #[.slice b0 U.l0.length d0, .slice b1 U.l1.length d1, .slice b2 U.l2.length d2, .slice b3 U.l3.length d3, .slice b4 U.l4.length d4, .slice b5 U.l5.length d5, .slice b6 U.l6.length d6, .slice b7 U.l7.length d7, .bool U.sp, .bool U.kl] 24) := K1.out.later hc
        clear hb hc hI 
        refine hK.out _ _ ?_ (fun hHeld => ?_)
        · exact ⟨K0.out, K1.out⟩
        clear hK K
        try simp only [List.foldl, Act.put, List.setIfInBounds_toArray, List.set_cons_zero, List.set_cons_succ]
        refine wpAnyH_ready (rs := [4]) (by kernel_rfl) (by simp) ?_
        refine AllReadyH.cons rfl (fun K hK => ?_) AllReadyH.nil
        go_simp
        refine (implJoin_oe _ _ _ _ _ _ _ _ _ _ _ _ _ _ _ _ V _ _ _ _ _ _ _ _ _ _ _ _ _ _ _ _ U _ _ _ IA.out IB.out KV2.out KU2.out).mono ?_
        rintro z g9 ⟨⟨r0, r1, r2, r3, r4, r5, r6, r7, m0, m1, m2, m3, m4, m5, m6, m7, J0, rfl, hO, hJ⟩, hb⟩
        have hc : Below g8.heap.size g8 g9 := hb
        have LX : Hid (Below wy.heap.size wy g9) := bl_trans LX.out hc
        have OJ : Hid (OE g9 0 r0 r1 r2 r3 r4 r5 r6 r7 m0 m1 m2 m3 m4 m5 m6 m7 J0) := hO.drop (Nat.zero_le _)
        have HJ : Hid (JoinIs V U J0) := hJ
        have NZ : Hid (NoB kz r0 r1 r2 r3 r4 r5 r6 r7 m0 m1 m2 m3 m4 m5 m6 m7 J0) := hO.no_lt KZ.out.lt
        have KZ : Hid (Blk g9 kz #[.slice none 0 0, .slice none 0 0, .slice none 0 0, .slice none 0 0, .slice none 0 0, .slice none 0 0, .slice none 0 0, .slice none 0 0, .bool false, .bool false] 27) := KZ.out.later hc
        have K0 : Hid (Blk g9 w.heap.size #[.slice a0 V.l0.length c0, .slice a1 V.l1.length c1, .slice a2 V.l2.length c2, .slice a3 V.l3.length c3, .slice a4 V.l4.length c4, .slice a5 V.l5.length c5, .slice a6 V.l6.length c6, .slice a7 V.l7.length c7, .bool V.sp, .bool V.kl] 24) := K0.out.later hc
        have K1 : Hid (Blk g9 (w.heap.size + 1) #[.slice b0 U.l0.length d0, .slice b1 U.l1.length d1, .slice b2 U.l2.length d2, .slice b3 U.l3.length d3, .slice b4 U.l4.length d4, .slice b5 U.l5.length d5, .slice b6 U.l6.length d6, .slice b7 U.l7.length d7, .bool U.sp, .bool U.kl] 24) := K1.out.later hc
        clear hb hc hO hJ IA IB
        refine hK.out _ _ ?_ (fun hHeld => ?_)
        · exact ⟨K0.out, K1.out⟩
        clear hK K
        try simp only [List.foldl, Act.put, List.setIfInBounds_toArray, List.set_cons_zero, List.set_cons_succ]
        refine wpAnyH_ready (rs := [6]) (by kernel_rfl) (by simp) ?_
        refine AllReadyH.cons rfl (fun K hK => ?_) AllReadyH.nil
        have hlx := HKZ.out
        refine wp_store_row 27 (.tmp 13) (.tmp 79) rfl kz #[.slice r0 J0.l0.length m0, .slice r1 J0.l1.length m1, .slice r2 J0.l2.length m2, .slice r3 J0.l3.length m3, .slice r4 J0.l4.length m4, .slice r5 J0.l5.length m5, .slice r6 J0.l6.length m6, .slice r7 J0.l7.length m7, .bool J0.sp, .bool J0.kl] rfl rfl 27 _ KZ.out (by rw [Try.infoEf]; rfl) rfl one10 ?_
        have LX : Hid (Below wy.heap.size wy (g9.setRow kz #[.slice r0 J0.l0.length m0, .slice r1 J0.l1.length m1, .slice r2 J0.l2.length m2, .slice r3 J0.l3.length m3, .slice r4 J0.l4.length m4, .slice r5 J0.l5.length m5, .slice r6 J0.l6.length m6, .slice r7 J0.l7.length m7, .bool J0.sp, .bool J0.kl])) := below_setRow LX.out hlx _
        have KZ : Hid (Blk (g9.setRow kz #[.slice r0 J0.l0.length m0, .slice r1 J0.l1.length m1, .slice r2 J0.l2.length m2, .slice r3 J0.l3.length m3, .slice r4 J0.l4.length m4, .slice r5 J0.l5.length m5, .slice r6 J0.l6.length m6, .slice r7 J0.l7.length m7, .bool J0.sp, .bool J0.kl]) kz #[.slice r0 J0.l0.length m0, .slice r1 J0.l1.length m1, .slice r2 J0.l2.length m2, .slice r3 J0.l3.length m3, .slice r4 J0.l4.length m4, .slice r5 J0.l5.length m5, .slice r6 J0.l6.length m6, .slice r7 J0.l7.length m7, .bool J0.sp, .bool J0.kl] 27) := setRow_heap _ _ _ _ _ _ KZ.out
        have OJ : Hid (OE (g9.setRow kz #[.slice r0 J0.l0.length m0, .slice r1 J0.l1.length m1, .slice r2 J0.l2.length m2, .slice r3 J0.l3.length m3, .slice r4 J0.l4.length m4, .slice r5 J0.l5.length m5, .slice r6 J0.l6.length m6, .slice r7 J0.l7.length m7, .bool J0.sp, .bool J0.kl]) 0 r0 r1 r2 r3 r4 r5 r6 r7 m0 m1 m2 m3 m4 m5 m6 m7 J0) := OJ.out.row NZ.out _
        have K0 : Hid (Blk (g9.setRow kz #[.slice r0 J0.l0.length m0, .slice r1 J0.l1.length m1, .slice r2 J0.l2.length m2, .slice r3 J0.l3.length m3, .slice r4 J0.l4.length m4, .slice r5 J0.l5.length m5, .slice r6 J0.l6.length m6, .slice r7 J0.l7.length m7, .bool J0.sp, .bool J0.kl]) w.heap.size #[.slice a0 V.l0.length c0, .slice a1 V.l1.length c1, .slice a2 V.l2.length c2, .slice a3 V.l3.length c3, .slice a4 V.l4.length c4, .slice a5 V.l5.length c5, .slice a6 V.l6.length c6, .slice a7 V.l7.length c7, .bool V.sp, .bool V.kl] 24) := (setRow_other _ _ _ _ (by have := ltX; omega)).trans K0.out
        have K1 : Hid (Blk (g9.setRow kz #[.slice r0 J0.l0.length m0, .slice r1 J0.l1.length m1, .slice r2 J0.l2.length m2, .slice r3 J0.l3.length m3, .slice r4 J0.l4.length m4, .slice r5 J0.l5.length m5, .slice r6 J0.l6.length m6, .slice r7 J0.l7.length m7, .bool J0.sp, .bool J0.kl]) (w.heap.size + 1) #[.slice b0 U.l0.length d0, .slice b1 U.l1.length d1, .slice b2 U.l2.length d2, .slice b3 U.l3.length d3, .slice b4 U.l4.length d4, .slice b5 U.l5.length d5, .slice b6 U.l6.length d6, .slice b7 U.l7.length d7, .bool U.sp, .bool U.kl] 24) := (setRow_other _ _ _ _ (by have := ltX; omega)).trans K1.out
        refine hK.out _ _ ?_ (fun hHeld => ?_)
        · exact ⟨K0.out, K1.out⟩
        clear hK K
        try simp only [List.foldl, Act.put, List.setIfInBounds_toArray, List.set_cons_zero, List.set_cons_succ]
        refine wpAnyH_done (by kernel_rfl) ?_ _
        go_wp2_with fail
        go_meet
        exact ⟨kz, r0, r1, r2, r3, r4, r5, r6, r7, m0, m1, m2, m3, m4, m5, m6, m7, J0, rfl, KZ.out, OJ.out, HJ.out, LX.out⟩
      refine AllReadyH.cons rfl (fun K hK => ?_) AllReadyH.nil
      go_simp
      have hg : Below wy.heap.size wy (wy.alloc (.cells #[.slice none 0 0, .slice none 0 0, .slice none 0 0, .slice none 0 0, .slice none 0 0, .slice none 0 0, .slice none 0 0, .slice none 0 0, .bool false, .bool false] 27)).drew := bl_drew (bl_alloc (Below.refl _ _) _)
      have KZ : Hid (Blk (wy.alloc (.cells #[.slice none 0 0, .slice none 0 0, .slice none 0 0, .slice none 0 0, .slice none 0 0, .slice none 0 0, .slice none 0 0, .slice none 0 0, .bool false, .bool false] 27)).drew wy.heap.size #[.slice none 0 0, .slice none 0 0, .slice none 0 0, .slice none 0 0, .slice none 0 0, .slice none 0 0, .slice none 0 0, .slice none 0 0, .bool false, .bool false] 27) := Blk.new _ _ _
      have hxs : wy.heap.size ≤ wy.heap.size := LX.out.size
      have LX : Hid (Below wy.heap.size wy (wy.alloc (.cells #[.slice none 0 0, .slice none 0 0, .slice none 0 0, .slice none 0 0, .slice none 0 0, .slice none 0 0, .slice none 0 0, .slice none 0 0, .bool false, .bool false] 27)).drew) := bl_trans LX.out hg
      have K0 : Hid (Blk (wy.alloc (.cells #[.slice none 0 0, .slice none 0 0, .slice none 0 0, .slice none 0 0, .slice none 0 0, .slice none 0 0, .slice none 0 0, .slice none 0 0, .bool false, .bool false] 27)).drew w.heap.size #[.slice a0 V.l0.length c0, .slice a1 V.l1.length c1, .slice a2 V.l2.length c2, .slice a3 V.l3.length c3, .slice a4 V.l4.length c4, .slice a5 V.l5.length c5, .slice a6 V.l6.length c6, .slice a7 V.l7.length c7, .bool V.sp, .bool V.kl] 24) := K0.out.later hg
      have K1 : Hid (Blk (wy.alloc (.cells #[.slice none 0 0, .slice none 0 0, .slice none 0 0, .slice none 0 0, .slice none 0 0, .slice none 0 0, .slice none 0 0, .slice none 0 0, .bool false, .bool false] 27)).drew (w.heap.size + 1) #[.slice b0 U.l0.length d0, .slice b1 U.l1.length d1, .slice b2 U.l2.length d2, .slice b3 U.l3.length d3, .slice b4 U.l4.length d4, .slice b5 U.l5.length d5, .slice b6 U.l6.length d6, .slice b7 U.l7.length d7, .bool U.sp, .bool U.kl] 24) := K1.out.later hg
      clear hg
      refine hK.out _ _ ?_ (fun hHeld => ?_)
      · exact ⟨K0.out, K1.out⟩
      clear hK K
      try simp only [List.foldl, Act.put, List.setIfInBounds_toArray, List.set_cons_zero, List.set_cons_succ]
      generalize hGe : (wy.alloc (.cells #[.slice none 0 0, .slice none 0 0, .slice none 0 0, .slice none 0 0, .slice none 0 0, .slice none 0 0, .slice none 0 0, .slice none 0 0, .bool false, .bool false] 27)).drew = g10 at KZ hHeld LX K0 K1 ⊢
      obtain ⟨kz, hkz⟩ : ∃ k, wy.heap.size = k := ⟨_, rfl⟩
      have HKZ : Hid (wy.heap.size ≤ kz) := Nat.le_trans hxs (Nat.le_of_eq hkz)
      clear hxs
      rw [hkz] at KZ
      try rw [hkz]
      clear hGe hkz
      refine wpAnyH_ready (rs := [1]) (by kernel_rfl) (by simp) ?_
      refine AllReadyH.cons rfl (fun K hK => ?_) AllReadyH.nil
      go_simp
      refine (toEffect_made a0 a1 a2 a3 a4 a5 a6 a7 c0 c1 c2 c3 c4 c5 c6 c7 V 0 _ (HV.out.later (bl_trans LY.out LX.out)) KV.out).mono ?_
      rintro z g11 ⟨⟨e0, e1, e2, e3, e4, e5, e6, e7, rfl, hI⟩, hb⟩
      have hc : Below g10.heap.size g10 g11 := hb
      have LX : Hid (Below wy.heap.size wy g11) := bl_trans LX.out hc
      have IA : Hid (InE g11 0 (some ⟨e0, 0, none⟩) (some ⟨e1, 0, none⟩) (some ⟨e2, 0, none⟩) (some ⟨e3, 0, none⟩) (some ⟨e4, 0, none⟩) (some ⟨e5, 0, none⟩) (some ⟨e6, 0, none⟩) (some ⟨e7, 0, none⟩) V) := hI.drop (Nat.zero_le _)
      have KZ : Hid (Blk g11 kz #[.slice none 0 0, .slice none 0 0, .slice none 0 0, .slice none 0 0, .slice none 0 0, .slice none 0 0, .slice none 0 0, .slice none 0 0, .bool false, .bool false] 27) := KZ.out.later hc
      have K0 : Hid (Blk g11 w.heap.size #[.slice a0 V.l0.length c0, .slice a1 V.l1.length c1, .slice a2 V.l2.length c2, .slice a3 V.l3.length c3, .slice a4 V.l4.length c4, .slice a5 V.l5.length c5, .slice a6 V.l6.length c6, .slice a7 V.l7.length c7, .bool V.sp, .bool V.kl] 24) := K0.out.later hc
      have K1 : Hid (Blk g11 (w.heap.size + 1) #[.slice b0 U.l0.length d0, .slice b1 U.l1.length d1, .slice b2 U.l2.length d2, .slice b3 U.l3.length d3, .slice b4 U.l4.length d4, .slice b5 U.l5.length d5, .slice b6 U.l6.length d6, .slice b7 U.l7.length d7, .bool U.sp, .bool U.kl] 24) := K1.out.later hc
      clear hb hc hI 
      refine hK.out _ _ ?_ (fun hHeld => ?_)
      · exact ⟨K0.out, K1.out⟩
      clear hK K
      try simp only [List.foldl, Act.put, List.setIfInBounds_toArray, List.set_cons_zero, List.set_cons_succ]
      refine wpAnyH_ready (rs := [3]) (by kernel_rfl) (by simp) ?_
      refine AllReadyH.cons rfl (fun K hK => ?_) AllReadyH.nil
      go_simp
      refine (toEffect_made b0 b1 b2 b3 b4 b5 b6 b7 d0 d1 d2 d3 d4 d5 d6 d7 U 0 _ (HU.out.later (bl_trans LY.out LX.out)) KU.out).mono ?_
      rintro z g12 ⟨⟨f0, f1, f2, f3, f4, f5, f6, f7, rfl, hI⟩, hb⟩
      have hc : Below g11.heap.size g11 g12 := hb
      have LX : Hid (Below wy.heap.size wy g12) := bl_trans LX.out hc
      have IB : Hid (InE g12 0 (some ⟨f0, 0, none⟩) (some ⟨f1, 0, none⟩) (some ⟨f2, 0, none⟩) (some ⟨f3, 0, none⟩) (some ⟨f4, 0, none⟩) (some ⟨f5, 0, none⟩) (some ⟨f6, 0, none⟩) (some ⟨f7, 0, none⟩) U) := hI.drop (Nat.zero_le _)
      have KZ : Hid (Blk g12 kz #[.slice none 0 0, .slice none 0 0, .slice none 0 0, .slice none 0 0, .slice none 0 0, .slice none 0 0, .slice none 0 0, .slice none 0 0, .bool false, .bool false] 27) := KZ.out.later hc
      have IA : Hid (InE g12 0 (some ⟨e0, 0, none⟩) (some ⟨e1, 0, none⟩) (some ⟨e2, 0, none⟩) (some ⟨e3, 0, none⟩) (some ⟨e4, 0, none⟩) (some ⟨e5, 0, none⟩) (some ⟨e6, 0, none⟩) (some ⟨e7, 0, none⟩) V) := IA.out.later hc
      have K0 : Hid (Blk g12 w.heap.size #[.slice a0 V.l0.length c0, .slice a1 V.l1.length c1, .slice a2 V.l2.length c2, .slice a3 V.l3.length c3, .slice a4 V.l4.length c4, .slice a5 V.l5.length c5, .slice a6 V.l6.length c6, .slice a7 V.l7.length c7, .bool V.sp, .bool V.kl] 24) := K0.out.later hc
      have K1 : Hid (Blk g12 (w.heap.size + 1) #[.slice b0 U.l0.length d0, .slice b1 U.l1.length d1, .slice b2 U.l2.length d2, .slice b3 U.l3.length d3, .slice b4 U.l4.length d4, .slice b5 U.l5.length d5, .slice b6 U.l6.length d6, .slice b7 U.l7.length d7, .bool U.sp, .bool U.kl] 24) := K1.out.later hc
      clear hb hc hI 
      refine hK.out _ _ ?_ (fun hHeld => ?_)
      · exact ⟨K0.out, K1.out⟩
      clear hK K
      try simp only [List.foldl, Act.put, List.setIfInBounds_toArray, List.set_cons_zero, List.set_cons_succ]
      refine wpAnyH_ready (rs := [4]) (by kernel_rfl) (by simp) ?_
      refine AllReadyH.cons rfl (fun K hK => ?_) AllReadyH.nil
      go_simp
      refine (implJoin_oe _ _ _ _ _ _ _ _ _ _ _ _ _ _ _ _ V _ _ _ _ _ _ _ _ _ _ _ _ _ _ _ _ U _ _ _ IA.out IB.out KV2.out KU2.out).mono ?_
      rintro z g13 ⟨⟨r0, r1, r2, r3, r4, r5, r6, r7, m0, m1, m2, m3, m4, m5, m6, m7, J0, rfl, hO, hJ⟩, hb⟩
      have hc : Below g12.heap.size g12 g13 := hb
      have LX : Hid (Below wy.heap.size wy g13) := bl_trans LX.out hc
      have OJ : Hid (OE g13 0 r0 r1 r2 r3 r4 r5 r6 r7 m0 m1 m2 m3 m4 m5 m6 m7 J0) := hO.drop (Nat.zero_le _)
      have HJ : Hid (JoinIs V U J0) := hJ
      have NZ : Hid (NoB kz r0 r1 r2 r3 r4 r5 r6 r7 m0 m1 m2 m3 m4 m5 m6 m7 J0) := hO.no_lt KZ.out.lt
      have KZ : Hid (Blk g13 kz #[.slice none 0 0, .slice none 0 0, .slice none 0 0, .slice none 0 0, .slice none 0 0, .slice none 0 0, .slice none 0 0, .slice none 0 0, .bool false, .bool false] 27) := KZ.out.later hc
      have K0 : Hid (Blk g13 w.heap.size #[.slice a0 V.l0.length c0, .slice a1 V.l1.length c1, .slice a2 V.l2.length c2, .slice a3 V.l3.length c3, .slice a4 V.l4.length c4, .slice a5 V.l5.length c5, .slice a6 V.l6.length c6, .slice a7 V.l7.length c7, .bool V.sp, .bool V.kl] 24) := K0.out.later hc
      have K1 : Hid (Blk g13 (w.heap.size + 1) #[.slice b0 U.l0.length d0, .slice b1 U.l1.length d1, .slice b2 U.l2.length d2, .slice b3 U.l3.length d3, .slice b4 U.l4.length d4, .slice b5 U.l5.length d5, .slice b6 U.l6.length d6, .slice b7 U.l7.length d7, .bool U.sp, .bool U.kl] 24) := K1.out.later hc
      clear hb hc hO hJ IA IB
      refine hK.out _ _ ?_ (fun hHeld => ?_)
      · exact ⟨K0.out, K1.out⟩
      clear hK K
      try simp only [List.foldl, Act.put, List.setIfInBounds_toArray, List.set_cons_zero, List.set_cons_succ]
      refine wpAnyH_ready (rs := [6]) (by kernel_rfl) (by simp) ?_
      refine AllReadyH.cons rfl (fun K hK => ?_) AllReadyH.nil
      have hlx := HKZ.out
      refine wp_store_row 27 (.tmp 13) (.tmp 79) rfl kz #[.slice r0 J0.l0.length m0, .slice r1 J0.l1.length m1, .slice r2 J0.l2.length m2, .slice r3 J0.l3.length m3, .slice r4 J0.l4.length m4, .slice r5 J0.l5.length m5, .slice r6 J0.l6.length m6, .slice r7 J0.l7.length m7, .bool J0.sp, .bool J0.kl] rfl rfl 27 _ KZ.out (by rw [Try.infoEf]; rfl) rfl one10 ?_
      have LX : Hid (Below wy.heap.size wy (g13.setRow kz #[.slice r0 J0.l0.length m0, .slice r1 J0.l1.length m1, .slice r2 J0.l2.length m2, .slice r3 J0.l3.length m3, .slice r4 J0.l4.length m4, .slice r5 J0.l5.length m5, .slice r6 J0.l6.length m6, .slice r7 J0.l7.length m7, .bool J0.sp, .bool J0.kl])) := below_setRow LX.out hlx _
      have KZ : Hid (Blk (g13.setRow kz #[.slice r0 J0.l0.length m0, .slice r1 J0.l1.length m1, .slice r2 J0.l2.length m2, .slice r3 J0.l3.length m3, .slice r4 J0.l4.length m4, .slice r5 J0.l5.length m5, .slice r6 J0.l6.length m6, .slice r7 J0.l7.length m7, .bool J0.sp, .bool J0.kl]) kz #[.slice r0 J0.l0.length m0, .slice r1 J0.l1.length m1, .slice r2 J0.l2.length m2, .slice r3 J0.l3.length m3, .slice r4 J0.l4.length m4, .slice r5 J0.l5.length m5, .slice r6 J0.l6.length m6, .slice r7 J0.l7.length m7, .bool J0.sp, .bool J0.kl] 27) := setRow_heap _ _ _ _ _ _ KZ.out
      have OJ : Hid (OE (g13.setRow kz #[.slice r0 J0.l0.length m0, .slice r1 J0.l1.length m1, .slice r2 J0.l2.length m2, .slice r3 J0.l3.length m3, .slice r4 J0.l4.length m4, .slice r5 J0.l5.length m5, .slice r6 J0.l6.length m6, .slice r7 J0.l7.length m7, .bool J0.sp, .bool J0.kl]) 0 r0 r1 r2 r3 r4 r5 r6 r7 m0 m1 m2 m3 m4 m5 m6 m7 J0) := OJ.out.row NZ.out _
      have K0 : Hid (Blk (g13.setRow kz #[.slice r0 J0.l0.length m0, .slice r1 J0.l1.length m1, .slice r2 J0.l2.length m2, .slice r3 J0.l3.length m3, .slice r4 J0.l4.length m4, .slice r5 J0.l5.length m5, .slice r6 J0.l6.length m6, .slice r7 J0.l7.length m7, .bool J0.sp, .bool J0.kl]) w.heap.size #[.slice a0 V.l0.length c0, .slice a1 V.l1.length c1, .slice a2 V.l2.length c2, .slice a3 V.l3.length c3, .slice a4 V.l4.length c4, .slice a5 V.l5.length c5, .slice a6 V.l6.length c6, .slice a7 V.l7.length c7, .bool V.sp, .bool V.kl] 24) := (setRow_other _ _ _ _ (by have := ltX; omega)).trans K0.out
      have K1 : Hid (Blk (g13.setRow kz #[.slice r0 J0.l0.length m0, .slice r1 J0.l1.length m1, .slice r2 J0.l2.length m2, .slice r3 J0.l3.length m3, .slice r4 J0.l4.length m4, .slice r5 J0.l5.length m5, .slice r6 J0.l6.length m6, .slice r7 J0.l7.length m7, .bool J0.sp, .bool J0.kl]) (w.heap.size + 1) #[.slice b0 U.l0.length d0, .slice b1 U.l1.length d1, .slice b2 U.l2.length d2, .slice b3 U.l3.length d3, .slice b4 U.l4.length d4, .slice b5 U.l5.length d5, .slice b6 U.l6.length d6, .slice b7 U.l7.length d7, .bool U.sp, .bool U.kl] 24) := (setRow_other _ _ _ _ (by have := ltX; omega)).trans K1.out
      refine hK.out _ _ ?_ (fun hHeld => ?_)
      · exact ⟨K0.out, K1.out⟩
      clear hK K
      try simp only [List.foldl, Act.put, List.setIfInBounds_toArray, List.set_cons_zero, List.set_cons_succ]
      refine wpAnyH_done (by kernel_rfl) ?_ _
      go_wp2_with fail
      go_meet
      exact ⟨kz, r0, r1, r2, r3, r4, r5, r6, r7, m0, m1, m2, m3, m4, m5, m6, m7, J0, rfl, KZ.out, OJ.out, HJ.out, LX.out⟩
    case rest =>
      obtain ⟨kh, r0, r1, r2, r3, r4, r5, r6, r7, m0, m1, m2, m3, m4, m5, m6, m7, J0, rfl, KH, OH, hJ0, hwx⟩ := hcut
      obtain rfl : J = J0 := (HJ.out.same hJ0).symm
      have OH := Hid.mk' OH
      have OJe := Hid.mk' (OJy.out.later hwx)
      have CHe := Hid.mk' (CHy.out.later hwx)
      have KGe := Hid.mk' (KGy.out.later hwx)
      have Le := Hid.mk' (bl_trans LY.out hwx)
      obtain ⟨x0, x1, x2, x3, x4, x5, x6, x7, x8, x9, xf⟩ := KH.ten
      obtain ⟨y0, y1, y2, y3, y4, y5, y6, y7, y8, y9, yf⟩ := (KWy.out.later hwx).ten
      clear hJ0 hwx CHy KGy KWy OJy KH
      go_wp2_with fail
      refine (eqEffect_self _ _ _ _ _ _ _ _ _ _ _ _ _ _ _ _ _ _ _ _ _ _ _ _ _ _ _ _ _ _ _ _ J _ _ _ OH.out.inE OJe.out.inE KLJ.out).mono ?_
      rintro e wp ⟨rfl, hbp⟩
      have CHp := Hid.mk' (CHe.out.later hbp)
      obtain ⟨z0, z1, z2, z3, z4, z5, z6, z7, z8, z9, zf⟩ := (KGe.out.later hbp).ten
      have Lp := Hid.mk' (bl_trans Le.out hbp)
      clear x0 x1 x2 x3 x4 x5 x6 x7 x8 x9 xf y0 y1 y2 y3 y4 y5 y6 y7 y8 y9 yf hbp CHe KGe Le OH OJe
      go_wp2_with fail
      refine (heldEffect_own P Cp N J Z.heap.size wp CHp.out lJ9.out).mono ?_
      rintro e wq ⟨rfl, hbq⟩
      have Lq := bl_trans Lp.out hbq
      clear z0 z1 z2 z3 z4 z5 z6 z7 z8 z9 zf hbq Lp CHp
      go_wp2_with fail
      go_ret
      exact ⟨rfl, Lq⟩
end Go.Proofs.Ytgcfhoojjgcpiaa
