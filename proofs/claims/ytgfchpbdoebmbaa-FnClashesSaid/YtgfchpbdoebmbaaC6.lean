import Derived.Test.YtgfchpbdoebmbaaC5
namespace Go.Proofs.Ytgfchpbdoebmbaa
open Go.RowKit
set_option linter.unusedVariables false
set_option linter.unusedSimpArgs false

theorem Hits.of3 {A0 A1 A2 A3 R : List Int} (h : Srt ([inB A0 A2, inB A0 A3, inB A2 A1].flatten) R) : Hits A0 A1 A2 A3 R := by
  refine ⟨h.1, fun x => ?_, ?_⟩
  · rw [h.2.1]
    simp only [List.flatten_cons, List.flatten_nil, List.mem_append, inB_mem, List.not_mem_nil, or_false, hitP]
    constructor
    · rintro (⟨p, q⟩ | ⟨p, q⟩ | ⟨p, q⟩)
      · exact Or.inl ⟨p, Or.inl q⟩
      · exact Or.inl ⟨p, Or.inr q⟩
      · exact Or.inr ⟨p, Or.inr q⟩
    · rintro (⟨p, q | q⟩ | ⟨p, q | q⟩)
      · exact Or.inl ⟨p, q⟩
      · exact Or.inr (Or.inl ⟨p, q⟩)
      · exact Or.inl ⟨q, p⟩
      · exact Or.inr (Or.inr ⟨p, q⟩)
  · have h1 := h.2.2
    have e1 := inB_len A0 A2
    have e2 := inB_len A0 A3
    have e3 := inB_len A2 A1
    simp only [List.flatten_cons, List.flatten_nil, List.length_append, List.length_nil] at h1
    omega

set_option maxRecDepth 100000 in
set_option maxHeartbeats 8000000 in
theorem clashing_any (s0 s1 s2 s3 : Option Addr) (c0 c1 c2 c3 : Nat) (A0 A1 A2 A3 : List Int) (B0 B1 B2 B3 : Nat) (w : World) (h0 : Els 1 cInt w B0 s0 A0) (h1 : Els 1 cInt w B1 s1 A1) (h2 : Els 1 cInt w B2 s2 A2) (h3 : Els 1 cInt w B3 s3 A3) (m0 : A0.length ≤ 4294967296) (m1 : A1.length ≤ 4294967296) (m2 : A2.length ≤ 4294967296) (m3 : A3.length ≤ 4294967296) :
    Calls Try.prog 28 #[.slice s0 A0.length c0, .slice s1 A1.length c1, .slice s2 A2.length c2, .slice s3 A3.length c3] w fun e w' => (∃ s' c', e = .returned (.slice s' (hts A0 A1 A2 A3).length c') ∧ OI w' w.heap.size (.slice s' (hts A0 A1 A2 A3).length c') (hts A0 A1 A2 A3)) ∧ Below w.heap.size w w' := by
  have H0 := Hid.mk2 h0
  have H1 := Hid.mk2 h1
  have H2 := Hid.mk2 h2
  have H3 := Hid.mk2 h3
  clear h0 h1 h2 h3
  go_enter Try.func28, Try.ntmps28
  go_wp2_with fail
  refine (inBoth_any s0 s2 c0 c2 A0 A2 B0 B2 w H0.out H2.out (by omega) (by omega)).mono ?_
  rintro e w1 ⟨⟨t1, e1, P, rfl, o1, hP⟩, b1⟩
  have HP := Hid.mk2 hP
  have lP : P.length ≤ 4294967296 := by rw [hP]; have := inB_len A0 A2; omega
  clear hP
  go_wp2_with fail
  refine (inBoth_any s0 s3 c0 c3 A0 A3 B0 B3 w1 (H0.out.later cInt_keeps b1) (H3.out.later cInt_keeps b1) (by omega) (by omega)).mono ?_
  rintro e w2 ⟨⟨t2, e2, Q, rfl, o2, hQ⟩, b2⟩
  have HQ := Hid.mk2 hQ
  have lQ : Q.length ≤ 4294967296 := by rw [hQ]; have := inB_len A0 A3; omega
  have L2 := bl_trans b1 b2
  replace o1 := o1.later b2
  clear hQ b2
  go_wp2_with fail
  refine (inBoth_any s2 s1 c2 c1 A2 A1 B2 B1 w2 (H2.out.later cInt_keeps L2) (H1.out.later cInt_keeps L2) (by omega) (by omega)).mono ?_
  rintro e w3 ⟨⟨t3, e3, S, rfl, o3, hS⟩, b3⟩
  have HS := Hid.mk2 hS
  have lS : S.length ≤ 4294967296 := by rw [hS]; have := inB_len A2 A1; omega
  have L3 := bl_trans L2 b3
  replace o1 := o1.later b3
  replace o2 := o2.later b3
  have k3 := Blk.new w3 #[.slice t1 P.length e1, .slice t2 Q.length e2, .slice t3 S.length e3] 22
  have b4 : Below w3.heap.size w3 (w3.alloc (.cells #[.slice t1 P.length e1, .slice t2 Q.length e2, .slice t3 S.length e3] 22)) := bl_alloc (Below.refl _ _) _
  have E3 := Hid.mk2 (threeI k3 (((o1.later b4).mono (Nat.zero_le _)).els) (((o2.later b4).mono (Nat.zero_le _)).els) (((o3.later b4).mono (Nat.zero_le _)).els))
  have L4 := Hid.mk2 (bl_trans L3 b4)
  have lF : ([P, Q, S].flatten).length ≤ 1099511627776 := by simp; omega
  clear hS b1 b3 b4 L2 L3 o1 o2 o3 k3 H0 H1 H2 H3
  go_wp2_with fail
  refine (concat_any (some ⟨w3.heap.size, 0, none⟩) 3 [P, Q, S] 0 _ E3.out (by simp) (by omega)).mono ?_
  rintro e w5 ⟨⟨s9, c9, R, rfl, hO, hR⟩, b5⟩
  have lR : R.length ≤ 1099511627776 := by rw [hR]; exact lF
  have HR : Hid (R = [inB A0 A2, inB A0 A3, inB A2 A1].flatten) := by show R = _; rw [hR, HP.out, HQ.out, HS.out]
  have z4 : Hid (w.heap.size ≤ w5.heap.size) := Nat.le_trans L4.out.size b5.size
  have HO : Hid (OI w5 w.heap.size (.slice s9 R.length c9) R) := hO.mono L4.out.size
  have L5 : Hid (Below w.heap.size w w5) := bl_trans L4.out b5
  clear hR hO b5 L4 E3 lF HP HQ HS
  go_wp2_with fail
  refine (sort_own s9 c9 w.heap.size R w5 w HO.out L5.out z4.out (by omega)).mono ?_
  rintro e w6 ⟨⟨rfl, hO2⟩, hb2, hB2⟩
  obtain ⟨M, hM⟩ : ∃ M, Hid ((R.mergeSort fun x y => decide (x ≤ y)) = M) := ⟨_, (rfl : (R.mergeSort fun x y => decide (x ≤ y)) = _)⟩
  rw [hM.out] at hO2
  have lM : M.length = R.length := by rw [← hM.out]; exact List.length_mergeSort R
  rw [← lM] at hO2
  have HO2 : Hid (OI w6 w.heap.size (.slice s9 M.length c9) M) := hO2
  have HB2 : Hid (Below w.heap.size w w6) := hb2
  clear hO2 hb2 HO L5 z4
  go_wp2_with fail
  rw [← lM]
  refine (compact_own s9 c9 w.heap.size M w6 w HO2.out HB2.out hB2 (by omega)).mono ?_
  rintro e w7 ⟨⟨rfl, hO3⟩, hb3⟩
  have HH : Hid (Lib.compact M = hts A0 A1 A2 A3) := by
    have h5 : Srt R (Lib.compact M) := by rw [← hM.out]; exact srt_compact R
    rw [HR.out] at h5
    exact (Hits.of3 h5).is
  have HO3 : Hid (OI w7 w.heap.size (.slice s9 (Lib.compact M).length c9) (Lib.compact M)) := hO3
  have HB3 : Hid (Below w.heap.size w w7) := hb3
  clear hO3 hb3
  generalize Lib.compact M = Z at HH HO3 ⊢
  go_wp2_with fail
  go_ret
  have e9 := HH.out
  subst e9
  exact ⟨⟨s9, c9, rfl, HO3.out⟩, HB3.out⟩

set_option maxRecDepth 100000 in
set_option maxHeartbeats 4000000 in
theorem clashesAt_any (k : Int) (t : Option Addr) (d : Nat) (H : List Int) (C : Nat) (w : World) (hH : OI w C (.slice t H.length d) H) (lH : H.length ≤ 536870912) :
    Calls Try.prog 27 #[.int .i64 k, .slice t H.length d] w fun e w' => (∃ s' c' R, e = .returned (.slice s' (List.length (α := Int × Int) R) c') ∧ KRow w' w.heap.size (.slice s' (List.length (α := Int × Int) R) c') R ∧ R = ofSort k H) ∧ Below w.heap.size w w' := by
  have HE := Hid.mk2 hH.els
  clear hH
  go_enter Try.func27, Try.ntmps27
  go_wp2_with fail
  go_loopw [5, 10] (fun ov iv wr => ∃ (i : Nat) (s9 : Option Addr) (c9 : Nat) (P : List (Int × Int)), i ≤ H.length ∧ iv = .int .i64 i ∧ ov = .slice s9 P.length c9 ∧ Hid (P = ofSort k (H.take i)) ∧ Hid (KRow wr w.heap.size (.slice s9 P.length c9) P) ∧ Hid (Below w.heap.size w wr)) (fun _ iv _ => H.length - (intOf iv).toNat)
  case atStart => exact ⟨0, none, 0, [], Nat.zero_le _, rfl, rfl, (by simp [ofSort, Hid]), KRow.nil _ _, Below.refl _ _⟩
  case round =>
    obtain ⟨i, s9, c9, P, hi, rfl, rfl, hP, hK, hb⟩ := hrel
    by_cases hlt : i < H.length
    · obtain ⟨x, hx⟩ := get_some hlt
      obtain ⟨b, o, rfl, _, hq, ex0⟩ := eInt_cells HE.out hx
      have ex := (hb.out.cell (p := ⟨b, o + i, none⟩) hq).trans ex0
      obtain ⟨P2, hP2⟩ : ∃ P2, Hid (P ++ [(k, x)] = P2) := ⟨_, (rfl : P ++ [(k, x)] = _)⟩
      have HS : Hid (P2 = ofSort k (H.take (i + 1))) := by show P2 = _; rw [l_snoc hx, ← hP.out, hP2.out]
      have lP : P.length ≤ 1073741824 := by rw [hP.out, ofSort_len, List.length_take]; omega
      have LA : Below wr.heap.size wr (wr.alloc (.cells #[.int .i64 k, .int .i64 x] 42)) := bl_alloc (Below.refl _ _) _
      have hK2 : Hid (KRow (wr.alloc (.cells #[.int .i64 k, .int .i64 x] 42)) w.heap.size (.slice s9 P.length c9) P) := hK.out.later LA
      have hb2 : Hid (Below w.heap.size w (wr.alloc (.cells #[.int .i64 k, .int .i64 x] 42))) := bl_trans hb.out LA
      obtain ⟨z0, z1⟩ := clash_cells wr k x
      clear hx hK LA hP
      go_wp2_with (at_builtin; refine wpList_append_clash _ rfl _ _ rfl w.heap.size (.slice s9 P.length c9) P rfl hK2.out wr.heap.size k x rfl z0 z1 lP hb2.out.size ?_; intro v' w4 hK4 hg4)
      rw [hP2.out] at hK4
      obtain ⟨s', c', rfl⟩ := hK4.shape
      have hK4 : Hid (KRow w4 w.heap.size (.slice s' P2.length c') P2) := hK4
      have hb4 : Hid (Below w.heap.size w w4) := grown_k hb2.out hb2.out.size hK2.out hg4
      clear hg4 hK2 hb2 z0 z1 hb ex
      go_wp2_with fail
      go_roundw
      case rel => exact ⟨i + 1, s', c', P2, by omega, by go_num, rfl, HS, hK4, hb4⟩
      case measure => simp [intOf]; omega
    · have HS : Hid (P = ofSort k H) := by show P = _; rw [hP.out, List.take_of_length_le (by omega)]
      go_wp2_with fail
      go_ret
      exact ⟨⟨s9, c9, P, rfl, hK.out, HS.out⟩, hb.out⟩

theorem tgL_nat (e : Ef) (m : Nat) (h : e.kl = true) : tgL e (m : Int) = e.l7 ++ cols m := by simp [tgL, h]
theorem tgL_not (e : Ef) (n : Int) (h : e.kl = false) : tgL e n = e.l7 := by simp [tgL, h]

set_option maxRecDepth 100000 in
set_option maxHeartbeats 4000000 in
theorem askedColumns_any (a0 a1 a2 a3 a4 a5 a6 a7 : Option Addr) (c0 c1 c2 c3 c4 c5 c6 c7 : Nat) (V : Ef) (B : Nat) (w : World) (hV : InE w B a0 a1 a2 a3 a4 a5 a6 a7 V) (kV : kEf V) :
    Calls Try.prog 37 #[.agg #[.slice a0 V.l0.length c0, .slice a1 V.l1.length c1, .slice a2 V.l2.length c2, .slice a3 V.l3.length c3, .slice a4 V.l4.length c4, .slice a5 V.l5.length c5, .slice a6 V.l6.length c6, .slice a7 V.l7.length c7, .bool V.sp, .bool V.kl]] w fun e w' => (∃ s' c' R, e = .returned (.slice s' (List.length (α := Int) R) c') ∧ OI w' w.heap.size (.slice s' R.length c') R ∧ R = askL V) ∧ Below w.heap.size w w' := by
  obtain ⟨k0, k1, L0⟩ := blkTwoE w #[.slice a0 V.l0.length c0, .slice a1 V.l1.length c1, .slice a2 V.l2.length c2, .slice a3 V.l3.length c3, .slice a4 V.l4.length c4, .slice a5 V.l5.length c5, .slice a6 V.l6.length c6, .slice a7 V.l7.length c7, .bool V.sp, .bool V.kl] #[.slice a0 V.l0.length c0, .slice a1 V.l1.length c1, .slice a2 V.l2.length c2] 28 22
  obtain ⟨x0, x1, x2, x3, x4, x5, x6, x7, x8, x9, xf⟩ := (Blk.new w #[.slice a0 V.l0.length c0, .slice a1 V.l1.length c1, .slice a2 V.l2.length c2, .slice a3 V.l3.length c3, .slice a4 V.l4.length c4, .slice a5 V.l5.length c5, .slice a6 V.l6.length c6, .slice a7 V.l7.length c7, .bool V.sp, .bool V.kl] 28).ten
  have E3 := Hid.mk2 (threeI k1 (((hV.later L0).p0).drop cInt_drops (Nat.zero_le _)) (((hV.later L0).p1).drop cInt_drops (Nat.zero_le _)) (((hV.later L0).p2).drop cInt_drops (Nat.zero_le _)))
  have lF : ([V.l0, V.l1, V.l2].flatten).length ≤ 4398046511104 := by obtain ⟨m0, m1, m2, m3, m4, m5, m6, m7⟩ := kV; simp; omega
  have L1 := Hid.mk2 L0
  clear hV k0 k1 L0
  go_enter Try.func37, Try.ntmps37
  go_wp2_with fail
  refine (concat_any (some ⟨w.heap.size + 1, 0, none⟩) 3 [V.l0, V.l1, V.l2] 0 _ E3.out (by simp) lF).mono ?_
  rintro e w5 ⟨⟨s9, c9, R, rfl, hO, hR⟩, b5⟩
  have HR : Hid (R = askL V) := by show R = _; rw [hR]; simp [askL]
  have HO : Hid (OI w5 w.heap.size (.slice s9 R.length c9) R) := hO.mono L1.out.size
  have L5 : Hid (Below w.heap.size w w5) := bl_trans L1.out b5
  clear hR hO b5 L1 E3 lF
  go_wp2_with fail
  go_ret
  exact ⟨⟨s9, c9, R, rfl, HO.out, HR.out⟩, L5.out⟩

set_option maxRecDepth 100000 in
set_option maxHeartbeats 4000000 in
theorem commandTargets_any (a0 a1 a2 a3 a4 a5 a6 a7 : Option Addr) (c0 c1 c2 c3 c4 c5 c6 c7 : Nat) (V : Ef) (m : Nat) (hm : m ≤ 12) (B : Nat) (w : World) (hV : InE w B a0 a1 a2 a3 a4 a5 a6 a7 V) (kV : kEf V) :
    Calls Try.prog 36 #[.agg #[.slice a0 V.l0.length c0, .slice a1 V.l1.length c1, .slice a2 V.l2.length c2, .slice a3 V.l3.length c3, .slice a4 V.l4.length c4, .slice a5 V.l5.length c5, .slice a6 V.l6.length c6, .slice a7 V.l7.length c7, .bool V.sp, .bool V.kl], .int .i64 (m : Int)] w fun e w' => (∃ s' c' R, e = .returned (.slice s' (List.length (α := Int) R) c') ∧ OI w' w.heap.size (.slice s' R.length c') R ∧ R = tgL V m) ∧ Below w.heap.size w w' := by
  have k0 := Blk.new w #[.slice a0 V.l0.length c0, .slice a1 V.l1.length c1, .slice a2 V.l2.length c2, .slice a3 V.l3.length c3, .slice a4 V.l4.length c4, .slice a5 V.l5.length c5, .slice a6 V.l6.length c6, .slice a7 V.l7.length c7, .bool V.sp, .bool V.kl] 28
  have L0 : Below w.heap.size w (w.alloc (.cells #[.slice a0 V.l0.length c0, .slice a1 V.l1.length c1, .slice a2 V.l2.length c2, .slice a3 V.l3.length c3, .slice a4 V.l4.length c4, .slice a5 V.l5.length c5, .slice a6 V.l6.length c6, .slice a7 V.l7.length c7, .bool V.sp, .bool V.kl] 28)) := bl_alloc (Below.refl _ _) _
  obtain ⟨x0, x1, x2, x3, x4, x5, x6, x7, x8, x9, xf⟩ := k0.ten
  have l7 : V.l7.length ≤ 1048576 := kV.2.2.2.2.2.2.2
  go_enter Try.func36, Try.ntmps36
  go_wp2_with fail
  refine (cloneI_any a7 c7 V.l7 B _ (hV.later L0).p7 (by omega)).mono ?_
  rintro e w1 ⟨⟨s1, c1', rfl, o1⟩, b1⟩
  replace k0 := k0.later b1
  have L1 := Hid.mk2 (bl_trans L0 b1)
  have O1 : Hid (OI w1 w.heap.size (.slice s1 V.l7.length c1') V.l7) := o1.mono L0.size
  clear hV kV L0 b1 x0 x1 x2 x3 x4 x5 x6 x7 x8 x9 xf o1
  obtain ⟨x0, x1, x2, x3, x4, x5, x6, x7, x8, x9, xf⟩ := k0.ten
  clear k0
  cases hk : V.kl
  · rw [hk] at x9
    have HR := Hid.mk2 (tgL_not V (m : Int) hk)
    go_wp2_with fail
    go_ret
    exact ⟨⟨s1, c1', V.l7, rfl, O1.out, HR.out.symm⟩, L1.out⟩
  · rw [hk] at x9
    have HR := Hid.mk2 (tgL_nat V m hk)
    clear hk
    go_wp2_with fail
    clear x0 x1 x2 x3 x4 x5 x6 x7 x8 x9 xf
    go_loopw [5, 13] (fun ov iv wr => ∃ (i : Nat) (s9 : Option Addr) (c9 : Nat) (R : List Int), i ≤ m ∧ iv = .int .i64 (i : Int) ∧ ov = .slice s9 R.length c9 ∧ Hid (R = V.l7 ++ cols i) ∧ Hid (OI wr w.heap.size (.slice s9 R.length c9) R) ∧ Hid (Below w.heap.size w wr)) (fun _ iv _ => m - (intOf iv).toNat)
    case atStart => exact ⟨0, s1, c1', V.l7, Nat.zero_le _, rfl, rfl, (by simp [cols, Hid]), O1, L1⟩
    case round =>
      clear O1 L1
      obtain ⟨i, s9, c9, R, hi, rfl, rfl, hR, hO, hb⟩ := hrel
      have lR : R.length ≤ 2097152 := by rw [hR.out, List.length_append, cols_len]; omega
      by_cases hlt : i < m
      · obtain ⟨R2, hR2⟩ : ∃ R2, Hid (R ++ [(i : Int)] = R2) := ⟨_, (rfl : R ++ [(i : Int)] = _)⟩
        have HS : Hid (R2 = V.l7 ++ cols (i + 1)) := by show R2 = _; rw [cols, ← List.append_assoc, ← hR.out, hR2.out]
        have hb3 : Below w.heap.size w (wr.alloc (.cells #[.int .i64 (i : Int)] 3)) := bl_alloc hb.out _
        have hO2 : Hid (OI (wr.alloc (.cells #[.int .i64 (i : Int)] 3)) w.heap.size (.slice s9 R.length c9) R) := hO.out.later (bl_alloc (Below.refl _ _) _)
        have E5 : Hid (Els 1 cInt (wr.alloc (.cells #[.int .i64 (i : Int)] 3)) wr.heap.size (some ⟨wr.heap.size, 0, none⟩) [(i : Int)]) := Els.one (Blk.new wr #[.int .i64 (i : Int)] 3)
        clear hO hR
        go_wp2_with (at_builtin; refine wpList_append_ints rfl _ _ rfl w.heap.size s9 c9 R rfl hO2.out wr.heap.size _ 1 [(i : Int)] rfl E5.out R2 hR2.out (by simp; omega) hb3.size ?_; intro s' c' w4 hO4 hg4 hn4)
        have hO4 : Hid (OI w4 w.heap.size (.slice s' R2.length c') R2) := hO4
        have hb4 : Hid (Below w.heap.size w w4) := grown_oi hb3 hb3.size hO2.out hg4
        clear hg4 hn4 hO2 E5 hb3 hb
        go_wp2_with fail
        go_roundw
        case rel => exact ⟨i + 1, s', c', R2, by omega, by go_num, rfl, HS, hO4, hb4⟩
        case measure => simp [intOf]; omega
      · have HS : Hid (R = tgL V m) := by show R = _; rw [HR.out, hR.out, show i = m by omega]
        go_wp2_with fail
        go_ret
        exact ⟨⟨s9, c9, R, rfl, hO.out, HS.out⟩, hb.out⟩

set_option maxRecDepth 100000 in
set_option maxHeartbeats 4000000 in
theorem l16Targets_any (a0 a1 a2 a3 a4 a5 a6 a7 : Option Addr) (c0 c1 c2 c3 c4 c5 c6 c7 : Nat) (V : Ef) (m : Nat) (hm : m ≤ 12) (B : Nat) (w : World) (hV : InE w B a0 a1 a2 a3 a4 a5 a6 a7 V) (kV : kEf V) :
    Calls Try.prog 33 #[.agg #[.slice a0 V.l0.length c0, .slice a1 V.l1.length c1, .slice a2 V.l2.length c2, .slice a3 V.l3.length c3, .slice a4 V.l4.length c4, .slice a5 V.l5.length c5, .slice a6 V.l6.length c6, .slice a7 V.l7.length c7, .bool V.sp, .bool V.kl], .int .i64 (m : Int)] w fun e w' => (∃ s' c' R, e = .returned (.slice s' (List.length (α := Int) R) c') ∧ OI w' w.heap.size (.slice s' R.length c') R ∧ Srt (tgL V m) R) ∧ Below w.heap.size w w' := by
  obtain ⟨k0, k1, L0⟩ := blkTwoE w #[.slice a0 V.l0.length c0, .slice a1 V.l1.length c1, .slice a2 V.l2.length c2, .slice a3 V.l3.length c3, .slice a4 V.l4.length c4, .slice a5 V.l5.length c5, .slice a6 V.l6.length c6, .slice a7 V.l7.length c7, .bool V.sp, .bool V.kl] #[] 28 3
  obtain ⟨x0, x1, x2, x3, x4, x5, x6, x7, x8, x9, xf⟩ := k0.ten
  have l7 : V.l7.length ≤ 1048576 := kV.2.2.2.2.2.2.2
  have O0 : Hid (OI ((w.alloc (.cells #[.slice a0 V.l0.length c0, .slice a1 V.l1.length c1, .slice a2 V.l2.length c2, .slice a3 V.l3.length c3, .slice a4 V.l4.length c4, .slice a5 V.l5.length c5, .slice a6 V.l6.length c6, .slice a7 V.l7.length c7, .bool V.sp, .bool V.kl] 28)).alloc (.cells #[] 3)) (w.heap.size + 1) (.slice (some ⟨w.heap.size + 1, 0, none⟩) 0 0) []) := OI.empty k1
  have EA : Hid (Els 1 cInt ((w.alloc (.cells #[.slice a0 V.l0.length c0, .slice a1 V.l1.length c1, .slice a2 V.l2.length c2, .slice a3 V.l3.length c3, .slice a4 V.l4.length c4, .slice a5 V.l5.length c5, .slice a6 V.l6.length c6, .slice a7 V.l7.length c7, .bool V.sp, .bool V.kl] 28)).alloc (.cells #[] 3)) B a7 V.l7) := (hV.later L0).p7
  have K0 := Hid.mk2 k0
  have LL := Hid.mk2 L0
  have Z0 : Hid (w.heap.size + 1 ≤ ((w.alloc (.cells #[.slice a0 V.l0.length c0, .slice a1 V.l1.length c1, .slice a2 V.l2.length c2, .slice a3 V.l3.length c3, .slice a4 V.l4.length c4, .slice a5 V.l5.length c5, .slice a6 V.l6.length c6, .slice a7 V.l7.length c7, .bool V.sp, .bool V.kl] 28)).alloc (.cells #[] 3)).heap.size) := by show _ ≤ _; simp
  clear k0 k1 L0 hV kV
  go_enter Try.func33, Try.ntmps33
  go_wp2_with (at_builtin; refine wpList_append_ints rfl _ _ rfl (w.heap.size + 1) _ 0 [] rfl O0.out B a7 c7 V.l7 rfl EA.out V.l7 (List.nil_append _) (by simp; omega) Z0.out ?_; intro s1 c1' w1 hO1' hg1 hn1)
  have be1 : Hid (Below (w.heap.size + 1) ((w.alloc (.cells #[.slice a0 V.l0.length c0, .slice a1 V.l1.length c1, .slice a2 V.l2.length c2, .slice a3 V.l3.length c3, .slice a4 V.l4.length c4, .slice a5 V.l5.length c5, .slice a6 V.l6.length c6, .slice a7 V.l7.length c7, .bool V.sp, .bool V.kl] 28)).alloc (.cells #[] 3)) w1) := grown_oi (Below.refl _ _) Z0.out O0.out hg1
  have K1 := Hid.mk2 (K0.out.under be1.out (by omega))
  have L1 : Hid (Below w.heap.size w w1) := LL.out.trans (be1.out.mono (by omega))
  have Z1 : Hid (w.heap.size + 1 ≤ w1.heap.size) := K1.out.lt
  have O1 : Hid (OI w1 (w.heap.size + 1) (.slice s1 V.l7.length c1') V.l7) := hO1'
  clear hO1' hg1 hn1 be1 O0 EA K0 LL Z0 x0 x1 x2 x3 x4 x5 x6 x7 x8 x9 xf
  go_wp2_with fail
  go_loopw [5, 6] (fun ov iv wr => ∃ (i : Nat) (s9 : Option Addr) (c9 : Nat) (R : List Int), i ≤ m ∧ iv = .int .i64 (i : Int) ∧ ov = .slice s9 R.length c9 ∧ Hid (R = V.l7 ++ (if V.kl then cols i else [])) ∧ Hid (OI wr (w.heap.size + 1) (.slice s9 R.length c9) R) ∧ Hid (Below (w.heap.size + 1) w1 wr) ∧ Hid (w.heap.size + 1 ≤ wr.heap.size)) (fun _ iv _ => m - (intOf iv).toNat)
  case atStart => exact ⟨0, s1, c1', V.l7, Nat.zero_le _, rfl, rfl, (by simp [cols, Hid]), O1, Below.refl _ _, Z1⟩
  case round =>
    clear O1 Z1
    obtain ⟨i, s9, c9, R, hi, rfl, rfl, hR, hO, hb, hz⟩ := hrel
    have lR : R.length ≤ 2097152 := by
      rw [hR.out, List.length_append]
      split
      · rw [cols_len]; omega
      · simp; omega
    obtain ⟨x0, x1, x2, x3, x4, x5, x6, x7, x8, x9, xf⟩ := (K1.out.under hb.out (by omega)).ten
    by_cases hgo : i < m ∧ V.kl = true
    · obtain ⟨hlt, hk⟩ := hgo
      rw [hk] at x9
      obtain ⟨R2, hR2⟩ : ∃ R2, Hid (R ++ [(i : Int)] = R2) := ⟨_, (rfl : R ++ [(i : Int)] = _)⟩
      have HS : Hid (R2 = V.l7 ++ (if V.kl then cols (i + 1) else [])) := by show R2 = _; rw [← hR2.out, hR.out, hk]; simp [cols]
      have hb3 : Hid (Below (w.heap.size + 1) w1 (wr.alloc (.cells #[.int .i64 (i : Int)] 3))) := hb.out.trans ((bl_alloc (Below.refl _ _) _ : Below wr.heap.size wr _).mono hz.out)
      have hz3 : Hid (w.heap.size + 1 ≤ (wr.alloc (.cells #[.int .i64 (i : Int)] 3)).heap.size) := by have := hz.out; show _ ≤ _; simp; omega
      have hO2 : Hid (OI (wr.alloc (.cells #[.int .i64 (i : Int)] 3)) (w.heap.size + 1) (.slice s9 R.length c9) R) := hO.out.later (bl_alloc (Below.refl _ _) _)
      have E5 : Hid (Els 1 cInt (wr.alloc (.cells #[.int .i64 (i : Int)] 3)) wr.heap.size (some ⟨wr.heap.size, 0, none⟩) [(i : Int)]) := Els.one (Blk.new wr #[.int .i64 (i : Int)] 3)
      clear hO hR hk
      go_wp2_with (at_builtin; refine wpList_append_ints rfl _ _ rfl (w.heap.size + 1) s9 c9 R rfl hO2.out wr.heap.size _ 1 [(i : Int)] rfl E5.out R2 hR2.out (by simp; omega) hz3.out ?_; intro s' c' w4 hO4 hg4 hn4)
      have hO4 : Hid (OI w4 (w.heap.size + 1) (.slice s' R2.length c') R2) := hO4
      have hb4 : Hid (Below (w.heap.size + 1) w1 w4) := grown_oi hb3.out hz3.out hO2.out hg4
      have hz4 : Hid (w.heap.size + 1 ≤ w4.heap.size) := Nat.le_trans hz3.out hg4.size
      clear hg4 hn4 hO2 E5 hb3 hz3 hb hz x0 x1 x2 x3 x4 x5 x6 x7 x8 x9 xf
      go_wp2_with fail
      go_roundw
      case rel => exact ⟨i + 1, s', c', R2, by omega, by go_num, rfl, HS, hO4, hb4, hz4⟩
      case measure => simp [intOf]; omega
    · have HS : Hid (R = tgL V m) := by
        show R = _
        rw [hR.out]
        unfold tgL
        by_cases hk : V.kl = true
        · have : i = m := by
            by_cases hlt : i < m
            · exact absurd ⟨hlt, hk⟩ hgo
            · omega
          subst this
          simp
        · simp [hk]
      have LE := Hid.mk2 (L1.out.trans (hb.out.mono (by omega)))
      have HK : Hid (V.kl = true → ¬ i < m) := fun hk hlt => hgo ⟨hlt, hk⟩
      clear hgo hR
      by_cases hlt : i < m
      · have hk : V.kl = false := by
          cases hk : V.kl
          · rfl
          · exact absurd hlt (HK.out hk)
        rw [hk] at x9
        clear hk HK
        go_wp2_with fail
        clear x0 x1 x2 x3 x4 x5 x6 x7 x8 x9 xf
        refine (l10Sorted_any R.length R (show Hid _ from rfl) (by omega) s9 c9 _ _ hO.out.els hO.out.cap).mono ?_
        rintro e w3 ⟨⟨s3, c3', T, rfl, o3, h3⟩, hb3⟩
        have HO3 : Hid (OI w3 w.heap.size (.slice s3 T.length c3') T) := o3.mono (by have := hz.out; omega)
        have H3 : Hid (Srt (tgL V m) T) := by rw [← HS.out]; exact h3
        have L3 : Hid (Below w.heap.size w w3) := bl_trans LE.out hb3
        clear o3 h3 hb3 HS LE hO hb
        go_wp2_with fail
        go_ret
        exact ⟨⟨s3, c3', T, rfl, HO3.out, H3.out⟩, L3.out⟩
      · clear HK
        go_wp2_with fail
        clear x0 x1 x2 x3 x4 x5 x6 x7 x8 x9 xf
        refine (l10Sorted_any R.length R (show Hid _ from rfl) (by omega) s9 c9 _ _ hO.out.els hO.out.cap).mono ?_
        rintro e w3 ⟨⟨s3, c3', T, rfl, o3, h3⟩, hb3⟩
        have HO3 : Hid (OI w3 w.heap.size (.slice s3 T.length c3') T) := o3.mono (by have := hz.out; omega)
        have H3 : Hid (Srt (tgL V m) T) := by rw [← HS.out]; exact h3
        have L3 : Hid (Below w.heap.size w w3) := bl_trans LE.out hb3
        clear o3 h3 hb3 HS LE hO hb
        go_wp2_with fail
        go_ret
        exact ⟨⟨s3, c3', T, rfl, HO3.out, H3.out⟩, L3.out⟩
end Go.Proofs.Ytgfchpbdoebmbaa
