import Derived.Test.YtgfchpbdoebmbaaC2
namespace Go.Proofs.Ytgfchpbdoebmbaa
open Go.RowKit
set_option linter.unusedVariables false
set_option linter.unusedSimpArgs false

theorem KRow.shape {w : World} {B : Nat} {v : Value} {L : List (Int × Int)} (h : KRow w B v L) : ∃ s c, v = .slice s L.length c := by
  rcases h.form with ⟨rfl, rfl⟩ | ⟨g, cap, rfl, _⟩
  · exact ⟨none, 0, rfl⟩
  · exact ⟨_, cap, rfl⟩
theorem KRow.empty {w : World} {b : Nat} (h : Blk w b #[] 42) : KRow w b (.slice (some ⟨b, 0, none⟩) 0 0) [] := ⟨rfl, Or.inr ⟨b, 0, _, rfl, Nat.le_refl _, h, Nat.le_refl _, by unfold maxLen; omega, rfl, rfl⟩⟩
theorem KRow.apartI {w : World} {B C : Nat} {v u : Value} {O : List (Int × Int)} {H : List Int} (h : KRow w B v O) (g : OI w C u H) : ∀ k, u.ownBlock = some k → ¬ v.ownBlock = some k := by
  intro k hk
  rcases g.2 with ⟨rfl, _⟩ | ⟨g', cap', cur', rfl, _, hg', _⟩
  · simp [Value.ownBlock] at hk
  · simp only [Value.ownBlock, Option.some.injEq] at hk
    subst hk
    rcases h.2 with ⟨rfl, _⟩ | ⟨g, cap, cur, rfl, _, hg, _⟩
    · simp [Value.ownBlock]
    · simp only [Value.ownBlock, Option.some.injEq]
      intro e
      subst e
      rw [hg] at hg'
      simp at hg'
theorem OI.keptO {w w' : World} {B : Nat} {v : Value} {G : List Int} {r : Option Nat} (h : OI w B v G) (hg : w.grownBy w' r) (hr : ∀ k, v.ownBlock = some k → ¬ r = some k) : OI w' B v G := by
  cases hv : v.ownBlock with
  | none => exact World.ownsRow.kept h hg (Or.inl hv)
  | some k => exact World.ownsRow.kept h hg (Or.inr (by rw [hv]; exact fun e => hr k hv e.symm))
theorem grown_k {B : Nat} {W X Y : World} {v : Value} {L : List (Int × Int)} (hb : Below B W X) (hB : B ≤ X.heap.size) (hv : KRow X B v L) (hg : X.grownBy Y v.ownBlock) : Below B W Y :=
  hb.grown hg hB (fun q hq => (hv.lt q hq).1)
theorem Blk.under {BB n : Nat} {w w' : World} {c : Array Value} {t : TypeId} (h : Blk w n c t) (hb : Below BB w w') (hn : n < BB) : Blk w' n c t := by unfold Blk; rw [hb.block n hn]; exact h
theorem clash_cells (w : World) (k x : Int) : (w.alloc (.cells #[.int .i64 k, .int .i64 x] 42)).cell? ⟨w.heap.size, 0, none⟩ = some (.int .i64 k) ∧ (w.alloc (.cells #[.int .i64 k, .int .i64 x] 42)).cell? ⟨w.heap.size, 1, none⟩ = some (.int .i64 x) :=
  ⟨(Blk.new w #[.int .i64 k, .int .i64 x] 42).cell 0, (Blk.new w #[.int .i64 k, .int .i64 x] 42).cell 1⟩

set_option maxRecDepth 100000 in
set_option maxHeartbeats 4000000 in
theorem l16Both_any (s : Option Addr) (c : Nat) (O : List (Int × Int)) (k : Int) (t : Option Addr) (d : Nat) (H : List Int) (B C : Nat) (w W : World) (hO : KRow w B (.slice s O.length c) O) (hb : Below B W w) (hB : B ≤ w.heap.size) (hH : OI w C (.slice t H.length d) H) (lO : O.length ≤ 536870912) (lH : H.length ≤ 536870912) :
    Calls Try.prog 23 #[.slice s O.length c, .int .i64 k, .slice t H.length d] w fun e w' => (∃ s' c' R, e = .returned (.slice s' (List.length (α := Int × Int) R) c') ∧ KRow w' B (.slice s' (List.length (α := Int × Int) R) c') R ∧ R = O ++ ofSort k H) ∧ Below B W w' ∧ B ≤ w'.heap.size := by
  have HO := Hid.mk2 hO
  have HB := Hid.mk2 hb
  have HH := Hid.mk2 hH
  have Hz := Hid.mk2 hB
  clear hO hb hH hB
  go_enter Try.func23, Try.ntmps23
  go_wp2_with fail
  go_loopw [0, 7] (fun ov iv wr => ∃ (i : Nat) (s9 : Option Addr) (c9 : Nat) (P : List (Int × Int)), i ≤ H.length ∧ iv = .int .i64 i ∧ ov = .slice s9 P.length c9 ∧ Hid (P = O ++ ofSort k (H.take i)) ∧ Hid (KRow wr B (.slice s9 P.length c9) P) ∧ Hid (OI wr C (.slice t H.length d) H) ∧ Hid (Below B W wr) ∧ Hid (B ≤ wr.heap.size)) (fun _ iv _ => H.length - (intOf iv).toNat)
  case atStart => exact ⟨0, s, c, O, Nat.zero_le _, rfl, rfl, (by simp [ofSort, Hid]), HO, HH, HB, Hz⟩
  case round =>
    clear HO HB HH Hz
    obtain ⟨i, s9, c9, P, hi, rfl, rfl, hP, hK, hH, hb, hz⟩ := hrel
    by_cases hlt : i < H.length
    · obtain ⟨x, hx⟩ := get_some hlt
      obtain ⟨b, o, rfl, _, hq, ex⟩ := eInt_cells hH.out.els hx
      obtain ⟨P2, hP2⟩ : ∃ P2, Hid (P ++ [(k, x)] = P2) := ⟨_, (rfl : P ++ [(k, x)] = _)⟩
      have HS : Hid (P2 = O ++ ofSort k (H.take (i + 1))) := by show P2 = _; rw [l_snoc hx, ← List.append_assoc, ← hP.out, hP2.out]
      have lP : P.length ≤ 1073741824 := by rw [hP.out, List.length_append, ofSort_len, List.length_take]; omega
      have LA : Below wr.heap.size wr (wr.alloc (.cells #[.int .i64 k, .int .i64 x] 42)) := bl_alloc (Below.refl _ _) _
      have hK2 : Hid (KRow (wr.alloc (.cells #[.int .i64 k, .int .i64 x] 42)) B (.slice s9 P.length c9) P) := hK.out.later LA
      have hH2 : Hid (OI (wr.alloc (.cells #[.int .i64 k, .int .i64 x] 42)) C (.slice (some ⟨b, o, none⟩) H.length d) H) := hH.out.later LA
      have hb2 : Hid (Below B W (wr.alloc (.cells #[.int .i64 k, .int .i64 x] 42))) := hb.out.trans (LA.mono hz.out)
      have hz2 : Hid (B ≤ (wr.alloc (.cells #[.int .i64 k, .int .i64 x] 42)).heap.size) := Nat.le_trans hz.out LA.size
      obtain ⟨z0, z1⟩ := clash_cells wr k x
      clear hx hK hH LA hP
      go_wp2_with (at_builtin; refine wpList_append_clash _ rfl _ _ rfl B (.slice s9 P.length c9) P rfl hK2.out wr.heap.size k x rfl z0 z1 lP hz2.out ?_; intro v' w4 hK4 hg4)
      rw [hP2.out] at hK4
      obtain ⟨s', c', rfl⟩ := hK4.shape
      have hK4 : Hid (KRow w4 B (.slice s' P2.length c') P2) := hK4
      have hb4 : Hid (Below B W w4) := grown_k hb2.out hz2.out hK2.out hg4
      have hz4 : Hid (B ≤ w4.heap.size) := Nat.le_trans hz2.out hg4.size
      have hH4 : Hid (OI w4 C (.slice (some ⟨b, o, none⟩) H.length d) H) := hH2.out.keptO hg4 (hK2.out.apartI hH2.out)
      clear hg4 hK2 hH2 hb2 hz2 z0 z1 hb ex
      go_wp2_with fail
      go_roundw
      case rel => exact ⟨i + 1, s', c', P2, by omega, by go_num, rfl, HS, hK4, hH4, hb4, hz4⟩
      case measure => simp [intOf]; omega
    · have HS : Hid (P = O ++ ofSort k H) := by show P = _; rw [hP.out, List.take_of_length_le (by omega)]
      go_wp2_with fail
      go_ret
      exact ⟨⟨s9, c9, P, rfl, hK.out, HS.out⟩, hb.out, hz.out⟩

set_option maxRecDepth 100000 in
set_option maxHeartbeats 8000000 in
theorem specClashes_any (a0 a1 a2 a3 a4 a5 a6 a7 : Option Addr) (c0 c1 c2 c3 c4 c5 c6 c7 : Nat) (V : Ef) (b0 b1 b2 b3 b4 b5 b6 b7 : Option Addr) (d0 d1 d2 d3 d4 d5 d6 d7 : Nat) (U : Ef) (B C : Nat) (w : World) (hV : InE w B a0 a1 a2 a3 a4 a5 a6 a7 V) (hU : InE w C b0 b1 b2 b3 b4 b5 b6 b7 U) (kV : kEf V) (kU : kEf U) (cV : V.l0.length ≤ c0 ∧ V.l1.length ≤ c1 ∧ V.l2.length ≤ c2 ∧ V.l3.length ≤ c3 ∧ V.l4.length ≤ c4 ∧ V.l5.length ≤ c5 ∧ V.l6.length ≤ c6 ∧ V.l7.length ≤ c7) (cU : U.l0.length ≤ d0 ∧ U.l1.length ≤ d1 ∧ U.l2.length ≤ d2 ∧ U.l3.length ≤ d3 ∧ U.l4.length ≤ d4 ∧ U.l5.length ≤ d5 ∧ U.l6.length ≤ d6 ∧ U.l7.length ≤ d7) :
    Calls Try.prog 8 #[.agg #[.slice a0 V.l0.length c0, .slice a1 V.l1.length c1, .slice a2 V.l2.length c2, .slice a3 V.l3.length c3, .slice a4 V.l4.length c4, .slice a5 V.l5.length c5, .slice a6 V.l6.length c6, .slice a7 V.l7.length c7, .bool V.sp, .bool V.kl], .agg #[.slice b0 U.l0.length d0, .slice b1 U.l1.length d1, .slice b2 U.l2.length d2, .slice b3 U.l3.length d3, .slice b4 U.l4.length d4, .slice b5 U.l5.length d5, .slice b6 U.l6.length d6, .slice b7 U.l7.length d7, .bool U.sp, .bool U.kl]] w fun e w' => (∃ s' c', e = .returned (.slice s' (clB V U).length c') ∧ KRow w' w.heap.size (.slice s' (clB V U).length c') (clB V U)) ∧ Below w.heap.size w w' := by
  have HV := Hid.mk2 hV
  have HU := Hid.mk2 hU
  have KV := Hid.mk2 kV
  have KU := Hid.mk2 kU
  have CV := Hid.mk2 cV
  have CU := Hid.mk2 cU
  clear hV hU kV kU cV cU
  obtain ⟨k0, k1, k2, L0⟩ := blkThreeE w #[.slice a0 V.l0.length c0, .slice a1 V.l1.length c1, .slice a2 V.l2.length c2, .slice a3 V.l3.length c3, .slice a4 V.l4.length c4, .slice a5 V.l5.length c5, .slice a6 V.l6.length c6, .slice a7 V.l7.length c7, .bool V.sp, .bool V.kl] #[.slice b0 U.l0.length d0, .slice b1 U.l1.length d1, .slice b2 U.l2.length d2, .slice b3 U.l3.length d3, .slice b4 U.l4.length d4, .slice b5 U.l5.length d5, .slice b6 U.l6.length d6, .slice b7 U.l7.length d7, .bool U.sp, .bool U.kl] #[] 28 28 42
  obtain ⟨x0, x1, x2, x3, x4, x5, x6, x7, x8, x9, xf⟩ := k0.ten
  obtain ⟨y0, y1, y2, y3, y4, y5, y6, y7, y8, y9, yf⟩ := k1.ten
  go_enter Try.func8, Try.ntmps8
  go_wp2_with fail
  generalize ((w.alloc (.cells #[.slice a0 V.l0.length c0, .slice a1 V.l1.length c1, .slice a2 V.l2.length c2, .slice a3 V.l3.length c3, .slice a4 V.l4.length c4, .slice a5 V.l5.length c5, .slice a6 V.l6.length c6, .slice a7 V.l7.length c7, .bool V.sp, .bool V.kl] 28)).alloc (.cells #[.slice b0 U.l0.length d0, .slice b1 U.l1.length d1, .slice b2 U.l2.length d2, .slice b3 U.l3.length d3, .slice b4 U.l4.length d4, .slice b5 U.l5.length d5, .slice b6 U.l6.length d6, .slice b7 U.l7.length d7, .bool U.sp, .bool U.kl] 28)).alloc (.cells #[] 42) = X0 at k0 k1 k2 L0 x0 x1 x2 x3 x4 x5 x6 x7 x8 x9 xf y0 y1 y2 y3 y4 y5 y6 y7 y8 y9 yf ⊢
  have O0 : Hid (KRow X0 (w.heap.size + 1 + 1) (.slice (some ⟨w.heap.size + 1 + 1, 0, none⟩) 0 0) []) := KRow.empty k2
  have W0 : Hid (Below (w.heap.size + 1 + 1) X0 X0) := Below.refl _ _
  have Z0 : Hid (w.heap.size + 1 + 1 ≤ X0.heap.size) := Nat.le_of_lt k2.lt
  have K0 := Hid.mk2 k0
  have K1 := Hid.mk2 k1
  have LL0 := Hid.mk2 L0
  have LL00 := Hid.mk2 L0
  clear k0 k1 k2 L0
  refine (l16Hits_any a1 a0 b1 b0 c1 c0 d1 d0 V.l1 V.l0 U.l1 U.l0 _ _ _ _ X0 (HV.out.later LL0.out).p1 (HV.out.later LL0.out).p0 (HU.out.later LL0.out).p1 (HU.out.later LL0.out).p0 CV.out.2.1 CU.out.2.1 (Nat.le_trans KV.out.2.1 (by omega)) (Nat.le_trans KV.out.1 (by omega)) (Nat.le_trans KU.out.2.1 (by omega)) (Nat.le_trans KU.out.1 (by omega))).mono ?_
  rintro e Y1 ⟨⟨t1, e1, rfl, oh⟩, hbh⟩
  have lh : (hts V.l1 V.l0 U.l1 U.l0).length ≤ 16777216 := by have := hts_len V.l1 V.l0 U.l1 U.l0; have := KV.out.2.1; have := KU.out.2.1; omega
  have oh := Hid.mk2 oh
  have OY := Hid.mk2 (O0.out.later hbh)
  have WY : Hid (Below (w.heap.size + 1 + 1) X0 Y1) := W0.out.trans (hbh.mono Z0.out)
  have ZY : Hid (w.heap.size + 1 + 1 ≤ Y1.heap.size) := Nat.le_trans Z0.out hbh.size
  clear O0 W0 Z0 hbh LL0
  clear x0 x1 x2 x3 x4 x5 x6 x7 x8 x9 xf y0 y1 y2 y3 y4 y5 y6 y7 y8 y9 yf
  obtain ⟨H1, hH1⟩ : ∃ H, Hid (hts V.l1 V.l0 U.l1 U.l0 = H) := ⟨_, rfl⟩
  rw [hH1.out] at oh lh ⊢
  go_wp2_with fail
  refine (l16Both_any (some ⟨w.heap.size + 1 + 1, 0, none⟩) 0 [] 1 t1 e1 H1 (w.heap.size + 1 + 1) _ Y1 X0 OY.out WY.out ZY.out oh.out (by simp) (by omega)).mono ?_
  rintro e X1 ⟨⟨p1, q1, R1, rfl, kr, hr⟩, hbw, hzw⟩
  have hR1 := Hid.mk2 hr
  have O1 := Hid.mk2 kr
  have W1 := Hid.mk2 hbw
  have Z1 := Hid.mk2 hzw
  have l1 : R1.length ≤ 16777216 := by rw [hr, List.length_append, ofSort_len]; simp; omega
  have LL1 : Hid (Below w.heap.size w X1) := LL00.out.trans (hbw.mono (by omega))
  have kk0 := K0.out.under hbw (by omega)
  have kk1 := K1.out.under hbw (by omega)
  obtain ⟨x0, x1, x2, x3, x4, x5, x6, x7, x8, x9, xf⟩ := kk0.ten
  obtain ⟨y0, y1, y2, y3, y4, y5, y6, y7, y8, y9, yf⟩ := kk1.ten
  clear kr hbw hzw hr oh lh OY WY ZY kk0 kk1
  go_wp2_with fail
  refine (l16Hits_any a4 a3 b4 b3 c4 c3 d4 d3 V.l4 V.l3 U.l4 U.l3 _ _ _ _ X1 (HV.out.later LL1.out).p4 (HV.out.later LL1.out).p3 (HU.out.later LL1.out).p4 (HU.out.later LL1.out).p3 CV.out.2.2.2.2.1 CU.out.2.2.2.2.1 (Nat.le_trans KV.out.2.2.2.2.1 (by omega)) (Nat.le_trans KV.out.2.2.2.1 (by omega)) (Nat.le_trans KU.out.2.2.2.2.1 (by omega)) (Nat.le_trans KU.out.2.2.2.1 (by omega))).mono ?_
  rintro e Y2 ⟨⟨t2, e2, rfl, oh⟩, hbh⟩
  have lh : (hts V.l4 V.l3 U.l4 U.l3).length ≤ 16777216 := by have := hts_len V.l4 V.l3 U.l4 U.l3; have := KV.out.2.2.2.2.1; have := KU.out.2.2.2.2.1; omega
  have oh := Hid.mk2 oh
  have OY := Hid.mk2 (O1.out.later hbh)
  have WY : Hid (Below (w.heap.size + 1 + 1) X0 Y2) := W1.out.trans (hbh.mono Z1.out)
  have ZY : Hid (w.heap.size + 1 + 1 ≤ Y2.heap.size) := Nat.le_trans Z1.out hbh.size
  clear O1 W1 Z1 hbh LL1
  clear x0 x1 x2 x3 x4 x5 x6 x7 x8 x9 xf y0 y1 y2 y3 y4 y5 y6 y7 y8 y9 yf
  obtain ⟨H2, hH2⟩ : ∃ H, Hid (hts V.l4 V.l3 U.l4 U.l3 = H) := ⟨_, rfl⟩
  rw [hH2.out] at oh lh ⊢
  go_wp2_with fail
  refine (l16Both_any p1 q1 R1 2 t2 e2 H2 (w.heap.size + 1 + 1) _ Y2 X0 OY.out WY.out ZY.out oh.out (by omega) (by omega)).mono ?_
  rintro e X2 ⟨⟨p2, q2, R2, rfl, kr, hr⟩, hbw, hzw⟩
  have hR2 := Hid.mk2 hr
  have O2 := Hid.mk2 kr
  have W2 := Hid.mk2 hbw
  have Z2 := Hid.mk2 hzw
  have l2 : R2.length ≤ 33554432 := by rw [hr, List.length_append, ofSort_len]; omega
  have LL2 : Hid (Below w.heap.size w X2) := LL00.out.trans (hbw.mono (by omega))
  have kk0 := K0.out.under hbw (by omega)
  have kk1 := K1.out.under hbw (by omega)
  obtain ⟨x0, x1, x2, x3, x4, x5, x6, x7, x8, x9, xf⟩ := kk0.ten
  obtain ⟨y0, y1, y2, y3, y4, y5, y6, y7, y8, y9, yf⟩ := kk1.ten
  clear kr hbw hzw hr oh lh OY WY ZY kk0 kk1
  go_wp2_with fail
  refine (l16Hits_any a5 a6 b5 b6 c5 c6 d5 d6 V.l5 V.l6 U.l5 U.l6 _ _ _ _ X2 (HV.out.later LL2.out).p5 (HV.out.later LL2.out).p6 (HU.out.later LL2.out).p5 (HU.out.later LL2.out).p6 CV.out.2.2.2.2.2.1 CU.out.2.2.2.2.2.1 (Nat.le_trans KV.out.2.2.2.2.2.1 (by omega)) (Nat.le_trans KV.out.2.2.2.2.2.2.1 (by omega)) (Nat.le_trans KU.out.2.2.2.2.2.1 (by omega)) (Nat.le_trans KU.out.2.2.2.2.2.2.1 (by omega))).mono ?_
  rintro e Y3 ⟨⟨t3, e3, rfl, oh⟩, hbh⟩
  have lh : (hts V.l5 V.l6 U.l5 U.l6).length ≤ 16777216 := by have := hts_len V.l5 V.l6 U.l5 U.l6; have := KV.out.2.2.2.2.2.1; have := KU.out.2.2.2.2.2.1; omega
  have oh := Hid.mk2 oh
  have OY := Hid.mk2 (O2.out.later hbh)
  have WY : Hid (Below (w.heap.size + 1 + 1) X0 Y3) := W2.out.trans (hbh.mono Z2.out)
  have ZY : Hid (w.heap.size + 1 + 1 ≤ Y3.heap.size) := Nat.le_trans Z2.out hbh.size
  clear O2 W2 Z2 hbh LL2
  clear x0 x1 x2 x3 x4 x5 x6 x7 x8 x9 xf y0 y1 y2 y3 y4 y5 y6 y7 y8 y9 yf
  obtain ⟨H3, hH3⟩ : ∃ H, Hid (hts V.l5 V.l6 U.l5 U.l6 = H) := ⟨_, rfl⟩
  rw [hH3.out] at oh lh ⊢
  go_wp2_with fail
  refine (l16Both_any p2 q2 R2 3 t3 e3 H3 (w.heap.size + 1 + 1) _ Y3 X0 OY.out WY.out ZY.out oh.out (by omega) (by omega)).mono ?_
  rintro e X3 ⟨⟨p3, q3, R3, rfl, kr, hr⟩, hbw, hzw⟩
  have hR3 := Hid.mk2 hr
  have O3 := Hid.mk2 kr
  have W3 := Hid.mk2 hbw
  have Z3 := Hid.mk2 hzw
  have l3 : R3.length ≤ 50331648 := by rw [hr, List.length_append, ofSort_len]; omega
  have LL3 : Hid (Below w.heap.size w X3) := LL00.out.trans (hbw.mono (by omega))
  have hF : Hid (R3 = clB V U) := by show R3 = _; rw [hR3.out, hR2.out, hR1.out]; unfold clB; rw [hH1.out, hH2.out, hH3.out]; simp
  clear kr hbw hzw hr oh lh OY WY ZY
  go_wp2_with fail
  go_ret
  have e9 := hF.out
  subst e9
  exact ⟨⟨p3, q3, rfl, O3.out.mono (by omega)⟩, LL3.out⟩

set_option maxRecDepth 100000 in
set_option maxHeartbeats 4000000 in
theorem specApart_any (a0 a1 a2 a3 a4 a5 a6 a7 : Option Addr) (c0 c1 c2 c3 c4 c5 c6 c7 : Nat) (V : Ef) (b0 b1 b2 b3 b4 b5 b6 b7 : Option Addr) (d0 d1 d2 d3 d4 d5 d6 d7 : Nat) (U : Ef) (B C : Nat) (w : World) (hV : InE w B a0 a1 a2 a3 a4 a5 a6 a7 V) (hU : InE w C b0 b1 b2 b3 b4 b5 b6 b7 U) (kV : kEf V) (kU : kEf U) (cV : V.l0.length ≤ c0 ∧ V.l1.length ≤ c1 ∧ V.l2.length ≤ c2 ∧ V.l3.length ≤ c3 ∧ V.l4.length ≤ c4 ∧ V.l5.length ≤ c5 ∧ V.l6.length ≤ c6 ∧ V.l7.length ≤ c7) (cU : U.l0.length ≤ d0 ∧ U.l1.length ≤ d1 ∧ U.l2.length ≤ d2 ∧ U.l3.length ≤ d3 ∧ U.l4.length ≤ d4 ∧ U.l5.length ≤ d5 ∧ U.l6.length ≤ d6 ∧ U.l7.length ≤ d7) :
    Calls Try.prog 18 #[.agg #[.slice a0 V.l0.length c0, .slice a1 V.l1.length c1, .slice a2 V.l2.length c2, .slice a3 V.l3.length c3, .slice a4 V.l4.length c4, .slice a5 V.l5.length c5, .slice a6 V.l6.length c6, .slice a7 V.l7.length c7, .bool V.sp, .bool V.kl], .agg #[.slice b0 U.l0.length d0, .slice b1 U.l1.length d1, .slice b2 U.l2.length d2, .slice b3 U.l3.length d3, .slice b4 U.l4.length d4, .slice b5 U.l5.length d5, .slice b6 U.l6.length d6, .slice b7 U.l7.length d7, .bool U.sp, .bool U.kl]] w fun e w' => e = .returned (.bool (decide (clB V U = []))) ∧ Below w.heap.size w w' := by
  obtain ⟨k0, k1, L0⟩ := blkTwoE w #[.slice a0 V.l0.length c0, .slice a1 V.l1.length c1, .slice a2 V.l2.length c2, .slice a3 V.l3.length c3, .slice a4 V.l4.length c4, .slice a5 V.l5.length c5, .slice a6 V.l6.length c6, .slice a7 V.l7.length c7, .bool V.sp, .bool V.kl] #[.slice b0 U.l0.length d0, .slice b1 U.l1.length d1, .slice b2 U.l2.length d2, .slice b3 U.l3.length d3, .slice b4 U.l4.length d4, .slice b5 U.l5.length d5, .slice b6 U.l6.length d6, .slice b7 U.l7.length d7, .bool U.sp, .bool U.kl] 28 28
  obtain ⟨x0, x1, x2, x3, x4, x5, x6, x7, x8, x9, xf⟩ := k0.ten
  obtain ⟨y0, y1, y2, y3, y4, y5, y6, y7, y8, y9, yf⟩ := k1.ten
  go_enter Try.func18, Try.ntmps18
  go_wp2_with fail
  refine (specClashes_any a0 a1 a2 a3 a4 a5 a6 a7 c0 c1 c2 c3 c4 c5 c6 c7 V b0 b1 b2 b3 b4 b5 b6 b7 d0 d1 d2 d3 d4 d5 d6 d7 U B C _ (hV.later L0) (hU.later L0) kV kU cV cU).mono ?_
  rintro e w1 ⟨⟨s1, c1, rfl, h1⟩, hb1⟩
  have L1 := bl_trans L0 hb1
  have ld : (((clB V U).length : Int) == 0) = decide (clB V U = []) := by
    cases clB V U with
    | nil => rfl
    | cons p l => simp; omega
  clear h1 hb1 L0
  go_wp2_with fail
  go_ret
  exact ⟨rfl, L1⟩
end Go.Proofs.Ytgfchpbdoebmbaa
