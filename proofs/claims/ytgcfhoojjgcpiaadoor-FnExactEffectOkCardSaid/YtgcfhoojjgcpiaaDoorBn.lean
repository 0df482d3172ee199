import Derived.Test.YtgcfhoojjgcpiaaDoorBm
import Derived.Deep.RegionHeld3
namespace Go.Proofs.YtgcfhoojjgcpiaaDoor
open Go.RowKit Go.Maps Go.WideMaps
set_option linter.unusedVariables false
set_option linter.unusedSimpArgs false
set_option maxHeartbeats 2000000 in
theorem szReg_le (s1 s2 s3 : Option Addr) (c1 c2 c3 : Nat) (A B C : List (ByteArray × Int)) (w : World) (hA : Decls w s1 A) (hB : Decls w s2 B) (hC : Decls w s3 C) (nA : Nms A) (nB : Nms B) (nC : Nms C) (mA : A.length ≤ maxLen) (mB : B.length ≤ maxLen) (mC : C.length ≤ maxLen) :
    Calls Tryd.prog 4 #[.agg #[.slice s1 A.length c1, .slice s2 B.length c2, .slice s3 C.length c3], .int .i64 1048576] w fun e w' => (∃ r : Int, e = .returned (.int .i64 r) ∧ (r = -1 ∨ (0 ≤ r ∧ r ≤ 1048576 ∧ A.length ≤ 1048576 ∧ B.length ≤ 1048576 ∧ C.length ≤ 1048576))) ∧ Below w.heap.size w w' := by
  have hal := alloc_old
  have haf := alloc_oldf
  have k0 := Blk.new w #[.slice s1 A.length c1, .slice s2 B.length c2, .slice s3 C.length c3] 24
  go_enter Tryd.func4, Tryd.ntmps4
  go_wp2_with fail
  refine (szDeclS_any s1 c1 A 1048576 _ (hA.later (by (repeat (first | with_reducible exact Below.refl _ _ | with_reducible refine bl_alloc ?_ _ | with_reducible refine bl_drewN ?_ _ | with_reducible refine bl_drew ?_ | with_reducible refine bl_setCell ?_ (by first | exact Nat.le_refl _ | (dsimp only; omega) | (simp <;> omega)) _ | with_reducible refine bl_trans ?_ (by with_reducible assumption))))) nA mA (by omega) (by omega)).mono ?_
  rintro e w1 ⟨⟨r, rfl, hr⟩, hb1⟩
  have L1 : Below w.heap.size w w1 := by (repeat (first | with_reducible exact Below.refl _ _ | with_reducible refine bl_alloc ?_ _ | with_reducible refine bl_drewN ?_ _ | with_reducible refine bl_drew ?_ | with_reducible refine bl_setCell ?_ (by first | exact Nat.le_refl _ | (dsimp only; omega) | (simp <;> omega)) _ | with_reducible refine bl_trans ?_ (by with_reducible assumption)))
  have K1 := k0.later hb1
  clear k0 hb1
  obtain ⟨x0, x1, x2, x3⟩ := K1.three
  rcases hr with rfl | ⟨r0, r1, lA⟩
  · go_wp2_with fail
    go_ret
    exact ⟨⟨_, rfl, Or.inl rfl⟩, L1⟩
  · have t2 : decide (r < 0) = false := by simp; omega
    go_wp2_with fail
    refine (szDeclS_any s2 c2 B r _ (hB.later L1) nB mB r0 r1).mono ?_
    rintro e w2 ⟨⟨q, rfl, hq⟩, hb2⟩
    have L2 := bl_trans L1 hb2
    have K2 := K1.later hb2
    clear K1 hb2 x0 x1 x2 x3
    obtain ⟨x0, x1, x2, x3⟩ := K2.three
    rcases hq with rfl | ⟨q0, q1, lB⟩
    · go_wp2_with fail
      go_ret
      exact ⟨⟨_, rfl, Or.inl rfl⟩, L2⟩
    · have t3 : decide (q < 0) = false := by simp; omega
      go_wp2_with fail
      refine (szDeclS_any s3 c3 C q _ (hC.later L2) nC mC q0 (by omega)).mono ?_
      rintro e w3 ⟨⟨p, rfl, hp⟩, hb3⟩
      have L3 := bl_trans L2 hb3
      clear hb3 x0 x1 x2 x3
      rcases hp with rfl | ⟨p0, p1, lC⟩
      · go_wp2_with fail
        go_ret
        exact ⟨⟨_, rfl, Or.inl rfl⟩, L3⟩
      · have t4 : decide (p < 0) = false := by simp; omega
        go_wp2_with fail
        go_ret
        exact ⟨⟨_, rfl, Or.inr ⟨p0, by omega, lA, lB, lC⟩⟩, L3⟩
theorem g8_later {W w1 : World} (hb : Below W.heap.size W w1) (h : ∀ i : Nat, i < 8 → W.cell? ⟨0, i, none⟩ = some (.int .i64 (effSo.getD i 0))) : ∀ i : Nat, i < 8 → w1.cell? ⟨0, i, none⟩ = some (.int .i64 (effSo.getD i 0)) := fun i hi => cell_laterE hb (h i hi)
set_option maxRecDepth 100000 in
set_option maxHeartbeats 8000000 in
theorem exactEffectOk_any (z1 z2 z3 : Option Addr) (y1 y2 y3 : Nat) (A B C : List (ByteArray × Int)) (s0 s1 s2 s3 s4 s5 s6 s7 : Option Addr) (c0 c1 c2 c3 c4 c5 c6 c7 : Nat) (e : Ef) (w : World) (gA : Dc w z1 A) (gB : Dc w z2 B) (gC : Dc w z3 C) (hE : InE w 0 s0 s1 s2 s3 s4 s5 s6 s7 e) (mE : mEf e) (hG : ∀ i : Nat, i < 8 → w.cell? ⟨0, i, none⟩ = some (.int .i64 (effSo.getD i 0))) :
    Calls Tryd.prog 3 #[.agg #[.slice z1 A.length y1, .slice z2 B.length y2, .slice z3 C.length y3], .agg #[.slice s0 e.l0.length c0, .slice s1 e.l1.length c1, .slice s2 e.l2.length c2, .slice s3 e.l3.length c3, .slice s4 e.l4.length c4, .slice s5 e.l5.length c5, .slice s6 e.l6.length c6, .slice s7 e.l7.length c7, .bool e.sp, .bool e.kl]] w fun z w' => z = .returned (.bool true) ∧ Below w.heap.size w w' := by
  obtain ⟨hA, nA, mA⟩ := gA
  obtain ⟨hB, nB, mB⟩ := gB
  obtain ⟨hC, nC, mC⟩ := gC
  have NM := Hid.mk2 (nms3 nA nB nC)
  obtain ⟨k0, k1, L0⟩ := blkTwoE w #[.slice z1 A.length y1, .slice z2 B.length y2, .slice z3 C.length y3] #[.slice s0 e.l0.length c0, .slice s1 e.l1.length c1, .slice s2 e.l2.length c2, .slice s3 e.l3.length c3, .slice s4 e.l4.length c4, .slice s5 e.l5.length c5, .slice s6 e.l6.length c6, .slice s7 e.l7.length c7, .bool e.sp, .bool e.kl] 24 27
  obtain ⟨x0, x1, x2, x3⟩ := k0.three
  have HE := Hid.mk2 hE
  have HG := Hid.mk2 hG
  have HA := Hid.mk2 hA
  have HB := Hid.mk2 hB
  have HC := Hid.mk2 hC
  clear hE hG
  go_enter Tryd.func3, Tryd.ntmps3
  go_wp2_with fail
  refine (szReg_le z1 z2 z3 y1 y2 y3 A B C _ (hA.later L0) (hB.later L0) (hC.later L0) nA nB nC mA mB mC).mono ?_
  rintro z w1 ⟨⟨r, rfl, hr⟩, hb1⟩
  have L1 := bl_trans L0 hb1
  replace k0 := k0.later hb1
  replace k1 := k1.later hb1
  clear x0 x1 x2 x3 hb1 L0 hA hB hC nA nB nC mA mB mC
  rcases hr with rfl | ⟨r0, r1, lA, lB, lC⟩
  · go_wp2_with fail
    go_ret
    exact ⟨rfl, L1⟩
  have t1 : decide (r < 0) = false := by simp; omega
  obtain ⟨x0, x1, x2, x3, x4, x5, x6, x7, x8, x9, xf⟩ := k1.ten
  go_wp2_with fail
  refine (szEffect_gen s0 s1 s2 s3 s4 s5 s6 s7 c0 c1 c2 c3 c4 c5 c6 c7 e r _ mE r0 (by omega)).mono ?_
  rintro z w2 ⟨⟨r', rfl, hr⟩, hb2⟩
  have L2 := bl_trans L1 hb2
  replace k0 := k0.later hb2
  replace k1 := k1.later hb2
  clear x0 x1 x2 x3 x4 x5 x6 x7 x8 x9 xf hb2 L1 t1 mE
  rcases hr with rfl | ⟨r0', r1', ke⟩
  · go_wp2_with fail
    go_ret
    exact ⟨rfl, L2⟩
  have t1 : decide (r' < 0) = false := by simp; omega
  have KE := Hid.mk2 ke
  have KLE : Hid (e.l0.length ≤ 4398046511104 ∧ e.l1.length ≤ 4398046511104 ∧ e.l2.length ≤ 4398046511104 ∧ e.l3.length ≤ 4398046511104 ∧ e.l4.length ≤ 4398046511104 ∧ e.l5.length ≤ 4398046511104 ∧ e.l6.length ≤ 4398046511104 ∧ e.l7.length ≤ 4398046511104) := by obtain ⟨m0, m1, m2, m3, m4, m5, m6, m7⟩ := ke; show _ ∧ _; omega
  clear ke r0 r1 r0' r1'
  obtain ⟨v0, v1, v2, v3⟩ := k0.three
  obtain ⟨x0, x1, x2, x3, x4, x5, x6, x7, x8, x9, xf⟩ := k1.ten
  have K0 : Hid (Blk w2 w.heap.size #[.slice z1 A.length y1, .slice z2 B.length y2, .slice z3 C.length y3] 24) := k0
  have K1 : Hid (Blk w2 (w.heap.size + 1) #[.slice s0 e.l0.length c0, .slice s1 e.l1.length c1, .slice s2 e.l2.length c2, .slice s3 e.l3.length c3, .slice s4 e.l4.length c4, .slice s5 e.l5.length c5, .slice s6 e.l6.length c6, .slice s7 e.l7.length c7, .bool e.sp, .bool e.kl] 27) := k1
  clear k0 k1
  go_wp2_with fail
  go_region_held3 (fun w' => w'.cell? ⟨w.heap.size, 0, none⟩ = some (.slice z1 A.length y1) ∧ w'.cell? ⟨w.heap.size, 1, none⟩ = some (.slice z2 B.length y2) ∧ w'.cell? ⟨w.heap.size, 2, none⟩ = some (.slice z3 C.length y3) ∧ w'.cell? ⟨w.heap.size + 1, 0, none⟩ = some (.slice s0 e.l0.length c0) ∧ w'.cell? ⟨w.heap.size + 1, 1, none⟩ = some (.slice s1 e.l1.length c1) ∧ w'.cell? ⟨w.heap.size + 1, 2, none⟩ = some (.slice s2 e.l2.length c2) ∧ w'.cell? ⟨w.heap.size + 1, 3, none⟩ = some (.slice s3 e.l3.length c3) ∧ w'.cell? ⟨w.heap.size + 1, 4, none⟩ = some (.slice s4 e.l4.length c4) ∧ w'.cell? ⟨w.heap.size + 1, 5, none⟩ = some (.slice s5 e.l5.length c5) ∧ w'.cell? ⟨w.heap.size + 1, 6, none⟩ = some (.slice s6 e.l6.length c6) ∧ w'.cell? ⟨w.heap.size + 1, 7, none⟩ = some (.slice s7 e.l7.length c7) ∧ w'.cell? ⟨w.heap.size + 1, 8, none⟩ = some (.bool e.sp) ∧ w'.cell? ⟨w.heap.size + 1, 9, none⟩ = some (.bool e.kl)) (simp [v0, v1, v2, x0, x1, x2, x3, x4, x5, x6, x7, x8, x9])
    (first
      | (go_at_call 7; refine (toReg_any z1 z2 z3 y1 y2 y3 A B C _ (HA.out.later (bl_drew L2)) (HB.out.later (bl_drew L2)) (HC.out.later (bl_drew L2)) lA lB lC).mono ?_; rintro z wa ⟨⟨a2, b2, d2, rfl, dA2, dB2, dC2⟩, hba⟩; have hwa : Below w2.heap.size w2 wa := bl_trans (bl_drew (Below.refl _ _)) hba; obtain ⟨v0, v1, v2, v3⟩ := (K0.out.later hwa).three; obtain ⟨x0, x1, x2, x3, x4, x5, x6, x7, x8, x9, xf⟩ := (K1.out.later hwa).ten)
      | (go_at_call 8; refine (toEffect_made s0 s1 s2 s3 s4 s5 s6 s7 c0 c1 c2 c3 c4 c5 c6 c7 e 0 _ (HE.out.later (bl_trans L2 hwa)) KE.out).mono ?_; rintro z wb ⟨⟨h0, h1, h2, h3, h4, h5, h6, h7, rfl, hIb⟩, hbb⟩; have hwb : Below w2.heap.size w2 wb := bl_trans hwa hbb; obtain ⟨v0, v1, v2, v3⟩ := (K0.out.later hwb).three; obtain ⟨x0, x1, x2, x3, x4, x5, x6, x7, x8, x9, xf⟩ := (K1.out.later hwb).ten)
      | (go_at_call 6; refine (specEffectOk_any a2 0 A.length b2 0 B.length d2 0 C.length A B C _ _ _ _ _ _ _ _ _ _ _ _ _ _ _ _ e _ wb (dA2.later hbb) (dB2.later hbb) (dC2.later hbb) hIb KE.out).mono ?_; rintro z wc ⟨rfl, hbc⟩; have hwc : Below w2.heap.size w2 wc := bl_trans hwb hbc; obtain ⟨v0, v1, v2, v3⟩ := (K0.out.later hwc).three; obtain ⟨x0, x1, x2, x3, x4, x5, x6, x7, x8, x9, xf⟩ := (K1.out.later hwc).ten))
  have L3 : Hid (Below w.heap.size w wc) := bl_trans L2 hwc
  replace K0 := K0.out.later hwc
  replace K1 := K1.out.later hwc
  clear hIb hba hbb hbc hwa hwb hwc L2 dA2 dB2 dC2
  go_wp2_with fail
  refine (toReg_any z1 z2 z3 y1 y2 y3 A B C _ (HA.out.later L3.out) (HB.out.later L3.out) (HC.out.later L3.out) lA lB lC).mono ?_
  rintro z wd ⟨⟨a4, b4, d4, rfl, dA4, dB4, dC4⟩, hbd⟩
  have KX := Blk.new wd #[.slice (some ⟨a4, 0, none⟩) A.length A.length, .slice (some ⟨b4, 0, none⟩) B.length B.length, .slice (some ⟨d4, 0, none⟩) C.length C.length] 33
  have LY : Below wd.heap.size wd (wd.alloc (.cells #[.slice (some ⟨a4, 0, none⟩) A.length A.length, .slice (some ⟨b4, 0, none⟩) B.length B.length, .slice (some ⟨d4, 0, none⟩) C.length C.length] 33)) := bl_alloc (Below.refl _ _) _
  replace K0 := (K0.later hbd).later LY
  replace K1 := (K1.later hbd).later LY
  replace dA4 := dA4.later LY
  replace dB4 := dB4.later LY
  replace dC4 := dC4.later LY
  have LD := bl_trans (bl_trans L3.out hbd) LY
  clear x0 x1 x2 x3 x4 x5 x6 x7 x8 x9 xf v0 v1 v2 v3 L3 hbd LY
  obtain ⟨x0, x1, x2, x3, x4, x5, x6, x7, x8, x9, xf⟩ := K1.ten
  go_wp2_with fail
  clear x0 x1 x2 x3 x4 x5 x6 x7 x8 x9 xf
  generalize hX : wd.alloc (.cells #[.slice (some ⟨a4, 0, none⟩) A.length A.length, .slice (some ⟨b4, 0, none⟩) B.length B.length, .slice (some ⟨d4, 0, none⟩) C.length C.length] 33) = Y at KX K0 K1 LD dA4 dB4 dC4 ⊢
  clear hX
  refine (toEffect_made s0 s1 s2 s3 s4 s5 s6 s7 c0 c1 c2 c3 c4 c5 c6 c7 e 0 _ (HE.out.later LD) KE.out).mono ?_
  rintro z we ⟨⟨h0, h1, h2, h3, h4, h5, h6, h7, rfl, hy⟩, hbe⟩
  have KY := Blk.new we #[.slice (some ⟨h0, 0, none⟩) e.l0.length e.l0.length, .slice (some ⟨h1, 0, none⟩) e.l1.length e.l1.length, .slice (some ⟨h2, 0, none⟩) e.l2.length e.l2.length, .slice (some ⟨h3, 0, none⟩) e.l3.length e.l3.length, .slice (some ⟨h4, 0, none⟩) e.l4.length e.l4.length, .slice (some ⟨h5, 0, none⟩) e.l5.length e.l5.length, .slice (some ⟨h6, 0, none⟩) e.l6.length e.l6.length, .slice (some ⟨h7, 0, none⟩) e.l7.length e.l7.length, .bool e.sp, .bool e.kl] 35
  have LZ : Below we.heap.size we (we.alloc (.cells #[.slice (some ⟨h0, 0, none⟩) e.l0.length e.l0.length, .slice (some ⟨h1, 0, none⟩) e.l1.length e.l1.length, .slice (some ⟨h2, 0, none⟩) e.l2.length e.l2.length, .slice (some ⟨h3, 0, none⟩) e.l3.length e.l3.length, .slice (some ⟨h4, 0, none⟩) e.l4.length e.l4.length, .slice (some ⟨h5, 0, none⟩) e.l5.length e.l5.length, .slice (some ⟨h6, 0, none⟩) e.l6.length e.l6.length, .slice (some ⟨h7, 0, none⟩) e.l7.length e.l7.length, .bool e.sp, .bool e.kl] 35)) := bl_alloc (Below.refl _ _) _
  replace KX := (KX.later hbe).later LZ
  replace K0 := (K0.later hbe).later LZ
  replace K1 := (K1.later hbe).later LZ
  replace dA4 := (dA4.later hbe).later LZ
  replace dB4 := (dB4.later hbe).later LZ
  replace dC4 := (dC4.later hbe).later LZ
  replace hy := hy.later LZ
  have LE := bl_trans (bl_trans LD hbe) LZ
  clear LD hbe LZ
  obtain ⟨v0, v1, v2, v3⟩ := KX.three
  obtain ⟨x0, x1, x2, x3, x4, x5, x6, x7, x8, x9, xf⟩ := KY.ten
  go_wp2_with fail
  generalize hZ : we.alloc (.cells #[.slice (some ⟨h0, 0, none⟩) e.l0.length e.l0.length, .slice (some ⟨h1, 0, none⟩) e.l1.length e.l1.length, .slice (some ⟨h2, 0, none⟩) e.l2.length e.l2.length, .slice (some ⟨h3, 0, none⟩) e.l3.length e.l3.length, .slice (some ⟨h4, 0, none⟩) e.l4.length e.l4.length, .slice (some ⟨h5, 0, none⟩) e.l5.length e.l5.length, .slice (some ⟨h6, 0, none⟩) e.l6.length e.l6.length, .slice (some ⟨h7, 0, none⟩) e.l7.length e.l7.length, .bool e.sp, .bool e.kl] 35) = Z at KX KY K0 K1 LE dA4 dB4 dC4 hy v0 v1 v2 v3 x0 x1 x2 x3 x4 x5 x6 x7 x8 x9 xf ⊢
  clear hZ
  refine (implEffectOk_any _ _ _ _ _ _ A B C _ _ _ _ _ _ _ _ _ _ _ _ _ _ _ _ e _ Z dA4 dB4 dC4 NM.out lA lB lC hy KE.out (g8_later LE HG.out)).mono ?_
  rintro z wf ⟨rfl, hbf⟩
  have LF : Hid (Below w.heap.size w wf) := bl_trans LE hbf
  replace KX := KX.later hbf
  have KY : Hid (Blk wf we.heap.size #[.slice (some ⟨h0, 0, none⟩) e.l0.length e.l0.length, .slice (some ⟨h1, 0, none⟩) e.l1.length e.l1.length, .slice (some ⟨h2, 0, none⟩) e.l2.length e.l2.length, .slice (some ⟨h3, 0, none⟩) e.l3.length e.l3.length, .slice (some ⟨h4, 0, none⟩) e.l4.length e.l4.length, .slice (some ⟨h5, 0, none⟩) e.l5.length e.l5.length, .slice (some ⟨h6, 0, none⟩) e.l6.length e.l6.length, .slice (some ⟨h7, 0, none⟩) e.l7.length e.l7.length, .bool e.sp, .bool e.kl] 35) := KY.later hbf
  replace K0 := K0.later hbf
  have K1 : Hid (Blk wf (w.heap.size + 1) #[.slice s0 e.l0.length c0, .slice s1 e.l1.length c1, .slice s2 e.l2.length c2, .slice s3 e.l3.length c3, .slice s4 e.l4.length c4, .slice s5 e.l5.length c5, .slice s6 e.l6.length c6, .slice s7 e.l7.length c7, .bool e.sp, .bool e.kl] 27) := K1.later hbf
  have DA := Hid.mk2 (dA4.later hbf)
  have DB := Hid.mk2 (dB4.later hbf)
  have DC := Hid.mk2 (dC4.later hbf)
  have HY : Hid (InE wf _ (some ⟨h0, 0, none⟩) (some ⟨h1, 0, none⟩) (some ⟨h2, 0, none⟩) (some ⟨h3, 0, none⟩) (some ⟨h4, 0, none⟩) (some ⟨h5, 0, none⟩) (some ⟨h6, 0, none⟩) (some ⟨h7, 0, none⟩) e) := hy.later hbf
  clear LE hbf x0 x1 x2 x3 x4 x5 x6 x7 x8 x9 xf v0 v1 v2 v3 hy dA4 dB4 dC4
  obtain ⟨v0, v1, v2, v3⟩ := KX.three
  obtain ⟨u0, u1, u2, u3⟩ := K0.three
  have KXH : Hid (Blk wf wd.heap.size #[.slice (some ⟨a4, 0, none⟩) A.length A.length, .slice (some ⟨b4, 0, none⟩) B.length B.length, .slice (some ⟨d4, 0, none⟩) C.length C.length] 33) := KX
  have K0H : Hid (Blk wf w.heap.size #[.slice z1 A.length y1, .slice z2 B.length y2, .slice z3 C.length y3] 24) := K0
  have uq : (efB A B C e != efB A B C e) = false := by simp
  clear KX K0
  go_wp2_with fail
  go_region_held3 (fun w' => w'.cell? ⟨wd.heap.size, 0, none⟩ = some (.slice (some ⟨a4, 0, none⟩) A.length A.length) ∧ w'.cell? ⟨wd.heap.size, 1, none⟩ = some (.slice (some ⟨b4, 0, none⟩) B.length B.length) ∧ w'.cell? ⟨wd.heap.size, 2, none⟩ = some (.slice (some ⟨d4, 0, none⟩) C.length C.length) ∧ w'.cell? ⟨w.heap.size, 0, none⟩ = some (.slice z1 A.length y1) ∧ w'.cell? ⟨w.heap.size, 1, none⟩ = some (.slice z2 B.length y2) ∧ w'.cell? ⟨w.heap.size, 2, none⟩ = some (.slice z3 C.length y3)) (simp [v0, v1, v2, u0, u1, u2])
    (first
      | (go_at_call 7; refine (toReg_any z1 z2 z3 y1 y2 y3 A B C _ (HA.out.later (bl_drew LF.out)) (HB.out.later (bl_drew LF.out)) (HC.out.later (bl_drew LF.out)) lA lB lC).mono ?_; rintro z wg ⟨⟨a6, b6, d6, rfl, dA6, dB6, dC6⟩, hbg⟩; have hwg : Below wf.heap.size wf wg := bl_trans (bl_drew (Below.refl _ _)) hbg; obtain ⟨v0, v1, v2, v3⟩ := (KXH.out.later hwg).three; obtain ⟨u0, u1, u2, u3⟩ := (K0H.out.later hwg).three)
      | (go_at_call 10; refine (eqReg_same _ _ _ _ _ _ _ _ _ _ _ _ A B C _ (DA.out.later hwg) (DB.out.later hwg) (DC.out.later hwg) dA6 dB6 dC6 lA lB lC).mono ?_; rintro z wh ⟨rfl, hbh⟩; have hwh : Below wf.heap.size wf wh := bl_trans hwg hbh; obtain ⟨v0, v1, v2, v3⟩ := (KXH.out.later hwh).three; obtain ⟨u0, u1, u2, u3⟩ := (K0H.out.later hwh).three))
  have LH : Hid (Below w.heap.size w wh) := bl_trans LF.out hwh
  have KY2 : Hid (Blk wh we.heap.size #[.slice (some ⟨h0, 0, none⟩) e.l0.length e.l0.length, .slice (some ⟨h1, 0, none⟩) e.l1.length e.l1.length, .slice (some ⟨h2, 0, none⟩) e.l2.length e.l2.length, .slice (some ⟨h3, 0, none⟩) e.l3.length e.l3.length, .slice (some ⟨h4, 0, none⟩) e.l4.length e.l4.length, .slice (some ⟨h5, 0, none⟩) e.l5.length e.l5.length, .slice (some ⟨h6, 0, none⟩) e.l6.length e.l6.length, .slice (some ⟨h7, 0, none⟩) e.l7.length e.l7.length, .bool e.sp, .bool e.kl] 35) := KY.out.later hwh
  have K12 : Hid (Blk wh (w.heap.size + 1) #[.slice s0 e.l0.length c0, .slice s1 e.l1.length c1, .slice s2 e.l2.length c2, .slice s3 e.l3.length c3, .slice s4 e.l4.length c4, .slice s5 e.l5.length c5, .slice s6 e.l6.length c6, .slice s7 e.l7.length c7, .bool e.sp, .bool e.kl] 27) := K1.out.later hwh
  have HY2 : Hid (InE wh _ (some ⟨h0, 0, none⟩) (some ⟨h1, 0, none⟩) (some ⟨h2, 0, none⟩) (some ⟨h3, 0, none⟩) (some ⟨h4, 0, none⟩) (some ⟨h5, 0, none⟩) (some ⟨h6, 0, none⟩) (some ⟨h7, 0, none⟩) e) := HY.out.later hwh
  clear LF hwg hbg hwh hbh dA6 dB6 dC6 KXH K0H v0 v1 v2 v3 u0 u1 u2 u3 HY KY K1 DA DB DC
  obtain ⟨x0, x1, x2, x3, x4, x5, x6, x7, x8, x9, xf⟩ := KY2.out.ten
  obtain ⟨j0, j1, j2, j3, j4, j5, j6, j7, j8, j9, jf⟩ := K12.out.ten
  go_wp2_with fail
  go_region_held3 (fun w' => w'.cell? ⟨we.heap.size, 0, none⟩ = some (.slice (some ⟨h0, 0, none⟩) e.l0.length e.l0.length) ∧ w'.cell? ⟨we.heap.size, 1, none⟩ = some (.slice (some ⟨h1, 0, none⟩) e.l1.length e.l1.length) ∧ w'.cell? ⟨we.heap.size, 2, none⟩ = some (.slice (some ⟨h2, 0, none⟩) e.l2.length e.l2.length) ∧ w'.cell? ⟨we.heap.size, 3, none⟩ = some (.slice (some ⟨h3, 0, none⟩) e.l3.length e.l3.length) ∧ w'.cell? ⟨we.heap.size, 4, none⟩ = some (.slice (some ⟨h4, 0, none⟩) e.l4.length e.l4.length) ∧ w'.cell? ⟨we.heap.size, 5, none⟩ = some (.slice (some ⟨h5, 0, none⟩) e.l5.length e.l5.length) ∧ w'.cell? ⟨we.heap.size, 6, none⟩ = some (.slice (some ⟨h6, 0, none⟩) e.l6.length e.l6.length) ∧ w'.cell? ⟨we.heap.size, 7, none⟩ = some (.slice (some ⟨h7, 0, none⟩) e.l7.length e.l7.length) ∧ w'.cell? ⟨we.heap.size, 8, none⟩ = some (.bool e.sp) ∧ w'.cell? ⟨we.heap.size, 9, none⟩ = some (.bool e.kl) ∧ w'.cell? ⟨w.heap.size + 1, 0, none⟩ = some (.slice s0 e.l0.length c0) ∧ w'.cell? ⟨w.heap.size + 1, 1, none⟩ = some (.slice s1 e.l1.length c1) ∧ w'.cell? ⟨w.heap.size + 1, 2, none⟩ = some (.slice s2 e.l2.length c2) ∧ w'.cell? ⟨w.heap.size + 1, 3, none⟩ = some (.slice s3 e.l3.length c3) ∧ w'.cell? ⟨w.heap.size + 1, 4, none⟩ = some (.slice s4 e.l4.length c4) ∧ w'.cell? ⟨w.heap.size + 1, 5, none⟩ = some (.slice s5 e.l5.length c5) ∧ w'.cell? ⟨w.heap.size + 1, 6, none⟩ = some (.slice s6 e.l6.length c6) ∧ w'.cell? ⟨w.heap.size + 1, 7, none⟩ = some (.slice s7 e.l7.length c7) ∧ w'.cell? ⟨w.heap.size + 1, 8, none⟩ = some (.bool e.sp) ∧ w'.cell? ⟨w.heap.size + 1, 9, none⟩ = some (.bool e.kl)) (simp [x0, x1, x2, x3, x4, x5, x6, x7, x8, x9, j0, j1, j2, j3, j4, j5, j6, j7, j8, j9])
    (first
      | (go_at_call 8; refine (toEffect_made s0 s1 s2 s3 s4 s5 s6 s7 c0 c1 c2 c3 c4 c5 c6 c7 e 0 _ (HE.out.later (bl_drew LH.out)) KE.out).mono ?_; rintro z wg ⟨⟨q0, q1, q2, q3, q4, q5, q6, q7, rfl, hIg⟩, hbg⟩; have hwg : Below wh.heap.size wh wg := bl_trans (bl_drew (Below.refl _ _)) hbg; obtain ⟨x0, x1, x2, x3, x4, x5, x6, x7, x8, x9, xf⟩ := (KY2.out.later hwg).ten; obtain ⟨j0, j1, j2, j3, j4, j5, j6, j7, j8, j9, jf⟩ := (K12.out.later hwg).ten)
      | (go_at_call 11; refine (eqEffect_self _ _ _ _ _ _ _ _ _ _ _ _ _ _ _ _ _ _ _ _ _ _ _ _ _ _ _ _ _ _ _ _ e _ _ wg (HY2.out.later hwg) hIg KLE.out).mono ?_; rintro z wi ⟨rfl, hbi⟩; have hwi : Below wh.heap.size wh wi := bl_trans hwg hbi; obtain ⟨x0, x1, x2, x3, x4, x5, x6, x7, x8, x9, xf⟩ := (KY2.out.later hwi).ten; obtain ⟨j0, j1, j2, j3, j4, j5, j6, j7, j8, j9, jf⟩ := (K12.out.later hwi).ten))
  have LI := bl_trans LH.out hwi
  clear x0 x1 x2 x3 x4 x5 x6 x7 x8 x9 xf j0 j1 j2 j3 j4 j5 j6 j7 j8 j9 jf
  go_wp2_with fail
  go_ret
  exact ⟨rfl, LI⟩
end Go.Proofs.YtgcfhoojjgcpiaaDoor
