import Derived.Test.YtaakjcjhmeeclaaK10
namespace Go.Proofs.Ytaakjcjhmeeclaa
open Go.RowKit
set_option linter.unusedVariables false
set_option linter.unusedSimpArgs false
set_option maxRecDepth 100000

set_option maxHeartbeats 16000000 in
theorem exactPlanSame_any (a1 a2 a3 a4 : Option Addr) (c1 c2 c3 c4 : Nat) (P : Pln) (b1 b2 b3 b4 : Option Addr) (d1 d2 d3 d4 : Nat) (Q : Pln) (w : World) (hP : InP w 0 a1 a2 a3 a4 P) (mV : mP P) (hQ : InP w 0 b1 b2 b3 b4 Q) (mQ : mP Q) :
    Calls Try.prog 3 #[.agg #[.slice a1 P.st.length c1, .slice a2 P.od.length c2, .slice a3 P.ed.length c3, .slice a4 P.ef.length c4], .agg #[.slice b1 Q.st.length d1, .slice b2 Q.od.length d2, .slice b3 Q.ed.length d3, .slice b4 Q.ef.length d4]] w fun e w' => e = .returned (.bool true) ∧ Below w.heap.size w w' := by
  have hal := alloc_old
  have haf := alloc_oldf
  obtain ⟨K0, K1, L0⟩ := blkTwoE w #[.slice a1 P.st.length c1, .slice a2 P.od.length c2, .slice a3 P.ed.length c3, .slice a4 P.ef.length c4] #[.slice b1 Q.st.length d1, .slice b2 Q.od.length d2, .slice b3 Q.ed.length d3, .slice b4 Q.ef.length d4] 26 26
  obtain ⟨x0, x1, x2, x3, x4⟩ := K0.four'
  obtain ⟨y0, y1, y2, y3, y4⟩ := K1.four'
  have HP : Hid (InP w 0 a1 a2 a3 a4 P) := hP
  have HQ : Hid (InP w 0 b1 b2 b3 b4 Q) := hQ
  clear hP hQ
  go_enter Try.func3, Try.ntmps3
  go_wp2_with fail
  generalize hX : (w.alloc (.cells #[.slice a1 P.st.length c1, .slice a2 P.od.length c2, .slice a3 P.ed.length c3, .slice a4 P.ef.length c4] 26)).alloc (.cells #[.slice b1 Q.st.length d1, .slice b2 Q.od.length d2, .slice b3 Q.ed.length d3, .slice b4 Q.ef.length d4] 26) = X at K0 K1 L0 x0 x1 x2 x3 x4 y0 y1 y2 y3 y4 ⊢
  clear hX
  refine (szPlan_gen a1 a2 a3 a4 c1 c2 c3 c4 P 0 1048576 _ (HP.out.later L0) mV (by omega) (by omega)).mono ?_
  rintro e w1 ⟨⟨r, rfl, hr⟩, hb1⟩
  have L1 := bl_trans L0 hb1
  replace K0 := K0.later hb1
  replace K1 := K1.later hb1
  clear x0 x1 x2 x3 x4 y0 y1 y2 y3 y4 hb1 L0
  rcases hr with rfl | ⟨r0, r1, kv⟩
  · go_wp2_with fail
    go_ret
    exact ⟨rfl, L1⟩
  have t1 : decide (r < 0) = false := by simp; omega
  have KP : Hid (kP P) := kv
  clear kv mV
  obtain ⟨y0, y1, y2, y3, y4⟩ := K1.four'
  go_wp2_with fail
  refine (szPlan_gen b1 b2 b3 b4 d1 d2 d3 d4 Q 0 r _ (HQ.out.later L1) mQ r0 (by omega)).mono ?_
  rintro e w2 ⟨⟨q, rfl, hr⟩, hb2⟩
  have L2 := bl_trans L1 hb2
  replace K0 := K0.later hb2
  replace K1 := K1.later hb2
  clear y0 y1 y2 y3 y4 hb2 L1 t1
  rcases hr with rfl | ⟨q0, q1, kv⟩
  · go_wp2_with fail
    go_ret
    exact ⟨rfl, L2⟩
  have t1 : decide (q < 0) = false := by simp; omega
  have KQ : Hid (kP Q) := kv
  clear kv mQ r0 r1
  have J0 : Hid (Blk w2 w.heap.size #[.slice a1 P.st.length c1, .slice a2 P.od.length c2, .slice a3 P.ed.length c3, .slice a4 P.ef.length c4] 26) := K0
  have J1 : Hid (Blk w2 (w.heap.size + 1) #[.slice b1 Q.st.length d1, .slice b2 Q.od.length d2, .slice b3 Q.ed.length d3, .slice b4 Q.ef.length d4] 26) := K1
  obtain ⟨x0, x1, x2, x3, x4⟩ := K0.four'
  obtain ⟨y0, y1, y2, y3, y4⟩ := K1.four'
  clear K0 K1
  go_wp2_with fail
  clear t1 q0 q1
  go_region_held3 (fun w' => w'.cell? ⟨w.heap.size, 0, none⟩ = some (.slice a1 P.st.length c1) ∧ w'.cell? ⟨w.heap.size, 1, none⟩ = some (.slice a2 P.od.length c2) ∧ w'.cell? ⟨w.heap.size, 2, none⟩ = some (.slice a3 P.ed.length c3) ∧ w'.cell? ⟨w.heap.size, 3, none⟩ = some (.slice a4 P.ef.length c4) ∧ w'.cell? ⟨w.heap.size + 1, 0, none⟩ = some (.slice b1 Q.st.length d1) ∧ w'.cell? ⟨w.heap.size + 1, 1, none⟩ = some (.slice b2 Q.od.length d2) ∧ w'.cell? ⟨w.heap.size + 1, 2, none⟩ = some (.slice b3 Q.ed.length d3) ∧ w'.cell? ⟨w.heap.size + 1, 3, none⟩ = some (.slice b4 Q.ef.length d4)) (simp [x0, x1, x2, x3, y0, y1, y2, y3])
    (first
      | (go_at_call 6; refine (specPlanSame_any _ _ _ _ _ _ _ _ _ _ _ _ _ _ _ _ P Q _ _ wh IA IB KP.out KQ.out).mono ?_; rintro e wi ⟨rfl, hbi⟩; have hwi : Below w2.heap.size w2 wi := bl_trans hwh hbi; obtain ⟨x0, x1, x2, x3, x4⟩ := (J0.out.later hwi).four'; obtain ⟨y0, y1, y2, y3, y4⟩ := (J1.out.later hwi).four')
      | (go_at_call 7; refine (toPlan_made b1 b2 b3 b4 d1 d2 d3 d4 Q 0 wg (HQ.out.later (bl_trans L2 hwg)) KQ.out).mono ?_; rintro e wh ⟨⟨k1, k2, k3, k4, rfl, IB⟩, hbh⟩; have IA := hIA.later hbh; have hwh : Below w2.heap.size w2 wh := bl_trans hwg hbh; obtain ⟨x0, x1, x2, x3, x4⟩ := (J0.out.later hwh).four'; obtain ⟨y0, y1, y2, y3, y4⟩ := (J1.out.later hwh).four')
      | (go_at_call 7; refine (toPlan_made a1 a2 a3 a4 c1 c2 c3 c4 P 0 wg (HP.out.later (bl_trans L2 hwg)) KP.out).mono ?_; rintro e wh ⟨⟨g1, g2, g3, g4, rfl, IA⟩, hbh⟩; have IB := hIB.later hbh; have hwh : Below w2.heap.size w2 wh := bl_trans hwg hbh; obtain ⟨x0, x1, x2, x3, x4⟩ := (J0.out.later hwh).four'; obtain ⟨y0, y1, y2, y3, y4⟩ := (J1.out.later hwh).four')
      | (go_at_call 7; refine (toPlan_made a1 a2 a3 a4 c1 c2 c3 c4 P 0 _ (HP.out.later (bl_drew L2)) KP.out).mono ?_; rintro e wg ⟨⟨g1, g2, g3, g4, rfl, hIA⟩, hbg⟩; have hwg : Below w2.heap.size w2 wg := bl_trans (bl_drew (Below.refl _ _)) hbg; obtain ⟨x0, x1, x2, x3, x4⟩ := (J0.out.later hwg).four'; obtain ⟨y0, y1, y2, y3, y4⟩ := (J1.out.later hwg).four')
      | (go_at_call 7; refine (toPlan_made b1 b2 b3 b4 d1 d2 d3 d4 Q 0 _ (HQ.out.later (bl_drew L2)) KQ.out).mono ?_; rintro e wg ⟨⟨k1, k2, k3, k4, rfl, hIB⟩, hbg⟩; have hwg : Below w2.heap.size w2 wg := bl_trans (bl_drew (Below.refl _ _)) hbg; obtain ⟨x0, x1, x2, x3, x4⟩ := (J0.out.later hwg).four'; obtain ⟨y0, y1, y2, y3, y4⟩ := (J1.out.later hwg).four'))
  all_goals
    have L3 := bl_trans L2 hwi
    have K0 := J0.out.later hwi
    have K1 := J1.out.later hwi
    clear x0 x1 x2 x3 x4 y0 y1 y2 y3 y4 hwi hwh hwg hbi hbh hbg IA IB J0 J1 L2
    generalize hps : pS P Q = ps
    have HPS : Hid (pS P Q = ps) := hps
    clear hps
    obtain ⟨x0, x1, x2, x3, x4⟩ := K0.four'
    go_wp2_with fail
    refine (toPlan_made a1 a2 a3 a4 c1 c2 c3 c4 P 0 _ (HP.out.later L3) KP.out).mono ?_
    rintro e wd ⟨⟨h1, h2, h3, h4, rfl, hx⟩, hbd⟩
    have KX := Blk.new wd #[.slice (some ⟨h1, 0, none⟩) P.st.length P.st.length, .slice (some ⟨h2, 0, none⟩) P.od.length P.od.length, .slice (some ⟨h3, 0, none⟩) P.ed.length P.ed.length, .slice (some ⟨h4, 0, none⟩) P.ef.length P.ef.length] 32
    have LY : Below wd.heap.size wd (wd.alloc (.cells #[.slice (some ⟨h1, 0, none⟩) P.st.length P.st.length, .slice (some ⟨h2, 0, none⟩) P.od.length P.od.length, .slice (some ⟨h3, 0, none⟩) P.ed.length P.ed.length, .slice (some ⟨h4, 0, none⟩) P.ef.length P.ef.length] 32)) := bl_alloc (Below.refl _ _) _
    replace K0 := (K0.later hbd).later LY
    replace K1 := (K1.later hbd).later LY
    have HX := hx.later LY
    have LD := bl_trans (bl_trans L3 hbd) LY
    clear x0 x1 x2 x3 x4 hbd L3 LY hx
    obtain ⟨y0, y1, y2, y3, y4⟩ := K1.four'
    go_wp2_with fail
    generalize hX : wd.alloc (.cells #[.slice (some ⟨h1, 0, none⟩) P.st.length P.st.length, .slice (some ⟨h2, 0, none⟩) P.od.length P.od.length, .slice (some ⟨h3, 0, none⟩) P.ed.length P.ed.length, .slice (some ⟨h4, 0, none⟩) P.ef.length P.ef.length] 32) = Y at KX K0 K1 LD HX y0 y1 y2 y3 y4 ⊢
    clear hX
    refine (toPlan_made b1 b2 b3 b4 d1 d2 d3 d4 Q 0 _ (HQ.out.later LD) KQ.out).mono ?_
    rintro e we ⟨⟨l1, l2, l3, l4, rfl, hy⟩, hbe⟩
    have KY := Blk.new we #[.slice (some ⟨l1, 0, none⟩) Q.st.length Q.st.length, .slice (some ⟨l2, 0, none⟩) Q.od.length Q.od.length, .slice (some ⟨l3, 0, none⟩) Q.ed.length Q.ed.length, .slice (some ⟨l4, 0, none⟩) Q.ef.length Q.ef.length] 32
    have LY : Below we.heap.size we (we.alloc (.cells #[.slice (some ⟨l1, 0, none⟩) Q.st.length Q.st.length, .slice (some ⟨l2, 0, none⟩) Q.od.length Q.od.length, .slice (some ⟨l3, 0, none⟩) Q.ed.length Q.ed.length, .slice (some ⟨l4, 0, none⟩) Q.ef.length Q.ef.length] 32)) := bl_alloc (Below.refl _ _) _
    replace K0 := (K0.later hbe).later LY
    replace K1 := (K1.later hbe).later LY
    replace KX := (KX.later hbe).later LY
    replace HX := (HX.later hbe).later LY
    have HY := hy.later LY
    have LE := bl_trans (bl_trans LD hbe) LY
    clear y0 y1 y2 y3 y4 hbe LD LY hy
    obtain ⟨x0, x1, x2, x3, x4⟩ := KX.four'
    obtain ⟨y0, y1, y2, y3, y4⟩ := KY.four'
    go_wp2_with fail
    generalize hX : we.alloc (.cells #[.slice (some ⟨l1, 0, none⟩) Q.st.length Q.st.length, .slice (some ⟨l2, 0, none⟩) Q.od.length Q.od.length, .slice (some ⟨l3, 0, none⟩) Q.ed.length Q.ed.length, .slice (some ⟨l4, 0, none⟩) Q.ef.length Q.ef.length] 32) = Z at KX KY K0 K1 LE HX HY x0 x1 x2 x3 x4 y0 y1 y2 y3 y4 ⊢
    clear hX
    refine (implPlanSame_any _ _ _ _ _ _ _ _ _ _ _ _ _ _ _ _ P Q _ _ _ HX HY KP.out KQ.out).mono ?_
    rintro e wf ⟨rfl, hbf⟩
    rw [HPS.out]
    have LF := bl_trans LE hbf
    have JX : Hid (Blk wf wd.heap.size #[.slice (some ⟨h1, 0, none⟩) P.st.length P.st.length, .slice (some ⟨h2, 0, none⟩) P.od.length P.od.length, .slice (some ⟨h3, 0, none⟩) P.ed.length P.ed.length, .slice (some ⟨h4, 0, none⟩) P.ef.length P.ef.length] 32) := KX.later hbf
    have JY : Hid (Blk wf we.heap.size #[.slice (some ⟨l1, 0, none⟩) Q.st.length Q.st.length, .slice (some ⟨l2, 0, none⟩) Q.od.length Q.od.length, .slice (some ⟨l3, 0, none⟩) Q.ed.length Q.ed.length, .slice (some ⟨l4, 0, none⟩) Q.ef.length Q.ef.length] 32) := KY.later hbf
    have J0 : Hid (Blk wf w.heap.size #[.slice a1 P.st.length c1, .slice a2 P.od.length c2, .slice a3 P.ed.length c3, .slice a4 P.ef.length c4] 26) := K0.later hbf
    have J1 : Hid (Blk wf (w.heap.size + 1) #[.slice b1 Q.st.length d1, .slice b2 Q.od.length d2, .slice b3 Q.ed.length d3, .slice b4 Q.ef.length d4] 26) := K1.later hbf
    replace HX := HX.later hbf
    replace HY := HY.later hbf
    have u1 : (ps != ps) = false := by simp
    clear K0 K1 KX KY LE hbf x0 x1 x2 x3 x4 y0 y1 y2 y3 y4
    obtain ⟨x0, x1, x2, x3, x4⟩ := JX.out.four'
    obtain ⟨y0, y1, y2, y3, y4⟩ := J0.out.four'
    go_wp2_with fail
    go_region_held3 (fun w' => w'.cell? ⟨wd.heap.size, 0, none⟩ = some (.slice (some ⟨h1, 0, none⟩) P.st.length P.st.length) ∧ w'.cell? ⟨wd.heap.size, 1, none⟩ = some (.slice (some ⟨h2, 0, none⟩) P.od.length P.od.length) ∧ w'.cell? ⟨wd.heap.size, 2, none⟩ = some (.slice (some ⟨h3, 0, none⟩) P.ed.length P.ed.length) ∧ w'.cell? ⟨wd.heap.size, 3, none⟩ = some (.slice (some ⟨h4, 0, none⟩) P.ef.length P.ef.length) ∧ w'.cell? ⟨w.heap.size, 0, none⟩ = some (.slice a1 P.st.length c1) ∧ w'.cell? ⟨w.heap.size, 1, none⟩ = some (.slice a2 P.od.length c2) ∧ w'.cell? ⟨w.heap.size, 2, none⟩ = some (.slice a3 P.ed.length c3) ∧ w'.cell? ⟨w.heap.size, 3, none⟩ = some (.slice a4 P.ef.length c4)) (simp [x0, x1, x2, x3, y0, y1, y2, y3])
      (first
        | (go_at_call 7; refine (toPlan_made a1 a2 a3 a4 c1 c2 c3 c4 P 0 _ (HP.out.later (bl_drew LF)) KP.out).mono ?_; rintro e wg2 ⟨⟨q1, q2, q3, q4, rfl, hIg⟩, hbg⟩; have hwg : Below wf.heap.size wf wg2 := bl_trans (bl_drew (Below.refl _ _)) hbg; obtain ⟨x0, x1, x2, x3, x4⟩ := (JX.out.later hwg).four'; obtain ⟨y0, y1, y2, y3, y4⟩ := (J0.out.later hwg).four')
        | (go_at_call 9; refine (eqPlan_gen _ _ _ _ _ _ _ _ _ _ _ _ _ _ _ _ P _ _ wg2 (HX.later hwg) hIg KP.out).mono ?_; rintro e wh2 ⟨rfl, hbh⟩; have hwh : Below wf.heap.size wf wh2 := bl_trans hwg hbh; obtain ⟨x0, x1, x2, x3, x4⟩ := (JX.out.later hwh).four'; obtain ⟨y0, y1, y2, y3, y4⟩ := (J0.out.later hwh).four'))
    have LI := bl_trans LF hwh
    replace HY := HY.later hwh
    have RY : Hid (Blk wh2 we.heap.size #[.slice (some ⟨l1, 0, none⟩) Q.st.length Q.st.length, .slice (some ⟨l2, 0, none⟩) Q.od.length Q.od.length, .slice (some ⟨l3, 0, none⟩) Q.ed.length Q.ed.length, .slice (some ⟨l4, 0, none⟩) Q.ef.length Q.ef.length] 32) := JY.out.later hwh
    have R1 : Hid (Blk wh2 (w.heap.size + 1) #[.slice b1 Q.st.length d1, .slice b2 Q.od.length d2, .slice b3 Q.ed.length d3, .slice b4 Q.ef.length d4] 26) := J1.out.later hwh
    clear x0 x1 x2 x3 x4 y0 y1 y2 y3 y4 JX JY J0 J1 HX hwh hwg hbg hbh hIg LF u1
    obtain ⟨x0, x1, x2, x3, x4⟩ := RY.out.four'
    obtain ⟨y0, y1, y2, y3, y4⟩ := R1.out.four'
    go_wp2_with fail
    go_region_held3 (fun w' => w'.cell? ⟨we.heap.size, 0, none⟩ = some (.slice (some ⟨l1, 0, none⟩) Q.st.length Q.st.length) ∧ w'.cell? ⟨we.heap.size, 1, none⟩ = some (.slice (some ⟨l2, 0, none⟩) Q.od.length Q.od.length) ∧ w'.cell? ⟨we.heap.size, 2, none⟩ = some (.slice (some ⟨l3, 0, none⟩) Q.ed.length Q.ed.length) ∧ w'.cell? ⟨we.heap.size, 3, none⟩ = some (.slice (some ⟨l4, 0, none⟩) Q.ef.length Q.ef.length) ∧ w'.cell? ⟨w.heap.size + 1, 0, none⟩ = some (.slice b1 Q.st.length d1) ∧ w'.cell? ⟨w.heap.size + 1, 1, none⟩ = some (.slice b2 Q.od.length d2) ∧ w'.cell? ⟨w.heap.size + 1, 2, none⟩ = some (.slice b3 Q.ed.length d3) ∧ w'.cell? ⟨w.heap.size + 1, 3, none⟩ = some (.slice b4 Q.ef.length d4)) (simp [x0, x1, x2, x3, y0, y1, y2, y3])
      (first
        | (go_at_call 7; refine (toPlan_made b1 b2 b3 b4 d1 d2 d3 d4 Q 0 _ (HQ.out.later (bl_drew LI)) KQ.out).mono ?_; rintro e wg3 ⟨⟨q1, q2, q3, q4, rfl, hIg⟩, hbg⟩; have hwg : Below wh2.heap.size wh2 wg3 := bl_trans (bl_drew (Below.refl _ _)) hbg; obtain ⟨x0, x1, x2, x3, x4⟩ := (RY.out.later hwg).four'; obtain ⟨y0, y1, y2, y3, y4⟩ := (R1.out.later hwg).four')
        | (go_at_call 9; refine (eqPlan_gen _ _ _ _ _ _ _ _ _ _ _ _ _ _ _ _ Q _ _ wg3 (HY.later hwg) hIg KQ.out).mono ?_; rintro e wh3 ⟨rfl, hbh⟩; have hwh : Below wh2.heap.size wh2 wh3 := bl_trans hwg hbh; obtain ⟨x0, x1, x2, x3, x4⟩ := (RY.out.later hwh).four'; obtain ⟨y0, y1, y2, y3, y4⟩ := (R1.out.later hwh).four'))
    have LJ := bl_trans LI hwh
    clear x0 x1 x2 x3 x4 y0 y1 y2 y3 y4
    go_wp2_with fail
    go_ret
    exact ⟨rfl, LJ⟩
end Go.Proofs.Ytaakjcjhmeeclaa
