import Derived.Test.YtaakjcjhmeeclaaK9
namespace Go.Proofs.Ytaakjcjhmeeclaa
open Go.RowKit
set_option linter.unusedVariables false
set_option linter.unusedSimpArgs false
set_option maxRecDepth 100000

theorem sl_no {α : Type} {f : α → α → Bool} {L M : List α} (h : ¬ L.length = M.length) : sl f L M = false := by simp [sl, h]
set_option maxHeartbeats 8000000 in
theorem implPlanSame_any (a1 a2 a3 a4 b1 b2 b3 b4 : Option Addr) (c1 c2 c3 c4 d1 d2 d3 d4 : Nat) (P Q : Pln) (B C : Nat) (w : World) (hP : InP w B a1 a2 a3 a4 P) (hQ : InP w C b1 b2 b3 b4 Q) (hk : kP P) (hj : kP Q) :
    Calls Try.prog 8 #[.agg #[.slice a1 P.st.length c1, .slice a2 P.od.length c2, .slice a3 P.ed.length c3, .slice a4 P.ef.length c4], .agg #[.slice b1 Q.st.length d1, .slice b2 Q.od.length d2, .slice b3 Q.ed.length d3, .slice b4 Q.ef.length d4]] w fun z w' => z = .returned (.bool (pS P Q)) ∧ Below w.heap.size w w' := by
  have hal := alloc_old
  have haf := alloc_oldf
  obtain ⟨S1, O1, D1, F1⟩ := P
  obtain ⟨S2, O2, D2, F2⟩ := Q
  obtain ⟨m1, m2, m3, m4⟩ := hk
  obtain ⟨n1, n2, n3, n4⟩ := hj
  dsimp only at *
  have HP : Hid (InP w B a1 a2 a3 a4 ⟨S1, O1, D1, F1⟩) := hP
  have HQ : Hid (InP w C b1 b2 b3 b4 ⟨S2, O2, D2, F2⟩) := hQ
  have M4 : Hid (kEfs F1) := m4
  have N4 : Hid (kEfs F2) := n4
  have l4 := m4.1
  have l4' := n4.1
  clear hP hQ m4 n4
  obtain ⟨K0, K1, L0⟩ := blkTwoE w #[.slice a1 S1.length c1, .slice a2 O1.length c2, .slice a3 D1.length c3, .slice a4 F1.length c4] #[.slice b1 S2.length d1, .slice b2 O2.length d2, .slice b3 D2.length d3, .slice b4 F2.length d4] 32 32
  obtain ⟨x0, x1, x2, x3, x4⟩ := K0.four'
  obtain ⟨y0, y1, y2, y3, y4⟩ := K1.four'
  go_enter Try.func8, Try.ntmps8
  go_wp2_with fail
  generalize hX : (w.alloc (.cells #[.slice a1 S1.length c1, .slice a2 O1.length c2, .slice a3 D1.length c3, .slice a4 F1.length c4] 32)).alloc (.cells #[.slice b1 S2.length d1, .slice b2 O2.length d2, .slice b3 D2.length d3, .slice b4 F2.length d4] 32) = X at K0 K1 L0 x0 x1 x2 x3 x4 y0 y1 y2 y3 y4 ⊢
  clear hX
  refine (equalI_any a1 b1 c1 d1 S1 S2 B C _ (HP.out.s.later cInt_keeps L0) (HQ.out.s.later cInt_keeps L0) m1 n1).mono ?_
  rintro z w1 ⟨rfl, hb1⟩
  have L1 := bl_trans L0 hb1
  replace K0 := K0.later hb1
  replace K1 := K1.later hb1
  clear x0 x1 x2 x3 x4 y0 y1 y2 y3 y4 hb1 L0
  obtain ⟨x0, x1, x2, x3, x4⟩ := K0.four'
  obtain ⟨y0, y1, y2, y3, y4⟩ := K1.four'
  rw [sl_same]
  by_cases g0 : S1 = S2
  case neg =>
    rw [decide_eq_false g0]
    go_wp2_with fail
    go_ret
    exact ⟨by simp [pS, g0], L1⟩
  rw [decide_eq_true g0]
  have G0 : Hid (S1 = S2) := g0
  clear g0
  go_wp2_with fail
  refine (equalI_any a2 b2 c2 d2 O1 O2 B C _ (HP.out.o.later cInt_keeps L1) (HQ.out.o.later cInt_keeps L1) m2 n2).mono ?_
  rintro z w2 ⟨rfl, hb2⟩
  have L2 := bl_trans L1 hb2
  replace K0 := K0.later hb2
  replace K1 := K1.later hb2
  clear x0 x1 x2 x3 x4 y0 y1 y2 y3 y4 hb2 L1
  obtain ⟨x0, x1, x2, x3, x4⟩ := K0.four'
  obtain ⟨y0, y1, y2, y3, y4⟩ := K1.four'
  rw [sl_same]
  by_cases g1 : O1 = O2
  case neg =>
    rw [decide_eq_false g1]
    go_wp2_with fail
    go_ret
    exact ⟨by simp [pS, g1], L2⟩
  rw [decide_eq_true g1]
  have G1 : Hid (O1 = O2) := g1
  clear g1
  go_wp2_with fail
  refine (equalEd_any a3 b3 c3 d3 D1 D2 B C _ (HP.out.e.later cEnt_keeps L2) (HQ.out.e.later cEnt_keeps L2) m3 n3).mono ?_
  rintro z w3 ⟨rfl, hb3⟩
  have L3 := bl_trans L2 hb3
  replace K0 := K0.later hb3
  replace K1 := K1.later hb3
  clear x0 x1 x2 x3 x4 y0 y1 y2 y3 y4 hb3 L2
  obtain ⟨x0, x1, x2, x3, x4⟩ := K0.four'
  obtain ⟨y0, y1, y2, y3, y4⟩ := K1.four'
  cases g2 : sl eqE D1 D2
  case false =>
    go_wp2_with fail
    go_ret
    exact ⟨by simp [pS, g2], L3⟩
  have G2 : Hid (sl eqE D1 D2 = true) := g2
  clear g2
  go_wp2_with fail
  refine (equalFE_any a4 b4 c4 d4 F1 F2 B C _ (HP.out.f.later cEff_keeps L3) (HQ.out.f.later cEff_keeps L3) M4.out N4.out).mono ?_
  rintro z w4 ⟨rfl, hb4⟩
  have L4 := bl_trans L3 hb4
  replace K0 := K0.later hb4
  replace K1 := K1.later hb4
  clear x0 x1 x2 x3 x4 y0 y1 y2 y3 y4 hb4 L3
  obtain ⟨x0, x1, x2, x3, x4⟩ := K0.four'
  obtain ⟨y0, y1, y2, y3, y4⟩ := K1.four'
  have G3 : Hid (pS ⟨S1, O1, D1, F1⟩ ⟨S2, O2, D2, F2⟩ = sl eB F1 F2) := by
    show _ = _
    simp [pS, G0.out, G1.out, G2.out]
  generalize sl eB F1 F2 = q at G3
  go_wp2_with fail
  go_ret
  exact ⟨congrArg (fun b => Ending.returned (.bool b)) G3.out.symm, L4⟩

set_option maxHeartbeats 8000000 in
theorem specPlanSame_any (a1 a2 a3 a4 b1 b2 b3 b4 : Option Addr) (c1 c2 c3 c4 d1 d2 d3 d4 : Nat) (P Q : Pln) (B C : Nat) (w : World) (hP : InP w B a1 a2 a3 a4 P) (hQ : InP w C b1 b2 b3 b4 Q) (hk : kP P) (hj : kP Q) :
    Calls Try.prog 6 #[.agg #[.slice a1 P.st.length c1, .slice a2 P.od.length c2, .slice a3 P.ed.length c3, .slice a4 P.ef.length c4], .agg #[.slice b1 Q.st.length d1, .slice b2 Q.od.length d2, .slice b3 Q.ed.length d3, .slice b4 Q.ef.length d4]] w fun z w' => z = .returned (.bool (pS P Q)) ∧ Below w.heap.size w w' := by
  have hal := alloc_old
  have haf := alloc_oldf
  obtain ⟨S1, O1, D1, F1⟩ := P
  obtain ⟨S2, O2, D2, F2⟩ := Q
  obtain ⟨m1, m2, m3, m4⟩ := hk
  obtain ⟨n1, n2, n3, n4⟩ := hj
  dsimp only at *
  have HP : Hid (InP w B a1 a2 a3 a4 ⟨S1, O1, D1, F1⟩) := hP
  have HQ : Hid (InP w C b1 b2 b3 b4 ⟨S2, O2, D2, F2⟩) := hQ
  have M4 : Hid (kEfs F1) := m4
  have N4 : Hid (kEfs F2) := n4
  have l4 := m4.1
  have l4' := n4.1
  clear hP hQ m4 n4
  obtain ⟨K0, K1, L0⟩ := blkTwoE w #[.slice a1 S1.length c1, .slice a2 O1.length c2, .slice a3 D1.length c3, .slice a4 F1.length c4] #[.slice b1 S2.length d1, .slice b2 O2.length d2, .slice b3 D2.length d3, .slice b4 F2.length d4] 32 32
  obtain ⟨x0, x1, x2, x3, x4⟩ := K0.four'
  obtain ⟨y0, y1, y2, y3, y4⟩ := K1.four'
  go_enter Try.func6, Try.ntmps6
  go_wp2_with fail
  generalize hX : (w.alloc (.cells #[.slice a1 S1.length c1, .slice a2 O1.length c2, .slice a3 D1.length c3, .slice a4 F1.length c4] 32)).alloc (.cells #[.slice b1 S2.length d1, .slice b2 O2.length d2, .slice b3 D2.length d3, .slice b4 F2.length d4] 32) = X at K0 K1 L0 x0 x1 x2 x3 x4 y0 y1 y2 y3 y4 ⊢
  clear hX
  refine (l4Equal_any a1 b1 c1 d1 S1 S2 B C _ (HP.out.s.later cInt_keeps L0) (HQ.out.s.later cInt_keeps L0) m1 n1).mono ?_
  rintro z w1 ⟨rfl, hb1⟩
  have L1 := bl_trans L0 hb1
  replace K0 := K0.later hb1
  replace K1 := K1.later hb1
  clear x0 x1 x2 x3 x4 y0 y1 y2 y3 y4 hb1 L0
  obtain ⟨x0, x1, x2, x3, x4⟩ := K0.four'
  obtain ⟨y0, y1, y2, y3, y4⟩ := K1.four'
  rw [sl_same]
  by_cases g0 : S1 = S2
  case neg =>
    rw [decide_eq_false g0]
    go_wp2_with fail
    go_ret
    exact ⟨by simp [pS, g0], L1⟩
  rw [decide_eq_true g0]
  have G0 : Hid (S1 = S2) := g0
  clear g0
  go_wp2_with fail
  refine (l4Equal_any a2 b2 c2 d2 O1 O2 B C _ (HP.out.o.later cInt_keeps L1) (HQ.out.o.later cInt_keeps L1) m2 n2).mono ?_
  rintro z w2 ⟨rfl, hb2⟩
  have L2 := bl_trans L1 hb2
  replace K0 := K0.later hb2
  replace K1 := K1.later hb2
  clear x0 x1 x2 x3 x4 y0 y1 y2 y3 y4 hb2 L1
  obtain ⟨x0, x1, x2, x3, x4⟩ := K0.four'
  obtain ⟨y0, y1, y2, y3, y4⟩ := K1.four'
  rw [sl_same]
  by_cases g1 : O1 = O2
  case neg =>
    rw [decide_eq_false g1]
    go_wp2_with fail
    go_ret
    exact ⟨by simp [pS, g1], L2⟩
  rw [decide_eq_true g1]
  have G1 : Hid (O1 = O2) := g1
  clear g1
  by_cases g2 : D1.length = D2.length
  case neg =>
    have t0 : ((D1.length : Int) != (D2.length : Int)) = true := by simp; omega
    have G2 : Hid (pS ⟨S1, O1, D1, F1⟩ ⟨S2, O2, D2, F2⟩ = false) := by
      show _ = _
      simp [pS, sl_no g2]
    clear g2
    go_wp2_with fail
    go_ret
    exact ⟨congrArg (fun b => Ending.returned (.bool b)) G2.out.symm, L2⟩
  have t0 : ((D1.length : Int) != (D2.length : Int)) = false := by simp [g2]
  have G2 : Hid (D1.length = D2.length) := g2
  clear g2
  by_cases g3 : F1.length = F2.length
  case neg =>
    have t1 : ((F1.length : Int) != (F2.length : Int)) = true := by simp; omega
    have G3 : Hid (pS ⟨S1, O1, D1, F1⟩ ⟨S2, O2, D2, F2⟩ = false) := by
      show _ = _
      simp [pS, sl_no g3]
    clear g3
    go_wp2_with fail
    go_ret
    exact ⟨congrArg (fun b => Ending.returned (.bool b)) G3.out.symm, L2⟩
  have t1 : ((F1.length : Int) != (F2.length : Int)) = false := by simp [g3]
  have G3 : Hid (F1.length = F2.length) := g3
  clear g3
  go_wp2_with fail
  clear t0 t1
  have HK0 : Hid (Blk w2 w.heap.size #[.slice a1 S1.length c1, .slice a2 O1.length c2, .slice a3 D1.length c3, .slice a4 F1.length c4] 32) := K0
  have HK1 : Hid (Blk w2 (w.heap.size + 1) #[.slice b1 S2.length d1, .slice b2 O2.length d2, .slice b3 D2.length d3, .slice b4 F2.length d4] 32) := K1
  clear K0 K1 x0 x1 x2 x3 x4 y0 y1 y2 y3 y4
  have LL : Hid (Below w.heap.size w w2) := L2
  clear L2
  go_loopw [5] (fun i wr => ∃ k : Nat, k ≤ D1.length ∧ i = .int .i64 k ∧ Hid (∀ (j : Nat) a b, j < k → D1[j]? = some a → D2[j]? = some b → eqE a b = true) ∧ Hid (Below w2.heap.size w2 wr)) (fun i _ => D1.length - (intOf i).toNat)
  case atStart => exact ⟨0, Nat.zero_le _, rfl, fun j a b hj => by omega, Below.refl _ _⟩
  case round =>
    obtain ⟨k, hk, rfl, hall, hb⟩ := hrel
    obtain ⟨x0, x1, x2, x3, x4⟩ := (HK0.out.later hb.out).four'
    obtain ⟨y0, y1, y2, y3, y4⟩ := (HK1.out.later hb.out).four'
    by_cases hlt : k < D1.length
    · have hltM : k < D2.length := by have := G2.out; omega
      obtain ⟨a, ha⟩ := get_some hlt
      obtain ⟨b, hb0⟩ := get_some hltM
      obtain ⟨b1', o1, rfl, _, hpb1, e1, e2⟩ := eEnt_cells (HP.out.e.later cEnt_keeps (bl_trans LL.out hb.out)) ha
      obtain ⟨b2', o2, rfl, _, hpb2, f1, f2⟩ := eEnt_cells (HQ.out.e.later cEnt_keeps (bl_trans LL.out hb.out)) hb0
      have HA : Hid (D1[k]? = some a) := ha
      have HB : Hid (D2[k]? = some b) := hb0
      clear ha hb0
      cases hf : eqE a b
      · have E0 : Hid (pS ⟨S1, O1, D1, F1⟩ ⟨S2, O2, D2, F2⟩ = false) := by
          show _ = _
          simp [pS, ← sl_at HA.out HB.out hf]
        obtain ⟨p1, p2⟩ := a
        obtain ⟨q1, q2⟩ := b
        have g : (p1 == q1 && p2 == q2) = false := hf
        clear hf
        by_cases g1 : p1 = q1
        · subst g1
          have g2 : ¬ p2 = q2 := by simpa using g
          clear g
          go_wp2_with fail
          go_region
          all_goals
            go_wp2_with fail
            go_ret
            refine ⟨congrArg (fun b => Ending.returned (.bool b)) E0.out.symm, ?_⟩
            exact bl_trans LL.out (by have hb := hb.out; (repeat (first | with_reducible exact Below.refl _ _ | with_reducible refine bl_alloc ?_ _ | with_reducible refine bl_drewN ?_ _ | with_reducible refine bl_drew ?_ | with_reducible refine bl_setCell ?_ (by first | exact Nat.le_refl _ | (dsimp only; omega) | (simp <;> omega)) _ | with_reducible refine bl_trans ?_ (by with_reducible assumption))))
        · clear g
          go_wp2_with fail
          go_region
          all_goals
            go_wp2_with fail
            go_ret
            refine ⟨congrArg (fun b => Ending.returned (.bool b)) E0.out.symm, ?_⟩
            exact bl_trans LL.out (by have hb := hb.out; (repeat (first | with_reducible exact Below.refl _ _ | with_reducible refine bl_alloc ?_ _ | with_reducible refine bl_drewN ?_ _ | with_reducible refine bl_drew ?_ | with_reducible refine bl_setCell ?_ (by first | exact Nat.le_refl _ | (dsimp only; omega) | (simp <;> omega)) _ | with_reducible refine bl_trans ?_ (by with_reducible assumption))))
      · have hst : Hid (∀ (j : Nat) a b, j < k + 1 → D1[j]? = some a → D2[j]? = some b → eqE a b = true) := by
          intro j a' b' hj ha' hb'
          by_cases e : j = k
          · subst e
            rw [HA.out] at ha'
            rw [HB.out] at hb'
            cases ha'
            cases hb'
            exact hf
          · exact hall.out j a' b' (by omega) ha' hb'
        obtain ⟨p1, p2⟩ := a
        obtain ⟨q1, q2⟩ := b
        have g : (p1 == q1 && p2 == q2) = true := hf
        clear hf
        obtain ⟨g1, g2⟩ : p1 = q1 ∧ p2 = q2 := by simpa using g
        subst g1 g2
        clear g
        go_wp2_with fail
        go_region
        all_goals
          go_wp2_with fail
          go_roundw
          case rel => exact ⟨k + 1, by omega, by go_num, hst, bl_drew hb.out⟩
          case measure => simp [intOf]; omega
    · have E0 : Hid (pS ⟨S1, O1, D1, F1⟩ ⟨S2, O2, D2, F2⟩ = sl eB F1 F2) := by
        have := sl_all G2.out (fun j a b hj ha hb => hall.out j a b (by omega) ha hb)
        show _ = _
        simp [pS, G0.out, G1.out, ← this]
      have HK0 : Hid (Blk wr w.heap.size #[.slice a1 S1.length c1, .slice a2 O1.length c2, .slice a3 D1.length c3, .slice a4 F1.length c4] 32) := HK0.out.later hb.out
      have HK1 : Hid (Blk wr (w.heap.size + 1) #[.slice b1 S2.length d1, .slice b2 O2.length d2, .slice b3 D2.length d3, .slice b4 F2.length d4] 32) := HK1.out.later hb.out
      have LL : Hid (Below w.heap.size w wr) := bl_trans LL.out hb.out
      have HFP : Hid (Els 10 cEff wr B a4 F1) := HP.out.f.later cEff_keeps LL.out
      have HFQ : Hid (Els 10 cEff wr C b4 F2) := HQ.out.f.later cEff_keeps LL.out
      clear hall hb
      go_wp2_with fail
      clear x0 x1 x2 x3 x4 y0 y1 y2 y3 y4 hlt HP HQ
      go_loopw [6] (fun i wq => ∃ k : Nat, k ≤ F1.length ∧ i = .int .i64 k ∧ Hid (∀ (j : Nat) a b, j < k → F1[j]? = some a → F2[j]? = some b → eB a b = true) ∧ Hid (Below wr.heap.size wr wq)) (fun i _ => F1.length - (intOf i).toNat)
      case atStart => exact ⟨0, Nat.zero_le _, rfl, fun j a b hj => by omega, Below.refl _ _⟩
      case round =>
        obtain ⟨k, hk, rfl, hall, hb⟩ := hrel
        obtain ⟨x0, x1, x2, x3, x4⟩ := (HK0.out.later hb.out).four'
        obtain ⟨y0, y1, y2, y3, y4⟩ := (HK1.out.later hb.out).four'
        by_cases hlt : k < F1.length
        · have hltM : k < F2.length := by have := G3.out; omega
          obtain ⟨a, ha⟩ := get_some hlt
          obtain ⟨b, hb0⟩ := get_some hltM
          obtain ⟨b1', o1, rfl, _, hpb1, u0, v0, u1, v1, u2, v2, u3, v3, u4, v4, u5, v5, u6, v6, u7, v7, e0, e1, e2, e3, e4, e5, e6, e7, e8, e9, PA⟩ := eEff_cells (HFP.out.later cEff_keeps hb.out) ha
          obtain ⟨b2', o2, rfl, _, hpb2, z0, r0, z1, r1, z2, r2, z3, r3, z4, r4, z5, r5, z6, r6, z7, r7, f0, f1, f2, f3, f4, f5, f6, f7, f8, f9, PB⟩ := eEff_cells (HFQ.out.later cEff_keeps hb.out) hb0
          have KA : Hid (kEf a) := M4.out.2 a (List.mem_of_getElem? ha)
          have KB : Hid (kEf b) := N4.out.2 b (List.mem_of_getElem? hb0)
          have HA : Hid (F1[k]? = some a) := ha
          have HB : Hid (F2[k]? = some b) := hb0
          have HPA : Hid (InE wr B u0 u1 u2 u3 u4 u5 u6 u7 a) := PA
          have HPB : Hid (InE wr C z0 z1 z2 z3 z4 z5 z6 z7 b) := PB
          clear ha hb0 PA PB
          cases hf : eB a b
          · have E1 : Hid (pS ⟨S1, O1, D1, F1⟩ ⟨S2, O2, D2, F2⟩ = false) := by
              show _ = _
              rw [E0.out, ← sl_at HA.out HB.out hf]
            have HF : Hid (eB a b = false) := hf
            clear hf
            go_wp2_with fail
            go_region_with (first
              | (go_at_call 16; refine (specSame_any u0 u1 u2 u3 u4 u5 u6 u7 z0 z1 z2 z3 z4 z5 z6 z7 v0 v1 v2 v3 v4 v5 v6 v7 r0 r1 r2 r3 r4 r5 r6 r7 a b B C _ (HPA.out.later (bl_drew (Below.refl _ _))) (HPB.out.later (bl_drew (Below.refl _ _))) KA.out KB.out).mono ?_; rintro e w3 ⟨rfl, hb3⟩; rw [HF.out]))
            all_goals
              have LZ : Below w.heap.size w w3 := bl_trans (bl_trans LL.out hb.out) (bl_trans (bl_drew (Below.refl _ _)) hb3)
              go_wp2_with fail
              go_ret
              exact ⟨congrArg (fun b => Ending.returned (.bool b)) E1.out.symm, LZ⟩
          · have hst : Hid (∀ (j : Nat) a b, j < k + 1 → F1[j]? = some a → F2[j]? = some b → eB a b = true) := by
              intro j a' b' hj ha' hb'
              by_cases e : j = k
              · subst e
                rw [HA.out] at ha'
                rw [HB.out] at hb'
                cases ha'
                cases hb'
                exact hf
              · exact hall.out j a' b' (by omega) ha' hb'
            have HF : Hid (eB a b = true) := hf
            clear hf
            go_wp2_with fail
            go_region_with (first
              | (go_at_call 16; refine (specSame_any u0 u1 u2 u3 u4 u5 u6 u7 z0 z1 z2 z3 z4 z5 z6 z7 v0 v1 v2 v3 v4 v5 v6 v7 r0 r1 r2 r3 r4 r5 r6 r7 a b B C _ (HPA.out.later (bl_drew (Below.refl _ _))) (HPB.out.later (bl_drew (Below.refl _ _))) KA.out KB.out).mono ?_; rintro e w3 ⟨rfl, hb3⟩; rw [HF.out]))
            all_goals
              go_wp2_with fail
              go_roundw
              case rel => exact ⟨k + 1, by omega, by go_num, hst, bl_trans hb.out (bl_trans (bl_drew (Below.refl _ _)) hb3)⟩
              case measure => simp [intOf]; omega
        · have E1 : Hid (pS ⟨S1, O1, D1, F1⟩ ⟨S2, O2, D2, F2⟩ = true) := by
            have := sl_all G3.out (fun j a b hj ha hb => hall.out j a b (by omega) ha hb)
            show _ = _
            rw [E0.out, ← this]
          go_wp2_with fail
          go_ret
          exact ⟨congrArg (fun b => Ending.returned (.bool b)) E1.out.symm, bl_trans LL.out hb.out⟩
end Go.Proofs.Ytaakjcjhmeeclaa
