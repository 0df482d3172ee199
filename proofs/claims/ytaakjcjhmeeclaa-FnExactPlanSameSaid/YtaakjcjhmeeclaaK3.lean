import Derived.Test.YtaakjcjhmeeclaaK2
namespace Go.Proofs.Ytaakjcjhmeeclaa
open Go.RowKit
set_option linter.unusedVariables false
set_option linter.unusedSimpArgs false
set_option maxRecDepth 100000

set_option maxHeartbeats 8000000 in
theorem eqEffectS_gen (s t : Option Addr) (c d : Nat) (L : List Ef) (B C : Nat) (w : World) (hs : Els 10 cEff w B s L) (ht : Els 10 cEff w C t L) (hl : kEfs L) :
    Calls Try.prog 26 #[.slice s L.length c, .slice t L.length d] w fun e w' => e = .returned (.bool true) ∧ Below w.heap.size w w' := by
  have hal := alloc_old
  have haf := alloc_oldf
  obtain ⟨hl, hls⟩ := hl
  have HLS : Hid (∀ l ∈ L, kEf l) := hls
  clear hls
  go_enter Try.func26, Try.ntmps26
  go_wp2_with fail
  go_loopw [5] (fun i wr => ∃ k : Nat, k ≤ L.length ∧ i = .int .i64 k ∧ Below w.heap.size w wr) (fun i _ => L.length - (intOf i).toNat)
  case atStart => exact ⟨0, Nat.zero_le _, rfl, Below.refl _ _⟩
  case round =>
    obtain ⟨k, hk, rfl, hb⟩ := hrel
    by_cases hlt : k < L.length
    · obtain ⟨a, ha⟩ := get_some hlt
      obtain ⟨b, o, rfl, _, hp, s0, c0, s1, c1, s2, c2, s3, c3, s4, c4, s5, c5, s6, c6, s7, c7, e0, e1, e2, e3, e4, e5, e6, e7, e8, e9, p⟩ := eEff_cells (hs.later cEff_keeps hb) ha
      obtain ⟨b', o', rfl, _, hp', t0, d0, t1, d1, t2, d2, t3, d3, t4, d4, t5, d5, t6, d6, t7, d7, f0, f1, f2, f3, f4, f5, f6, f7, f8, f9, q⟩ := eEff_cells (ht.later cEff_keeps hb) ha
      have hq : Hid (kEf a) := HLS.out a (List.mem_of_getElem? ha)
      have hq2 : Hid (a.l0.length ≤ 4398046511104 ∧ a.l1.length ≤ 4398046511104 ∧ a.l2.length ≤ 4398046511104 ∧ a.l3.length ≤ 4398046511104 ∧ a.l4.length ≤ 4398046511104 ∧ a.l5.length ≤ 4398046511104 ∧ a.l6.length ≤ 4398046511104 ∧ a.l7.length ≤ 4398046511104) := by
        obtain ⟨m0, m1, m2, m3, m4, m5, m6, m7⟩ := hq.out
        exact ⟨by omega, by omega, by omega, by omega, by omega, by omega, by omega, by omega⟩
      have PH : Hid (InE wr B s0 s1 s2 s3 s4 s5 s6 s7 a) := p
      have QH : Hid (InE wr C t0 t1 t2 t3 t4 t5 t6 t7 a) := q
      clear hs ht ha p q
      go_wp2_with fail
      go_region_with (first
        | (go_at_call 35; refine (eqEffect_self s0 s1 s2 s3 s4 s5 s6 s7 t0 t1 t2 t3 t4 t5 t6 t7 c0 c1 c2 c3 c4 c5 c6 c7 d0 d1 d2 d3 d4 d5 d6 d7 a B C _ (PH.out.later (bl_drew (Below.refl _ _))) (QH.out.later (bl_drew (Below.refl _ _))) hq2.out).mono ?_; rintro e w2 ⟨rfl, hb2⟩))
      all_goals
        go_wp2_with fail
        go_roundw
        case rel =>
          refine ⟨k + 1, by omega, by go_num, ?_⟩
          (repeat (first | with_reducible exact Below.refl _ _ | with_reducible refine bl_alloc ?_ _ | with_reducible refine bl_drewN ?_ _ | with_reducible refine bl_drew ?_ | with_reducible refine bl_setCell ?_ (by first | exact Nat.le_refl _ | (dsimp only; omega) | (simp <;> omega)) _ | with_reducible refine bl_trans ?_ (by with_reducible assumption)))
        case measure => simp [intOf]; omega
    · go_wp2_with fail
      go_ret
      exact ⟨rfl, hb⟩

set_option maxHeartbeats 1000000 in
theorem eqEdge_any (a b c d : Int) (w : World) :
    Calls Try.prog 34 #[.agg #[.int .i64 a, .int .i64 b], .agg #[.int .i64 c, .int .i64 d]] w fun e w' => e = .returned (.bool (a == c && b == d)) ∧ Below w.heap.size w w' := by
  have hal := alloc_old
  have haf := alloc_oldf
  cases h1 : ((a == c) : Bool)
  · have g1 : (a != c) = true := by simp [bne, h1]
    go_enter Try.func34, Try.ntmps34
    go_wp2_with fail
    go_ret
    refine ⟨rfl, ?_⟩
    (repeat (first | with_reducible exact Below.refl _ _ | with_reducible refine bl_alloc ?_ _ | with_reducible refine bl_drewN ?_ _ | with_reducible refine bl_drew ?_ | with_reducible refine bl_setCell ?_ (by first | exact Nat.le_refl _ | (dsimp only; omega) | (simp <;> omega)) _ | with_reducible refine bl_trans ?_ (by with_reducible assumption)))
  · have g1 : (a != c) = false := by simp [bne, h1]
    cases h2 : ((b == d) : Bool)
    · have g2 : (b != d) = true := by simp [bne, h2]
      go_enter Try.func34, Try.ntmps34
      go_wp2_with fail
      go_ret
      refine ⟨rfl, ?_⟩
      (repeat (first | with_reducible exact Below.refl _ _ | with_reducible refine bl_alloc ?_ _ | with_reducible refine bl_drewN ?_ _ | with_reducible refine bl_drew ?_ | with_reducible refine bl_setCell ?_ (by first | exact Nat.le_refl _ | (dsimp only; omega) | (simp <;> omega)) _ | with_reducible refine bl_trans ?_ (by with_reducible assumption)))
    · have g2 : (b != d) = false := by simp [bne, h2]
      go_enter Try.func34, Try.ntmps34
      go_wp2_with fail
      go_ret
      refine ⟨rfl, ?_⟩
      (repeat (first | with_reducible exact Below.refl _ _ | with_reducible refine bl_alloc ?_ _ | with_reducible refine bl_drewN ?_ _ | with_reducible refine bl_drew ?_ | with_reducible refine bl_setCell ?_ (by first | exact Nat.le_refl _ | (dsimp only; omega) | (simp <;> omega)) _ | with_reducible refine bl_trans ?_ (by with_reducible assumption)))
set_option maxHeartbeats 2000000 in
theorem eqEdgeS_gen (s t : Option Addr) (c d : Nat) (L : List E2) (B C : Nat) (w : World) (hs : Els 2 cEnt w B s L) (ht : Els 2 cEnt w C t L) (hl : L.length ≤ 1048576) :
    Calls Try.prog 25 #[.slice s L.length c, .slice t L.length d] w fun e w' => e = .returned (.bool true) ∧ Below w.heap.size w w' := by
  have hal := alloc_old
  have haf := alloc_oldf
  go_enter Try.func25, Try.ntmps25
  go_wp2_with fail
  go_loopw [5] (fun i wr => ∃ k : Nat, k ≤ L.length ∧ i = .int .i64 k ∧ Below w.heap.size w wr) (fun i _ => L.length - (intOf i).toNat)
  case atStart => exact ⟨0, Nat.zero_le _, rfl, Below.refl _ _⟩
  case round =>
    obtain ⟨k, hk, rfl, hb⟩ := hrel
    by_cases hlt : k < L.length
    · obtain ⟨a, ha⟩ := get_some hlt
      obtain ⟨b, o, rfl, _, hp, e1, e2⟩ := eEnt_cells (hs.later cEnt_keeps hb) ha
      obtain ⟨b', o', rfl, _, hp', e3, e4⟩ := eEnt_cells (ht.later cEnt_keeps hb) ha
      obtain ⟨p1, p2⟩ := a
      clear hs ht ha
      go_wp2_with fail
      go_region_with (first
        | (go_at_call 34; refine (eqEdge_any p1 p2 p1 p2 _).mono ?_; rintro e w2 ⟨rfl, hb2⟩; rw [show (p1 == p1 && p2 == p2) = true by simp]))
      all_goals
        go_wp2_with fail
        go_roundw
        case rel =>
          refine ⟨k + 1, by omega, by go_num, ?_⟩
          (repeat (first | with_reducible exact Below.refl _ _ | with_reducible refine bl_alloc ?_ _ | with_reducible refine bl_drewN ?_ _ | with_reducible refine bl_drew ?_ | with_reducible refine bl_setCell ?_ (by first | exact Nat.le_refl _ | (dsimp only; omega) | (simp <;> omega)) _ | with_reducible refine bl_trans ?_ (by with_reducible assumption)))
        case measure => simp [intOf]; omega
    · go_wp2_with fail
      go_ret
      exact ⟨rfl, hb⟩

set_option maxHeartbeats 4000000 in
theorem eqPlan_gen (a1 a2 a3 a4 b1 b2 b3 b4 : Option Addr) (c1 c2 c3 c4 d1 d2 d3 d4 : Nat) (P : Pln) (B C : Nat) (w : World) (hS : InP w B a1 a2 a3 a4 P) (gS : InP w C b1 b2 b3 b4 P) (hk : kP P) :
    Calls Try.prog 9 #[.agg #[.slice a1 P.st.length c1, .slice a2 P.od.length c2, .slice a3 P.ed.length c3, .slice a4 P.ef.length c4], .agg #[.slice b1 P.st.length d1, .slice b2 P.od.length d2, .slice b3 P.ed.length d3, .slice b4 P.ef.length d4]] w fun e w' => e = .returned (.bool true) ∧ Below w.heap.size w w' := by
  have hal := alloc_old
  have haf := alloc_oldf
  obtain ⟨l1, l2, l3, l4⟩ := hk
  obtain ⟨k0, k1, L0⟩ := blkTwoE w #[.slice a1 P.st.length c1, .slice a2 P.od.length c2, .slice a3 P.ed.length c3, .slice a4 P.ef.length c4] #[.slice b1 P.st.length d1, .slice b2 P.od.length d2, .slice b3 P.ed.length d3, .slice b4 P.ef.length d4] 32 32
  obtain ⟨x0, x1, x2, x3, x4⟩ := k0.four'
  obtain ⟨y0, y1, y2, y3, y4⟩ := k1.four'
  go_enter Try.func9, Try.ntmps9
  go_wp2_with fail
  generalize hX : (w.alloc (.cells #[.slice a1 P.st.length c1, .slice a2 P.od.length c2, .slice a3 P.ed.length c3, .slice a4 P.ef.length c4] 32)).alloc (.cells #[.slice b1 P.st.length d1, .slice b2 P.od.length d2, .slice b3 P.ed.length d3, .slice b4 P.ef.length d4] 32) = X at k0 k1 L0 x0 x1 x2 x3 x4 y0 y1 y2 y3 y4 ⊢
  clear hX
  refine (eqI_more a1 b1 c1 d1 P.st B C _ (hS.s.later cInt_keeps L0) (gS.s.later cInt_keeps L0) (by omega)).mono ?_
  rintro e w1 ⟨rfl, hb1⟩
  have L1 := bl_trans L0 hb1
  have K00 := k0.later hb1
  have K01 := k1.later hb1
  clear k0 k1 x0 x1 x2 x3 x4 y0 y1 y2 y3 y4 hb1
  obtain ⟨x0, x1, x2, x3, x4⟩ := K00.four'
  obtain ⟨y0, y1, y2, y3, y4⟩ := K01.four'
  go_wp2_with fail
  refine (eqI_more a2 b2 c2 d2 P.od B C _ (hS.o.later cInt_keeps L1) (gS.o.later cInt_keeps L1) (by omega)).mono ?_
  rintro e w2 ⟨rfl, hb2⟩
  have L2 := bl_trans L1 hb2
  have K10 := K00.later hb2
  have K11 := K01.later hb2
  clear K00 K01 x0 x1 x2 x3 x4 y0 y1 y2 y3 y4 hb2
  obtain ⟨x0, x1, x2, x3, x4⟩ := K10.four'
  obtain ⟨y0, y1, y2, y3, y4⟩ := K11.four'
  go_wp2_with fail
  refine (eqEdgeS_gen a3 b3 c3 d3 P.ed B C _ (hS.e.later cEnt_keeps L2) (gS.e.later cEnt_keeps L2) l3).mono ?_
  rintro e w3 ⟨rfl, hb3⟩
  have L3 := bl_trans L2 hb3
  have K20 := K10.later hb3
  have K21 := K11.later hb3
  clear K10 K11 x0 x1 x2 x3 x4 y0 y1 y2 y3 y4 hb3
  obtain ⟨x0, x1, x2, x3, x4⟩ := K20.four'
  obtain ⟨y0, y1, y2, y3, y4⟩ := K21.four'
  go_wp2_with fail
  refine (eqEffectS_gen a4 b4 c4 d4 P.ef B C _ (hS.f.later cEff_keeps L3) (gS.f.later cEff_keeps L3) l4).mono ?_
  rintro e w4 ⟨rfl, hb4⟩
  have L4 := bl_trans L3 hb4
  have K30 := K20.later hb4
  have K31 := K21.later hb4
  clear K20 K21 x0 x1 x2 x3 x4 y0 y1 y2 y3 y4 hb4
  obtain ⟨x0, x1, x2, x3, x4⟩ := K30.four'
  obtain ⟨y0, y1, y2, y3, y4⟩ := K31.four'
  go_wp2_with fail
  go_ret
  exact ⟨rfl, L4⟩
end Go.Proofs.Ytaakjcjhmeeclaa
