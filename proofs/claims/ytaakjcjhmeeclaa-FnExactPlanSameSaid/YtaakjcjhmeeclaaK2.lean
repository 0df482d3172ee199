import Derived.Test.YtaakjcjhmeeclaaK1
namespace Go.Proofs.Ytaakjcjhmeeclaa
open Go.RowKit
set_option linter.unusedVariables false
set_option linter.unusedSimpArgs false
set_option maxRecDepth 100000

theorem put10 {w : World} {B g n k : Nat} {T : TypeId} {A C : List Value} {x0 x1 x2 x3 x4 x5 x6 x7 x8 x9 u0 u1 u2 u3 u4 u5 u6 u7 u8 u9 : Value} (hA : A.length = k * 10) (h : w.ownsRow B T 10 (.slice (some ⟨g, 0, none⟩) n n) n (A ++ ([x0, x1, x2, x3, x4, x5, x6, x7, x8, x9] ++ C))) : ((((((((((w.setCell ⟨g, k * 10, none⟩ u0).setCell ⟨g, k * 10 + 1, none⟩ u1).setCell ⟨g, k * 10 + 2, none⟩ u2).setCell ⟨g, k * 10 + 3, none⟩ u3).setCell ⟨g, k * 10 + 4, none⟩ u4).setCell ⟨g, k * 10 + 5, none⟩ u5).setCell ⟨g, k * 10 + 6, none⟩ u6).setCell ⟨g, k * 10 + 7, none⟩ u7).setCell ⟨g, k * 10 + 8, none⟩ u8).setCell ⟨g, k * 10 + 9, none⟩ u9).ownsRow B T 10 (.slice (some ⟨g, 0, none⟩) n n) n (A ++ ([u0, u1, u2, u3, u4, u5, u6, u7, u8, u9] ++ C)) := by
  have h1 := (World.ownsRow.stored h (A.length + 0) u0).1
  rw [set_mid _ _ _ _ _ (by simp)] at h1
  have h2 := (World.ownsRow.stored h1 (A.length + 1) u1).1
  rw [set_mid _ _ _ _ _ (by simp)] at h2
  have h3 := (World.ownsRow.stored h2 (A.length + 2) u2).1
  rw [set_mid _ _ _ _ _ (by simp)] at h3
  have h4 := (World.ownsRow.stored h3 (A.length + 3) u3).1
  rw [set_mid _ _ _ _ _ (by simp)] at h4
  have h5 := (World.ownsRow.stored h4 (A.length + 4) u4).1
  rw [set_mid _ _ _ _ _ (by simp)] at h5
  have h6 := (World.ownsRow.stored h5 (A.length + 5) u5).1
  rw [set_mid _ _ _ _ _ (by simp)] at h6
  have h7 := (World.ownsRow.stored h6 (A.length + 6) u6).1
  rw [set_mid _ _ _ _ _ (by simp)] at h7
  have h8 := (World.ownsRow.stored h7 (A.length + 7) u7).1
  rw [set_mid _ _ _ _ _ (by simp)] at h8
  have h9 := (World.ownsRow.stored h8 (A.length + 8) u8).1
  rw [set_mid _ _ _ _ _ (by simp)] at h9
  have h10 := (World.ownsRow.stored h9 (A.length + 9) u9).1
  rw [set_mid _ _ _ _ _ (by simp), hA] at h10
  exact h10
theorem Try.infoEf : (Try.prog.info? 45).map (fun i => (i.zero, i.size, i.bytes)) = some (some (.agg #[.slice none 0 0, .slice none 0 0, .slice none 0 0, .slice none 0 0, .slice none 0 0, .slice none 0 0, .slice none 0 0, .slice none 0 0, .bool false, .bool false]), 10, 200) := by kernel_rfl

set_option maxHeartbeats 8000000 in
theorem toEffectS_made (s : Option Addr) (c : Nat) (L : List Ef) (B : Nat) (w : World) (hL : Els 10 cEff w B s L) (hl : kEfs L) :
    Calls Try.prog 19 #[.slice s L.length c] w fun e w' => Made 10 cEff w L e w' := by
  obtain ⟨i0, hi, hz0, hz1, hz2⟩ := info_parts Try.infoEf
  obtain ⟨hl, hls⟩ := hl
  have HLS : Hid (∀ l ∈ L, kEf l) := hls
  clear hls
  go_enter Try.func19, Try.ntmps19
  go_wp2_with (at_make; refine wpList_make_full _ rfl _ _ 30 rfl w.heap.size 45 i0 (.agg #[.slice none 0 0, .slice none 0 0, .slice none 0 0, .slice none 0 0, .slice none 0 0, .slice none 0 0, .slice none 0 0, .slice none 0 0, .bool false, .bool false]) 10 Try.underlying30 hi hz0 hz1 .i64 .i64 _ _ L.length rfl rfl rfl rfl (by rw [hz2]; omega) (by unfold maxLen; omega) (Nat.le_refl _) ?_)
  intro w1 hown hgrow
  have hrow : Hid (Mk 10 cEff [.slice none 0 0, .slice none 0 0, .slice none 0 0, .slice none 0 0, .slice none 0 0, .slice none 0 0, .slice none 0 0, .slice none 0 0, .bool false, .bool false] 45 w1 w.heap.size w.heap.size L 0) := Mk.start (z := #[.slice none 0 0, .slice none 0 0, .slice none 0 0, .slice none 0 0, .slice none 0 0, .slice none 0 0, .slice none 0 0, .slice none 0 0, .bool false, .bool false]) rfl hown
  have hbel : Hid (Below w.heap.size w w1) := (Below.refl _ w).grown hgrow (Nat.le_refl _) (fun k h => by cases h)
  clear hown hgrow hi hz0 hz1 hz2
  go_wp2_with fail
  go_loopw [4] (fun i wr => ∃ k : Nat, k ≤ L.length ∧ i = .int .i64 k ∧ Hid (Mk 10 cEff [.slice none 0 0, .slice none 0 0, .slice none 0 0, .slice none 0 0, .slice none 0 0, .slice none 0 0, .slice none 0 0, .slice none 0 0, .bool false, .bool false] 45 wr w.heap.size w.heap.size L k) ∧ Hid (Below w.heap.size w wr)) (fun i _ => L.length - (intOf i).toNat)
  case atStart => exact ⟨0, Nat.zero_le _, rfl, hrow, hbel⟩
  case round =>
    obtain ⟨k, hk, rfl, hrow, hbel⟩ := hrel
    by_cases hlt : k < L.length
    · obtain ⟨a, ha⟩ := get_some hlt
      obtain ⟨b, o, rfl, hB, hp, s0, c0, s1, c1, s2, c2, s3, c3, s4, c4, s5, c5, s6, c6, s7, c7, e0, e1, e2, e3, e4, e5, e6, e7, e8, e9, f⟩ := eEff_cells (hL.later cEff_keeps hbel.out) ha
      have hal := HLS.out a (List.mem_of_getElem? ha)
      have gl := (hrow.out.at hlt).2.1
      clear hL
      go_wp2_with fail
      refine (toEffect_made s0 s1 s2 s3 s4 s5 s6 s7 c0 c1 c2 c3 c4 c5 c6 c7 a B _ f hal).mono ?_
      rintro e w2 ⟨⟨g0, g1, g2, g3, g4, g5, g6, g7, rfl, D⟩, hb2⟩
      have hr2 := hrow.out.later cEff_keeps hb2
      have L2 : Hid (Below w.heap.size w w2) := bl_trans hbel.out hb2
      obtain ⟨_, hg, fz, cz⟩ := hr2.at hlt
      have q0 := cz 0 _ rfl
      have q1 := cz 1 _ rfl
      have q2 := cz 2 _ rfl
      have q3 := cz 3 _ rfl
      have q4 := cz 4 _ rfl
      have q5 := cz 5 _ rfl
      have q6 := cz 6 _ rfl
      have q7 := cz 7 _ rfl
      have q8 := cz 8 _ rfl
      have q9 := cz 9 _ rfl
      rw [Nat.add_zero] at q0
      have hputH : Hid (Mk 10 cEff [.slice none 0 0, .slice none 0 0, .slice none 0 0, .slice none 0 0, .slice none 0 0, .slice none 0 0, .slice none 0 0, .slice none 0 0, .bool false, .bool false] 45 ((((((((((w2.setCell ⟨w.heap.size, k * 10, none⟩ (.slice (some ⟨g0, 0, none⟩) a.l0.length a.l0.length)).setCell ⟨w.heap.size, k * 10 + 1, none⟩ (.slice (some ⟨g1, 0, none⟩) a.l1.length a.l1.length)).setCell ⟨w.heap.size, k * 10 + 2, none⟩ (.slice (some ⟨g2, 0, none⟩) a.l2.length a.l2.length)).setCell ⟨w.heap.size, k * 10 + 3, none⟩ (.slice (some ⟨g3, 0, none⟩) a.l3.length a.l3.length)).setCell ⟨w.heap.size, k * 10 + 4, none⟩ (.slice (some ⟨g4, 0, none⟩) a.l4.length a.l4.length)).setCell ⟨w.heap.size, k * 10 + 5, none⟩ (.slice (some ⟨g5, 0, none⟩) a.l5.length a.l5.length)).setCell ⟨w.heap.size, k * 10 + 6, none⟩ (.slice (some ⟨g6, 0, none⟩) a.l6.length a.l6.length)).setCell ⟨w.heap.size, k * 10 + 7, none⟩ (.slice (some ⟨g7, 0, none⟩) a.l7.length a.l7.length)).setCell ⟨w.heap.size, k * 10 + 8, none⟩ (.bool a.sp)).setCell ⟨w.heap.size, k * 10 + 9, none⟩ (.bool a.kl)) w.heap.size w.heap.size L (k + 1)) :=
        hr2.push cEff_keeps ha (c := [.slice (some ⟨g0, 0, none⟩) a.l0.length a.l0.length, .slice (some ⟨g1, 0, none⟩) a.l1.length a.l1.length, .slice (some ⟨g2, 0, none⟩) a.l2.length a.l2.length, .slice (some ⟨g3, 0, none⟩) a.l3.length a.l3.length, .slice (some ⟨g4, 0, none⟩) a.l4.length a.l4.length, .slice (some ⟨g5, 0, none⟩) a.l5.length a.l5.length, .slice (some ⟨g6, 0, none⟩) a.l6.length a.l6.length, .slice (some ⟨g7, 0, none⟩) a.l7.length a.l7.length, .bool a.sp, .bool a.kl]) rfl ⟨_, _, _, _, _, _, _, _, _, _, _, _, _, _, _, _, rfl, D.drop (by omega)⟩ ((((((((((Kept.set _ (by simp) _).trans (Kept.set _ (by simp) _)).trans (Kept.set _ (by simp) _)).trans (Kept.set _ (by simp) _)).trans (Kept.set _ (by simp) _)).trans (Kept.set _ (by simp) _)).trans (Kept.set _ (by simp) _)).trans (Kept.set _ (by simp) _)).trans (Kept.set _ (by simp) _)).trans (Kept.set _ (by simp) _)) (fun A C hA h => put10 hA h)
      clear hr2 hrow ha cz f D
      go_wp2_with fail
      go_roundw
      case rel => exact ⟨k + 1, by omega, by go_num, hputH, ((((((((((L2.out.setCell (Nat.le_refl _) _).setCell (Nat.le_refl _) _).setCell (Nat.le_refl _) _).setCell (Nat.le_refl _) _).setCell (Nat.le_refl _) _).setCell (Nat.le_refl _) _).setCell (Nat.le_refl _) _).setCell (Nat.le_refl _) _).setCell (Nat.le_refl _) _).setCell (Nat.le_refl _) _)⟩
      case measure => simp [intOf]; omega
    · have hm' : k = L.length := by omega
      subst hm'
      go_wp2_with fail
      go_ret
      exact ⟨_, rfl, Nat.le_refl _, hrow.out.done cEff_drops, hbel.out⟩
set_option maxHeartbeats 1000000 in
theorem toEdge_any (a g : Int) (w : World) :
    Calls Try.prog 30 #[.agg #[.int .i64 a, .int .i64 g]] w fun e w' => e = .returned (.agg #[.int .i64 a, .int .i64 g]) ∧ Below w.heap.size w w' := by
  go_enter Try.func30, Try.ntmps30
  go_wp2_with fail
  refine bodyPost_ret (v := .agg #[.int .i64 a, .int .i64 g]) (by simp [results, Try.results30, go_sem]) rfl ⟨rfl, ?_⟩
  (repeat (first | with_reducible exact Below.refl _ _ | with_reducible refine bl_alloc ?_ _ | with_reducible refine bl_drewN ?_ _ | with_reducible refine bl_drew ?_ | with_reducible refine bl_setCell ?_ (by first | exact Nat.le_refl _ | (dsimp only; omega) | (simp <;> omega)) _ | with_reducible refine bl_trans ?_ (by with_reducible assumption)))
theorem Try.infoEd : (Try.prog.info? 42).map (fun i => (i.zero, i.size, i.bytes)) = some (some (.agg #[.int .i64 0, .int .i64 0]), 2, 16) := by kernel_rfl
set_option maxHeartbeats 2000000 in
theorem toEdgeS_made (s : Option Addr) (c : Nat) (L : List E2) (B : Nat) (w : World) (hL : Els 2 cEnt w B s L) (hl : L.length ≤ 1048576) :
    Calls Try.prog 18 #[.slice s L.length c] w fun e w' => Made 2 cEnt w L e w' := by
  obtain ⟨i0, hi, hz0, hz1, hz2⟩ := info_parts Try.infoEd
  go_enter Try.func18, Try.ntmps18
  go_wp2_with (at_make; refine wpList_make_full _ rfl _ _ 29 rfl w.heap.size 42 i0 (.agg #[.int .i64 0, .int .i64 0]) 2 Try.underlying29 hi hz0 hz1 .i64 .i64 _ _ L.length rfl rfl rfl rfl (by rw [hz2]; omega) (by unfold maxLen; omega) (Nat.le_refl _) ?_)
  intro w1 hown hgrow
  have hrow : Hid (Mk 2 cEnt [.int .i64 0, .int .i64 0] 42 w1 w.heap.size w.heap.size L 0) := Mk.start (z := #[.int .i64 0, .int .i64 0]) rfl hown
  have hbel : Hid (Below w.heap.size w w1) := (Below.refl _ w).grown hgrow (Nat.le_refl _) (fun k h => by cases h)
  clear hown hgrow hi hz0 hz1 hz2
  go_wp2_with fail
  go_loopw [4] (fun i wr => ∃ k : Nat, k ≤ L.length ∧ i = .int .i64 k ∧ Hid (Mk 2 cEnt [.int .i64 0, .int .i64 0] 42 wr w.heap.size w.heap.size L k) ∧ Hid (Below w.heap.size w wr)) (fun i _ => L.length - (intOf i).toNat)
  case atStart => exact ⟨0, Nat.zero_le _, rfl, hrow, hbel⟩
  case round =>
    obtain ⟨k, hk, rfl, hrow, hbel⟩ := hrel
    by_cases hlt : k < L.length
    · obtain ⟨a, ha⟩ := get_some hlt
      obtain ⟨b, o, rfl, hB, hp, e1, e2⟩ := eEnt_cells (hL.later cEnt_keeps hbel.out) ha
      obtain ⟨p1, p2⟩ := a
      clear hL
      go_wp2_with fail
      refine (toEdge_any p1 p2 _).mono ?_
      rintro e w2 ⟨rfl, hb2⟩
      have hr2 := hrow.out.later cEnt_keeps hb2
      have L2 : Hid (Below w.heap.size w w2) := bl_trans hbel.out hb2
      obtain ⟨_, hg, fz, cz⟩ := hr2.at hlt
      have g1 := cz 0 _ rfl
      have g2 := cz 1 _ rfl
      rw [Nat.add_zero] at g1
      have hputH : Hid (Mk 2 cEnt [.int .i64 0, .int .i64 0] 42 ((w2.setCell ⟨w.heap.size, k * 2, none⟩ (.int .i64 p1)).setCell ⟨w.heap.size, k * 2 + 1, none⟩ (.int .i64 p2)) w.heap.size w.heap.size L (k + 1)) :=
        hr2.push cEnt_keeps ha (c := [.int .i64 p1, .int .i64 p2]) rfl rfl ((Kept.set _ (by simp) _).trans (Kept.set _ (by simp) _)) (fun A C hA h => put2 hA h)
      clear hr2 hrow ha cz
      go_wp2_with fail
      go_roundw
      case rel => exact ⟨k + 1, by omega, by go_num, hputH, (L2.out.setCell (Nat.le_refl _) _).setCell (Nat.le_refl _) _⟩
      case measure => simp [intOf]; omega
    · have hm' : k = L.length := by omega
      subst hm'
      go_wp2_with fail
      go_ret
      exact ⟨_, rfl, Nat.le_refl _, hrow.out.done cEnt_drops, hbel.out⟩

set_option maxHeartbeats 8000000 in
theorem toPlan_made (a1 a2 a3 a4 : Option Addr) (c1 c2 c3 c4 : Nat) (P : Pln) (B : Nat) (w : World) (hS : InP w B a1 a2 a3 a4 P) (hk : kP P) :
    Calls Try.prog 7 #[.agg #[.slice a1 P.st.length c1, .slice a2 P.od.length c2, .slice a3 P.ed.length c3, .slice a4 P.ef.length c4]] w fun e w' => (∃ g1 g2 g3 g4 : Nat, e = .returned (.agg #[.slice (some ⟨g1, 0, none⟩) P.st.length P.st.length, .slice (some ⟨g2, 0, none⟩) P.od.length P.od.length, .slice (some ⟨g3, 0, none⟩) P.ed.length P.ed.length, .slice (some ⟨g4, 0, none⟩) P.ef.length P.ef.length]) ∧
      InP w' w.heap.size (some ⟨g1, 0, none⟩) (some ⟨g2, 0, none⟩) (some ⟨g3, 0, none⟩) (some ⟨g4, 0, none⟩) P) ∧ Below w.heap.size w w' := by
  have hal := alloc_old
  have haf := alloc_oldf
  obtain ⟨m1, m2, m3, m4⟩ := hk
  obtain ⟨k0, k1, k2⟩ := blk3t w #[.slice a1 P.st.length c1, .slice a2 P.od.length c2, .slice a3 P.ed.length c3, .slice a4 P.ef.length c4] #[.slice none 0 0, .slice none 0 0, .slice none 0 0, .slice none 0 0] #[.slice none 0 0, .slice none 0 0, .slice none 0 0, .slice none 0 0] 26 32 32
  have L0 : Below w.heap.size w (((w.alloc (.cells #[.slice a1 P.st.length c1, .slice a2 P.od.length c2, .slice a3 P.ed.length c3, .slice a4 P.ef.length c4] 26)).alloc (.cells #[.slice none 0 0, .slice none 0 0, .slice none 0 0, .slice none 0 0] 32)).alloc (.cells #[.slice none 0 0, .slice none 0 0, .slice none 0 0, .slice none 0 0] 32)) := by (repeat (first | with_reducible exact Below.refl _ _ | with_reducible refine bl_alloc ?_ _ | with_reducible refine bl_drewN ?_ _ | with_reducible refine bl_drew ?_ | with_reducible refine bl_setCell ?_ (by first | exact Nat.le_refl _ | (dsimp only; omega) | (simp <;> omega)) _ | with_reducible refine bl_trans ?_ (by with_reducible assumption)))
  go_enter Try.func7, Try.ntmps7
  go_wp2_with fail
  generalize hX0 : ((w.alloc (.cells #[.slice a1 P.st.length c1, .slice a2 P.od.length c2, .slice a3 P.ed.length c3, .slice a4 P.ef.length c4] 26)).alloc (.cells #[.slice none 0 0, .slice none 0 0, .slice none 0 0, .slice none 0 0] 32)).alloc (.cells #[.slice none 0 0, .slice none 0 0, .slice none 0 0, .slice none 0 0] 32) = X0 at k0 k1 k2 L0 ⊢
  clear hX0
  have lx0 : w.heap.size + 1 + 1 < X0.heap.size := k2.lt
  have n0 : ¬ w.heap.size = w.heap.size + 1 + 1 := by omega
  refine (toInts_made a1 c1 P.st B _ (hS.s.later cInt_keeps L0) m1).mono ?_
  rintro e w1 ⟨g1, rfl, e1, d1, hb1⟩
  have M1 := bl_trans L0 hb1
  have d1 := d1.drop cInt_drops (B' := w.heap.size + 1 + 1 + 1) (by omega)
  have P10 := ((k0.later hb1).other (m := w.heap.size + 1 + 1) (by omega) 0 (.slice (some ⟨g1, 0, none⟩) P.st.length P.st.length))
  have P11 := ((k1.later hb1).other (m := w.heap.size + 1 + 1) (by omega) 0 (.slice (some ⟨g1, 0, none⟩) P.st.length P.st.length))
  have P12 := (k2.later hb1).set 0 (.slice (some ⟨g1, 0, none⟩) P.st.length P.st.length)
  have KS := Kept.set (B := w.heap.size + 1 + 1 + 1) w1 (p := ⟨w.heap.size + 1 + 1, 0, none⟩) (by simp) (.slice (some ⟨g1, 0, none⟩) P.st.length P.st.length)
  have d1' := d1.kept cInt_keeps KS
  have N1 := M1.setCell (p := ⟨w.heap.size + 1 + 1, 0, none⟩) (by simp; omega) (.slice (some ⟨g1, 0, none⟩) P.st.length P.st.length)
  obtain ⟨z0, z1, z2, z3, z4⟩ := (k2.later hb1).four'
  obtain ⟨x0, x1, x2, x3, x4⟩ := (k0.later hb1).four'
  clear k0 k1 k2 hb1 M1 KS  d1
  go_wp2_with fail
  clear x0 x1 x2 x3 x4 z0 z1 z2 z3 z4
  generalize hX : w1.setCell ⟨w.heap.size + 1 + 1, 0, none⟩ (.slice (some ⟨g1, 0, none⟩) P.st.length P.st.length) = X1 at P10 P11 P12 N1 d1' ⊢
  clear hX
  have P12 : Blk X1 (w.heap.size + 1 + 1) #[.slice (some ⟨g1, 0, none⟩) P.st.length P.st.length, .slice none 0 0, .slice none 0 0, .slice none 0 0] 32 := P12
  have lx1 : w.heap.size + 1 + 1 < X1.heap.size := P12.lt
  refine (toInts_made a2 c2 P.od B _ (hS.o.later cInt_keeps N1) m2).mono ?_
  rintro e w2 ⟨g2, rfl, e2, d2, hb2⟩
  have M2 := bl_trans N1 hb2
  have d2 := d2.drop cInt_drops (B' := w.heap.size + 1 + 1 + 1) (by omega)
  have P20 := ((P10.later hb2).other (m := w.heap.size + 1 + 1) (by omega) 1 (.slice (some ⟨g2, 0, none⟩) P.od.length P.od.length))
  have P21 := ((P11.later hb2).other (m := w.heap.size + 1 + 1) (by omega) 1 (.slice (some ⟨g2, 0, none⟩) P.od.length P.od.length))
  have P22 := (P12.later hb2).set 1 (.slice (some ⟨g2, 0, none⟩) P.od.length P.od.length)
  have KS := Kept.set (B := w.heap.size + 1 + 1 + 1) w2 (p := ⟨w.heap.size + 1 + 1, 1, none⟩) (by simp) (.slice (some ⟨g2, 0, none⟩) P.od.length P.od.length)
  have d1'' := (d1'.later cInt_keeps hb2).kept cInt_keeps KS
  have d2' := d2.kept cInt_keeps KS
  have N2 := M2.setCell (p := ⟨w.heap.size + 1 + 1, 1, none⟩) (by simp; omega) (.slice (some ⟨g2, 0, none⟩) P.od.length P.od.length)
  obtain ⟨z0, z1, z2, z3, z4⟩ := (P12.later hb2).four'
  obtain ⟨x0, x1, x2, x3, x4⟩ := (P10.later hb2).four'
  clear P10 P11 P12 hb2 M2 KS d1' d2
  go_wp2_with fail
  clear x0 x1 x2 x3 x4 z0 z1 z2 z3 z4
  generalize hX : w2.setCell ⟨w.heap.size + 1 + 1, 1, none⟩ (.slice (some ⟨g2, 0, none⟩) P.od.length P.od.length) = X2 at P20 P21 P22 N2 d1'' d2' ⊢
  clear hX
  have P22 : Blk X2 (w.heap.size + 1 + 1) #[.slice (some ⟨g1, 0, none⟩) P.st.length P.st.length, .slice (some ⟨g2, 0, none⟩) P.od.length P.od.length, .slice none 0 0, .slice none 0 0] 32 := P22
  have lx2 : w.heap.size + 1 + 1 < X2.heap.size := P22.lt
  refine (toEdgeS_made a3 c3 P.ed B _ (hS.e.later cEnt_keeps N2) m3).mono ?_
  rintro e w3 ⟨g3, rfl, e3, d3, hb3⟩
  have M3 := bl_trans N2 hb3
  have d3 := d3.drop cEnt_drops (B' := w.heap.size + 1 + 1 + 1) (by omega)
  have P30 := ((P20.later hb3).other (m := w.heap.size + 1 + 1) (by omega) 2 (.slice (some ⟨g3, 0, none⟩) P.ed.length P.ed.length))
  have P31 := ((P21.later hb3).other (m := w.heap.size + 1 + 1) (by omega) 2 (.slice (some ⟨g3, 0, none⟩) P.ed.length P.ed.length))
  have P32 := (P22.later hb3).set 2 (.slice (some ⟨g3, 0, none⟩) P.ed.length P.ed.length)
  have KS := Kept.set (B := w.heap.size + 1 + 1 + 1) w3 (p := ⟨w.heap.size + 1 + 1, 2, none⟩) (by simp) (.slice (some ⟨g3, 0, none⟩) P.ed.length P.ed.length)
  have d1''' := (d1''.later cInt_keeps hb3).kept cInt_keeps KS
  have d2'' := (d2'.later cInt_keeps hb3).kept cInt_keeps KS
  have d3' := d3.kept cEnt_keeps KS
  have N3 := M3.setCell (p := ⟨w.heap.size + 1 + 1, 2, none⟩) (by simp; omega) (.slice (some ⟨g3, 0, none⟩) P.ed.length P.ed.length)
  obtain ⟨z0, z1, z2, z3, z4⟩ := (P22.later hb3).four'
  obtain ⟨x0, x1, x2, x3, x4⟩ := (P20.later hb3).four'
  clear P20 P21 P22 hb3 M3 KS d1'' d2' d3
  go_wp2_with fail
  clear x0 x1 x2 x3 x4 z0 z1 z2 z3 z4
  generalize hX : w3.setCell ⟨w.heap.size + 1 + 1, 2, none⟩ (.slice (some ⟨g3, 0, none⟩) P.ed.length P.ed.length) = X3 at P30 P31 P32 N3 d1''' d2'' d3' ⊢
  clear hX
  have P32 : Blk X3 (w.heap.size + 1 + 1) #[.slice (some ⟨g1, 0, none⟩) P.st.length P.st.length, .slice (some ⟨g2, 0, none⟩) P.od.length P.od.length, .slice (some ⟨g3, 0, none⟩) P.ed.length P.ed.length, .slice none 0 0] 32 := P32
  have lx3 : w.heap.size + 1 + 1 < X3.heap.size := P32.lt
  refine (toEffectS_made a4 c4 P.ef B _ (hS.f.later cEff_keeps N3) m4).mono ?_
  rintro e w4 ⟨g4, rfl, e4, d4, hb4⟩
  have d4 := d4.drop cEff_drops (B' := w.heap.size + 1 + 1 + 1) (by omega)
  have M4 := bl_trans N3 hb4
  have R1 := P31.later hb4
  have R2 := P32.later hb4
  have G1 := d1'''.later cInt_keeps hb4
  have G2 := d2''.later cInt_keeps hb4
  have G3 := d3'.later cEnt_keeps hb4
  clear P30 P31 P32 N3 hb4 d1''' d2'' d3'
  obtain ⟨z0, z1, z2, z3, z4⟩ := R2.four'
  obtain ⟨y0, y1, y2, y3, y4⟩ := R1.four'
  have n1 : ¬ w.heap.size + 1 = w.heap.size + 1 + 1 := by omega
  have K5 : ∀ (u0 u1 u2 u3 u4 : Value), Kept (w.heap.size + 1 + 1 + 1) w4 (((((w4.setCell ⟨w.heap.size + 1 + 1, 3, none⟩ u0).setCell ⟨w.heap.size + 1, 0, none⟩ u1).setCell ⟨w.heap.size + 1, 1, none⟩ u2).setCell ⟨w.heap.size + 1, 2, none⟩ u3).setCell ⟨w.heap.size + 1, 3, none⟩ u4) :=
    fun _ _ _ _ _ => (((((Kept.set _ (by simp) _).trans (Kept.set _ (by simp <;> omega) _)).trans (Kept.set _ (by simp <;> omega) _)).trans (Kept.set _ (by simp <;> omega) _)).trans (Kept.set _ (by simp <;> omega) _))
  go_wp2_with fail
  refine bodyPost_ret (v := .agg #[.slice (some ⟨g1, 0, none⟩) P.st.length P.st.length, .slice (some ⟨g2, 0, none⟩) P.od.length P.od.length, .slice (some ⟨g3, 0, none⟩) P.ed.length P.ed.length, .slice (some ⟨g4, 0, none⟩) P.ef.length P.ef.length]) (by simp [results, Try.results7, go_sem, y0, y1, y2, y3]) rfl ⟨⟨g1, g2, g3, g4, rfl, ?_⟩, ?_⟩
  · exact InP.drop (B := w.heap.size + 1 + 1 + 1) ⟨G1.kept cInt_keeps (K5 _ _ _ _ _), G2.kept cInt_keeps (K5 _ _ _ _ _), G3.kept cEnt_keeps (K5 _ _ _ _ _), d4.kept cEff_keeps (K5 _ _ _ _ _)⟩ (by omega)
  · exact (((((M4.setCell (by simp <;> omega) _).setCell (by simp <;> omega) _).setCell (by simp <;> omega) _).setCell (by simp <;> omega) _).setCell (by simp <;> omega) _)
end Go.Proofs.Ytaakjcjhmeeclaa
