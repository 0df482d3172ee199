import Derived.Test.YtknallkcengbbaaGreatDoorJa
namespace Go.Proofs.YtknallkcengbbaaGreatDoor
open Go.RowKit
set_option linter.unusedVariables false
set_option linter.unusedSimpArgs false

theorem Tryz.infoNd : (Tryz.prog.info? 57).map (fun i => (i.zero, i.size, i.bytes)) = some (some (.agg #[.int .i64 0, .string { data := #[] }, .int .i64 0, .slice none 0 0]), 4, 56) := by kernel_rfl

set_option maxHeartbeats 4000000 in
theorem toNode_made (s : Option Addr) (cap : Nat) (n : Nd) (B : Nat) (w : World) (hL : Els 1 cInt w B s n.kids) (hk : kNode n) :
    Calls Tryz.prog 33 #[.agg #[.int .i64 n.kind, .string n.text, .int .i64 n.num, .slice s n.kids.length cap]] w fun e w' => (∃ g : Nat, e = .returned (.agg #[.int .i64 n.kind, .string n.text, .int .i64 n.num, .slice (some ⟨g, 0, none⟩) n.kids.length n.kids.length]) ∧ Els 1 cInt w' w.heap.size (some ⟨g, 0, none⟩) n.kids) ∧ Below w.heap.size w w' := by
  have hal := alloc_old
  have haf := alloc_oldf
  obtain ⟨k0, k1, k2⟩ := blk3t w #[.int .i64 n.kind, .string n.text, .int .i64 n.num, .slice s n.kids.length cap] #[.int .i64 0, .string { data := #[] }, .int .i64 0, .slice none 0 0] #[.int .i64 n.kind, .string n.text, .int .i64 n.num, .slice none 0 0] 53 57 57
  have L0 : Below w.heap.size w (((w.alloc (.cells #[.int .i64 n.kind, .string n.text, .int .i64 n.num, .slice s n.kids.length cap] 53)).alloc (.cells #[.int .i64 0, .string { data := #[] }, .int .i64 0, .slice none 0 0] 57)).alloc (.cells #[.int .i64 n.kind, .string n.text, .int .i64 n.num, .slice none 0 0] 57)) := by (repeat (first | with_reducible exact Below.refl _ _ | with_reducible refine bl_alloc ?_ _ | with_reducible refine bl_drewN ?_ _ | with_reducible refine bl_drew ?_ | with_reducible refine bl_setCell ?_ (by first | exact Nat.le_refl _ | (dsimp only; omega) | (simp <;> omega)) _ | with_reducible refine bl_trans ?_ (by with_reducible assumption)))
  have n0 : ¬ w.heap.size = w.heap.size + 1 + 1 := by omega
  have n1 : ¬ w.heap.size + 1 = w.heap.size + 1 + 1 := by omega
  have lx := k2.lt
  go_enter Tryz.func33, Tryz.ntmps33
  go_wp2_with fail
  refine (toInts_made s cap n.kids B _ (hL.later cInt_keeps L0) hk.2).mono ?_
  rintro e w3 ⟨g, rfl, e3, d3, hb3⟩
  have d3 := d3.drop cInt_drops (B' := w.heap.size + 1 + 1 + 1) (by omega)
  have L3 := bl_trans L0 hb3
  have S1 := k1.later hb3
  have S2 := k2.later hb3
  clear k0 k1 k2 L0 hb3
  obtain ⟨z0, z1, z2, z3, z4⟩ := S2.four'
  obtain ⟨y0, y1, y2, y3, y4⟩ := S1.four'
  go_wp2_with fail
  refine bodyPost_ret (v := .agg #[.int .i64 n.kind, .string n.text, .int .i64 n.num, .slice (some ⟨g, 0, none⟩) n.kids.length n.kids.length]) (by simp [results, Tryz.results33, go_sem, y0, y1, y2, y3]) rfl ⟨⟨g, rfl, ?_⟩, ?_⟩
  · refine (d3.kept cInt_keeps ?_).drop cInt_drops (by omega)
    repeat (first | with_reducible exact Kept.refl _ _ | with_reducible refine Kept.trans ?_ (Kept.set _ (by simp <;> omega) _))
  · repeat (first | with_reducible exact L3 | with_reducible refine Below.setCell ?_ (by simp <;> omega) _)

set_option maxHeartbeats 4000000 in
theorem toNodeS_made (s : Option Addr) (c : Nat) (L : List Nd) (B : Nat) (w : World) (hL : Els 4 cNode w B s L) (hl : L.length ≤ 1048576) (hk : ∀ n ∈ L, kNode n) :
    Calls Tryz.prog 21 #[.slice s L.length c] w fun e w' => Made 4 cNode w L e w' := by
  have HK : Hid (∀ n ∈ L, kNode n) := hk
  clear hk
  obtain ⟨i0, hi, hz0, hz1, hz2⟩ := info_parts Tryz.infoNd
  go_enter Tryz.func21, Tryz.ntmps21
  go_wp2_with (at_make; refine wpList_make_full _ rfl _ _ 27 rfl w.heap.size 57 i0 (.agg #[.int .i64 0, .string { data := #[] }, .int .i64 0, .slice none 0 0]) 4 Tryz.underlying27 hi hz0 hz1 .i64 .i64 _ _ L.length rfl rfl rfl rfl (by rw [hz2]; omega) (by unfold maxLen; omega) (Nat.le_refl _) ?_)
  intro w1 hown hgrow
  have hrow : Hid (Mk 4 cNode [.int .i64 0, .string { data := #[] }, .int .i64 0, .slice none 0 0] 57 w1 w.heap.size w.heap.size L 0) := Mk.start (z := #[.int .i64 0, .string { data := #[] }, .int .i64 0, .slice none 0 0]) rfl hown
  have hbel : Hid (Below w.heap.size w w1) := (Below.refl _ w).grown hgrow (Nat.le_refl _) (fun k h => by cases h)
  clear hown hgrow hi hz0 hz1 hz2
  go_wp2_with fail
  go_loopw [4] (fun i wr => ∃ k : Nat, k ≤ L.length ∧ i = .int .i64 k ∧ Hid (Mk 4 cNode [.int .i64 0, .string { data := #[] }, .int .i64 0, .slice none 0 0] 57 wr w.heap.size w.heap.size L k) ∧ Hid (Below w.heap.size w wr)) (fun i _ => L.length - (intOf i).toNat)
  case atStart => exact ⟨0, Nat.zero_le _, rfl, hrow, hbel⟩
  case round =>
    obtain ⟨k, hk, rfl, hrow, hbel⟩ := hrel
    by_cases hlt : k < L.length
    · obtain ⟨a, ha⟩ := get_some hlt
      obtain ⟨b, o, rfl, hB, hp, s', c', e0, e1, e2, e3, f⟩ := eNode_cells (hL.later cNode_keeps hbel.out) ha
      have hka := HK.out a (List.mem_of_getElem? ha)
      have hgr := (hrow.out.at hlt).2.1
      clear hL
      go_wp2_with fail
      refine (toNode_made s' c' a B _ f hka).mono ?_
      rintro e w2 ⟨⟨g, rfl, d1⟩, hb2⟩
      have hr2 := hrow.out.later cNode_keeps hb2
      have L2 : Hid (Below w.heap.size w w2) := bl_trans hbel.out hb2
      obtain ⟨_, hg, fz, cz⟩ := hr2.at hlt
      have g0 := cz 0 _ rfl
      have g1 := cz 1 _ rfl
      have g2 := cz 2 _ rfl
      have g3 := cz 3 _ rfl
      rw [Nat.add_zero] at g0
      have hputH : Hid (Mk 4 cNode [.int .i64 0, .string { data := #[] }, .int .i64 0, .slice none 0 0] 57 ((((w2.setCell ⟨w.heap.size, k * 4, none⟩ (.int .i64 a.kind)).setCell ⟨w.heap.size, k * 4 + 1, none⟩ (.string a.text)).setCell ⟨w.heap.size, k * 4 + 2, none⟩ (.int .i64 a.num)).setCell ⟨w.heap.size, k * 4 + 3, none⟩ (.slice (some ⟨g, 0, none⟩) a.kids.length a.kids.length)) w.heap.size w.heap.size L (k + 1)) :=
        hr2.push cNode_keeps ha (c := [.int .i64 a.kind, .string a.text, .int .i64 a.num, .slice (some ⟨g, 0, none⟩) a.kids.length a.kids.length]) rfl ⟨_, _, rfl, d1.drop cInt_drops (by omega)⟩ (by repeat (first | with_reducible exact Kept.refl _ _ | with_reducible refine Kept.trans ?_ (Kept.set _ (by simp) _))) (fun A C hA h => put4 hA h)
      clear hr2 hrow ha cz f d1 hka
      go_wp2_with fail
      go_roundw
      case rel =>
        refine ⟨k + 1, by omega, by go_num, hputH, ?_⟩
        show Below _ _ _
        repeat (first | with_reducible exact L2.out | with_reducible refine Below.setCell ?_ (by simp) _)
      case measure => simp [intOf]; omega
    · have hm' : k = L.length := by omega
      subst hm'
      go_wp2_with fail
      go_ret
      exact ⟨_, rfl, Nat.le_refl _, hrow.out.done cNode_drops, hbel.out⟩

set_option maxHeartbeats 4000000 in
theorem toTree_made (s1 s2 : Option Addr) (c1 c2 : Nat) (t : Tre) (B : Nat) (w : World) (hT : InT w B s1 s2 t) (hk : kTre t) :
    Calls Tryz.prog 7 #[.agg #[.slice s1 t.nodes.length c1, .slice s2 t.tops.length c2]] w fun e w' => (∃ a b : Nat, e = .returned (.agg #[.slice (some ⟨a, 0, none⟩) t.nodes.length t.nodes.length, .slice (some ⟨b, 0, none⟩) t.tops.length t.tops.length]) ∧ InT w' w.heap.size (some ⟨a, 0, none⟩) (some ⟨b, 0, none⟩) t) ∧ Below w.heap.size w w' := by
  have hal := alloc_old
  have haf := alloc_oldf
  obtain ⟨⟨m1, m2⟩, m3⟩ := hk
  obtain ⟨k0, k1, k2⟩ := blk3t w #[.slice s1 t.nodes.length c1, .slice s2 t.tops.length c2] #[.slice none 0 0, .slice none 0 0] #[.slice none 0 0, .slice none 0 0] 25 29 29
  go_enter Tryz.func7, Tryz.ntmps7
  go_wp2_with fail
  refine (toNodeS_made s1 c1 t.nodes B _ (hT.n.later cNode_keeps (by (repeat (first | with_reducible exact Below.refl _ _ | with_reducible refine bl_alloc ?_ _ | with_reducible refine bl_drewN ?_ _ | with_reducible refine bl_drew ?_ | with_reducible refine bl_setCell ?_ (by first | exact Nat.le_refl _ | (dsimp only; omega) | (simp <;> omega)) _ | with_reducible refine bl_trans ?_ (by with_reducible assumption))))) m1 m2).mono ?_
  rintro e w1 ⟨g1, rfl, e1, d1, hb1⟩
  simp only [World.size_alloc] at e1
  have L1 : Below w.heap.size w w1 := by (repeat (first | with_reducible exact Below.refl _ _ | with_reducible refine bl_alloc ?_ _ | with_reducible refine bl_drewN ?_ _ | with_reducible refine bl_drew ?_ | with_reducible refine bl_setCell ?_ (by first | exact Nat.le_refl _ | (dsimp only; omega) | (simp <;> omega)) _ | with_reducible refine bl_trans ?_ (by with_reducible assumption)))
  have d1 := d1.drop cNode_drops e1
  have P0 := (k0.later hb1).other (m := w.heap.size + 1 + 1) (by omega) 0 (.slice (some ⟨g1, 0, none⟩) t.nodes.length t.nodes.length)
  have P1 := (k1.later hb1).other (m := w.heap.size + 1 + 1) (by omega) 0 (.slice (some ⟨g1, 0, none⟩) t.nodes.length t.nodes.length)
  have P2 := (k2.later hb1).set 0 (.slice (some ⟨g1, 0, none⟩) t.nodes.length t.nodes.length)
  have D1 := d1.kept cNode_keeps (Kept.set w1 (p := ⟨w.heap.size + 1 + 1, 0, none⟩) (by simp) (.slice (some ⟨g1, 0, none⟩) t.nodes.length t.nodes.length))
  have LX := L1.setCell (p := ⟨w.heap.size + 1 + 1, 0, none⟩) (by simp; omega) (.slice (some ⟨g1, 0, none⟩) t.nodes.length t.nodes.length)
  obtain ⟨z0, z1, z2⟩ := (k2.later hb1).two
  obtain ⟨x0, x1, x2⟩ := (k0.later hb1).two
  have n0 : ¬ w.heap.size = w.heap.size + 1 + 1 := by omega
  clear k0 k1 k2 hb1 d1 L1 m2
  go_wp2_with fail
  clear x0 x1 x2 z0 z1 z2
  generalize hX : w1.setCell ⟨w.heap.size + 1 + 1, 0, none⟩ (.slice (some ⟨g1, 0, none⟩) t.nodes.length t.nodes.length) = X at P0 P1 P2 D1 LX ⊢
  clear hX
  have P2 : Blk X (w.heap.size + 1 + 1) #[.slice (some ⟨g1, 0, none⟩) t.nodes.length t.nodes.length, .slice none 0 0] 29 := P2
  refine (toInts_made s2 c2 t.tops B _ (hT.t.later cInt_keeps LX) m3).mono ?_
  rintro e w3 ⟨g3, rfl, e3, d3, hb3⟩
  have ly : w.heap.size + 1 + 1 < X.heap.size := P2.lt
  have d3 := d3.drop cInt_drops (B' := w.heap.size + 1 + 1 + 1) (by omega)
  have L3 := bl_trans LX hb3
  have R1 := (P1.later hb3)
  have R2 := (P2.later hb3)
  have G1 := D1.later cNode_keeps hb3
  clear P0 P1 P2 D1 LX hb3
  obtain ⟨z0, z1, z2⟩ := R2.two
  obtain ⟨y0, y1, y2⟩ := R1.two
  have n1 : ¬ w.heap.size + 1 = w.heap.size + 1 + 1 := by omega
  go_wp2_with fail
  refine bodyPost_ret (v := .agg #[.slice (some ⟨g1, 0, none⟩) t.nodes.length t.nodes.length, .slice (some ⟨g3, 0, none⟩) t.tops.length t.tops.length]) (by simp [results, Tryz.results7, go_sem, y0, y1]) rfl ⟨⟨g1, g3, rfl, ?_⟩, ?_⟩
  · refine InT.drop (B := w.heap.size + 1 + 1 + 1) (InT.kept (w := w3) ⟨G1, d3⟩ ?_) (by omega)
    repeat (first | with_reducible exact Kept.refl _ _ | with_reducible refine Kept.trans ?_ (Kept.set _ (by simp <;> omega) _))
  · repeat (first | with_reducible exact L3 | with_reducible refine Below.setCell ?_ (by simp <;> omega) _)
end Go.Proofs.YtknallkcengbbaaGreatDoor
