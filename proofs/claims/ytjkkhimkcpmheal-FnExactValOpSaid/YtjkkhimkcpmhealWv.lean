import Derived.Test.YtjkkhimkcpmhealWbx
import Derived.Test.YtjkkhimkcpmhealWu
namespace Go.Proofs.Ytjkkhimkcpmheal
open Go.RowKit

set_option maxHeartbeats 8000000 in
theorem exactOp_any (op k i : Int) (x y : Nat) (l j : Int) (u v : Nat) (w : World) (lx : x < 18446744073709551616) (ly : y < 18446744073709551616) (hi : -9223372036854775808 ≤ i ∧ i ≤ 9223372036854775807) (lu : u < 18446744073709551616) (lv : v < 18446744073709551616) (_hj : -9223372036854775808 ≤ j ∧ j ≤ 9223372036854775807) :
    Calls Try.prog 6 #[.int .i64 op, .agg #[.int .i64 k, .int .i64 i, .float .f64 x, .float .f64 y], .agg #[.int .i64 l, .int .i64 j, .float .f64 u, .float .f64 v]] w fun e w' => e = .returned (.bool true) ∧ Below w.heap.size w w' := by
  have hT := two_new w k i x y l j u v 24
  have hal := alloc_old
  have haf := alloc_oldf
  go_enter Try.func6, Try.ntmps6
  go_wp2_with fail
  go_cut [7, 8] (fun s t wx => ∃ (b : Nat) (k' i' : Int) (x' y' : Nat), s = .pointer (some ⟨b, 0, none⟩) ∧ t = .int .i64 (opOut op k i x y l j u v).2 ∧ VIs (opOut op k i x y l j u v).1 k' i' x' y' ∧ Below w.heap.size w wx ∧ Two w.heap.size wx k i x y l j u v ∧ Box b wx k' i' x' y')
  case first =>
    go_region_with (first | (go_at_call_of 10 (Value.agg #[.int .i64 k, .int .i64 i, .float .f64 x, .float .f64 y]); refine (toVal_any _ _ _ _ _).mono ?_; rintro e wa ⟨rfl, hb⟩; obtain ⟨c0, c1, c2, c3, c4, c5, c6, c7⟩ := two_later (show Below _ _ wa by (repeat (first | with_reducible exact Below.refl _ _ | with_reducible refine bl_alloc ?_ _ | with_reducible refine bl_drewN ?_ _ | with_reducible refine bl_drew ?_ | with_reducible refine bl_setCell ?_ (by first | exact Nat.le_refl _ | (dsimp only; omega) | (simp <;> omega)) _ | with_reducible refine bl_trans ?_ (by with_reducible assumption)))) hT; obtain ⟨hc, hf⟩ := bcell2 hb; (first | (refine box_then hb hZ ?_; intro hZ; obtain ⟨z0, z1, z2, z3⟩ := id hZ) | (refine box_then (n := w.heap.size + 1 + 1) (k := 0) (i := 0) (x := 0) (y := 0) hb ?_ ?_; (focus (refine ⟨?_, ?_, ?_, ?_⟩ <;> (go_simp; done))); intro hZ; obtain ⟨z0, z1, z2, z3⟩ := id hZ) | skip); have hz := hb.size; try simp at hz) | (go_at_call_of 10 (Value.agg #[.int .i64 l, .int .i64 j, .float .f64 u, .float .f64 v]); refine (toVal_any _ _ _ _ _).mono ?_; rintro e wb ⟨rfl, hb⟩; obtain ⟨c0, c1, c2, c3, c4, c5, c6, c7⟩ := two_later (show Below _ _ wb by (repeat (first | with_reducible exact Below.refl _ _ | with_reducible refine bl_alloc ?_ _ | with_reducible refine bl_drewN ?_ _ | with_reducible refine bl_drew ?_ | with_reducible refine bl_setCell ?_ (by first | exact Nat.le_refl _ | (dsimp only; omega) | (simp <;> omega)) _ | with_reducible refine bl_trans ?_ (by with_reducible assumption)))) hT; obtain ⟨hc, hf⟩ := bcell2 hb; (first | (refine box_then hb hZ ?_; intro hZ; obtain ⟨z0, z1, z2, z3⟩ := id hZ) | (refine box_then (n := wa.heap.size) (k := 0) (i := 0) (x := 0) (y := 0) hb ?_ ?_; (focus (refine ⟨?_, ?_, ?_, ?_⟩ <;> (go_simp; done))); intro hZ; obtain ⟨z0, z1, z2, z3⟩ := id hZ) | skip); have hz := hb.size; try simp at hz) | (go_at_call 17; refine (specOp_any _ _ _ _ _ _ _ _ _ _ lx ly lu lv hi).mono ?_; rintro e wp ⟨k', i', x', y', rfl, hv, hb⟩; obtain ⟨hc, hf⟩ := bcell2 hb; (first | (refine box_then hb hZ ?_; intro hZ; obtain ⟨z0, z1, z2, z3⟩ := id hZ) | (refine box_then (n := wb.heap.size) (k := 0) (i := 0) (x := 0) (y := 0) hb ?_ ?_; (focus (refine ⟨?_, ?_, ?_, ?_⟩ <;> (go_simp; done))); intro hZ; obtain ⟨z0, z1, z2, z3⟩ := id hZ) | skip); have hz := hb.size; try simp at hz))
    all_goals
      go_wp2_with fail
      go_meet
      refine ⟨_, k', i', x', y', rfl, rfl, hv, ?_, ?_, ?_⟩
      · (repeat (first | with_reducible exact Below.refl _ _ | with_reducible refine bl_alloc ?_ _ | with_reducible refine bl_drewN ?_ _ | with_reducible refine bl_drew ?_ | with_reducible refine bl_setCell ?_ (by first | exact Nat.le_refl _ | (dsimp only; omega) | (simp <;> omega)) _ | with_reducible refine bl_trans ?_ (by with_reducible assumption)))
      · refine two_later (w1 := _) ?_ hT
        (repeat (first | with_reducible exact Below.refl _ _ | with_reducible refine bl_alloc ?_ _ | with_reducible refine bl_drewN ?_ _ | with_reducible refine bl_drew ?_ | with_reducible refine bl_setCell ?_ (by first | exact Nat.le_refl _ | (dsimp only; omega) | (simp <;> omega)) _ | with_reducible refine bl_trans ?_ (by with_reducible assumption)))
      · first | (with_reducible exact box_set hZ) | (with_reducible exact box_new _ _ _ _ _ _) | (refine ⟨?_, ?_, ?_, ?_⟩ <;> go_simp)
  case rest =>
    obtain ⟨b1, k1, i1, x1, y1, rfl, rfl, hv1, hB, hT, hU⟩ := hcut
    obtain ⟨c0, c1, c2, c3, c4, c5, c6, c7⟩ := id hT
    have hzB := hB.size
    clear hal haf
    have hal := alloc_old
    have haf := alloc_oldf
    go_wp2_with fail
    go_cut [9, 10] (fun s t wx => ∃ (b2 : Nat) (k2 i2 : Int) (x2 y2 : Nat), s = .pointer (some ⟨b2, 0, none⟩) ∧ t = .int .i64 (opOut op k i x y l j u v).2 ∧ VIs (opOut op k i x y l j u v).1 k2 i2 x2 y2 ∧ Below w.heap.size w wx ∧ Box b1 wx k1 i1 x1 y1 ∧ Box b2 wx k2 i2 x2 y2)
    case first =>
      go_region_with (first | (go_at_call_of 10 (Value.agg #[.int .i64 k, .int .i64 i, .float .f64 x, .float .f64 y]); refine (toVal_any _ _ _ _ _).mono ?_; rintro e wa ⟨rfl, hb⟩; obtain ⟨c0, c1, c2, c3, c4, c5, c6, c7⟩ := two_later (show Below _ _ wa by (repeat (first | with_reducible exact Below.refl _ _ | with_reducible refine bl_alloc ?_ _ | with_reducible refine bl_drewN ?_ _ | with_reducible refine bl_drew ?_ | with_reducible refine bl_setCell ?_ (by first | exact Nat.le_refl _ | (dsimp only; omega) | (simp <;> omega)) _ | with_reducible refine bl_trans ?_ (by with_reducible assumption)))) hT; obtain ⟨hc, hf⟩ := bcell2 hb; (first | (refine box_then hb hZ ?_; intro hZ; obtain ⟨z0, z1, z2, z3⟩ := id hZ) | (refine box_then (n := wc.heap.size) (k := 0) (i := 0) (x := 0) (y := 0) hb ?_ ?_; (focus (refine ⟨?_, ?_, ?_, ?_⟩ <;> (go_simp; done))); intro hZ; obtain ⟨z0, z1, z2, z3⟩ := id hZ) | skip); have hz := hb.size; try simp at hz) | (go_at_call_of 10 (Value.agg #[.int .i64 l, .int .i64 j, .float .f64 u, .float .f64 v]); refine (toVal_any _ _ _ _ _).mono ?_; rintro e wb ⟨rfl, hb⟩; obtain ⟨c0, c1, c2, c3, c4, c5, c6, c7⟩ := two_later (show Below _ _ wb by (repeat (first | with_reducible exact Below.refl _ _ | with_reducible refine bl_alloc ?_ _ | with_reducible refine bl_drewN ?_ _ | with_reducible refine bl_drew ?_ | with_reducible refine bl_setCell ?_ (by first | exact Nat.le_refl _ | (dsimp only; omega) | (simp <;> omega)) _ | with_reducible refine bl_trans ?_ (by with_reducible assumption)))) hT; obtain ⟨hc, hf⟩ := bcell2 hb; (first | (refine box_then hb hZ ?_; intro hZ; obtain ⟨z0, z1, z2, z3⟩ := id hZ) | (refine box_then (n := wa.heap.size) (k := 0) (i := 0) (x := 0) (y := 0) hb ?_ ?_; (focus (refine ⟨?_, ?_, ?_, ?_⟩ <;> (go_simp; done))); intro hZ; obtain ⟨z0, z1, z2, z3⟩ := id hZ) | skip); have hz := hb.size; try simp at hz) | (go_at_call 18; refine (implOp_any _ _ _ _ _ _ _ _ _ _).mono ?_; rintro e wp ⟨k', i', x', y', rfl, hv, hb⟩; obtain ⟨hc, hf⟩ := bcell2 hb; (first | (refine box_then hb hZ ?_; intro hZ; obtain ⟨z0, z1, z2, z3⟩ := id hZ) | (refine box_then (n := wb.heap.size) (k := 0) (i := 0) (x := 0) (y := 0) hb ?_ ?_; (focus (refine ⟨?_, ?_, ?_, ?_⟩ <;> (go_simp; done))); intro hZ; obtain ⟨z0, z1, z2, z3⟩ := id hZ) | skip); have hz := hb.size; try simp at hz))
      all_goals
        go_wp2_with fail
        go_meet
        refine ⟨_, k', i', x', y', rfl, rfl, hv, ?_, ?_, ?_⟩
        · (repeat (first | with_reducible exact Below.refl _ _ | with_reducible refine bl_alloc ?_ _ | with_reducible refine bl_drewN ?_ _ | with_reducible refine bl_drew ?_ | with_reducible refine bl_setCell ?_ (by first | exact Nat.le_refl _ | (dsimp only; omega) | (simp <;> omega)) _ | with_reducible refine bl_trans ?_ (by with_reducible assumption)))
        · refine box_later (w1 := _) ?_ hU
          (repeat (first | with_reducible exact Below.refl _ _ | with_reducible refine bl_alloc ?_ _ | with_reducible refine bl_drewN ?_ _ | with_reducible refine bl_drew ?_ | with_reducible refine bl_setCell ?_ (by first | exact Nat.le_refl _ | (dsimp only; omega) | (simp <;> omega)) _ | with_reducible refine bl_trans ?_ (by with_reducible assumption)))
        · first | (with_reducible exact box_set hZ) | (with_reducible exact box_new _ _ _ _ _ _) | (refine ⟨?_, ?_, ?_, ?_⟩ <;> go_simp)
    case rest =>
      obtain ⟨b2, k2, i2, x2, y2, rfl, rfl, hv2, hB2, hU2, hG⟩ := hcut
      obtain ⟨e0, e1, e2, e3⟩ := hU2
      obtain ⟨f0, f1, f2, f3⟩ := hG
      have E : Hid (eqB k2 i2 x2 y2 k1 i1 x1 y1 = true) := eqB_of hv2 hv1
      go_wp2_with fail
      refine (eqVal_any _ _ _ _ _ _ _ _ _ hv2.2.2.1.1 hv2.2.2.2.1 hv1.2.2.1.1 hv1.2.2.2.1).mono ?_
      rintro e w5 ⟨rfl, hb5⟩
      rw [E.out]
      go_wp2_with fail
      go_ret
      refine ⟨rfl, ?_⟩
      (repeat (first | with_reducible exact Below.refl _ _ | with_reducible refine bl_alloc ?_ _ | with_reducible refine bl_drewN ?_ _ | with_reducible refine bl_drew ?_ | with_reducible refine bl_setCell ?_ (by first | exact Nat.le_refl _ | (dsimp only; omega) | (simp <;> omega)) _ | with_reducible refine bl_trans ?_ (by with_reducible assumption)))
end Go.Proofs.Ytjkkhimkcpmheal
