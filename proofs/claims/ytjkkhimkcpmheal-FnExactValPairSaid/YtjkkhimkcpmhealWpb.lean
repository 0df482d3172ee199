import Derived.Test.YtjkkhimkcpmhealWbx
import Derived.Test.YtjkkhimkcpmhealWpa
namespace Go.Proofs.Ytjkkhimkcpmheal
open Go.RowKit

set_option maxHeartbeats 8000000 in
theorem exactPair_any (k i : Int) (x y : Nat) (l j : Int) (u v : Nat) (w : World) (lx : x < 18446744073709551616) (ly : y < 18446744073709551616) (lu : u < 18446744073709551616) (lv : v < 18446744073709551616) :
    Calls Try.prog 8 #[.agg #[.int .i64 k, .int .i64 i, .float .f64 x, .float .f64 y], .agg #[.int .i64 l, .int .i64 j, .float .f64 u, .float .f64 v]] w fun e w' => e = .returned (.bool true) ∧ Below w.heap.size w w' := by
  have hT := two_new w k i x y l j u v 24
  have hal := alloc_old
  have haf := alloc_oldf
  go_enter Try.func8, Try.ntmps8
  go_wp2_with fail
  go_cut [5, 6] (fun s t wx => ∃ (b : Nat) (c : Bool), s = .pointer (some ⟨b, 0, none⟩) ∧ t = .bool c ∧ Hid (c = (pairC k i x y l j u v)) ∧ Below w.heap.size w wx ∧ Two w.heap.size wx k i x y l j u v ∧ Box b wx (pk c) 0 (px c x) (px c u))
  case first =>
    go_region_with (first | (go_at_call_of 10 (Value.agg #[.int .i64 k, .int .i64 i, .float .f64 x, .float .f64 y]); refine (toVal_any _ _ _ _ _).mono ?_; rintro e wa ⟨rfl, hb⟩; obtain ⟨c0, c1, c2, c3, c4, c5, c6, c7⟩ := two_later (show Below _ _ wa by (repeat (first | with_reducible exact Below.refl _ _ | with_reducible refine bl_alloc ?_ _ | with_reducible refine bl_drewN ?_ _ | with_reducible refine bl_drew ?_ | with_reducible refine bl_setCell ?_ (by first | exact Nat.le_refl _ | (dsimp only; omega) | (simp <;> omega)) _ | with_reducible refine bl_trans ?_ (by with_reducible assumption)))) hT; obtain ⟨hc, hf⟩ := bcell2 hb; (first | (refine box_then hb hZ ?_; intro hZ; obtain ⟨z0, z1, z2, z3⟩ := id hZ) | (refine box_then (n := w.heap.size + 1 + 1) (k := 0) (i := 0) (x := 0) (y := 0) hb ?_ ?_; (focus (refine ⟨?_, ?_, ?_, ?_⟩ <;> (go_simp; done))); intro hZ; obtain ⟨z0, z1, z2, z3⟩ := id hZ) | skip); have hz := hb.size; try simp at hz) | (go_at_call_of 10 (Value.agg #[.int .i64 l, .int .i64 j, .float .f64 u, .float .f64 v]); refine (toVal_any _ _ _ _ _).mono ?_; rintro e wb ⟨rfl, hb⟩; obtain ⟨c0, c1, c2, c3, c4, c5, c6, c7⟩ := two_later (show Below _ _ wb by (repeat (first | with_reducible exact Below.refl _ _ | with_reducible refine bl_alloc ?_ _ | with_reducible refine bl_drewN ?_ _ | with_reducible refine bl_drew ?_ | with_reducible refine bl_setCell ?_ (by first | exact Nat.le_refl _ | (dsimp only; omega) | (simp <;> omega)) _ | with_reducible refine bl_trans ?_ (by with_reducible assumption)))) hT; obtain ⟨hc, hf⟩ := bcell2 hb; (first | (refine box_then hb hZ ?_; intro hZ; obtain ⟨z0, z1, z2, z3⟩ := id hZ) | (refine box_then (n := wa.heap.size) (k := 0) (i := 0) (x := 0) (y := 0) hb ?_ ?_; (focus (refine ⟨?_, ?_, ?_, ?_⟩ <;> (go_simp; done))); intro hZ; obtain ⟨z0, z1, z2, z3⟩ := id hZ) | skip); have hz := hb.size; try simp at hz) | (go_at_call 21; refine (specPair_any _ _ _ _ _ _ _ _ _ lx ly lu lv).mono ?_; rintro e wp ⟨rfl, hb⟩; obtain ⟨hc, hf⟩ := bcell2 hb; (first | (refine box_then hb hZ ?_; intro hZ; obtain ⟨z0, z1, z2, z3⟩ := id hZ) | (refine box_then (n := wb.heap.size) (k := 0) (i := 0) (x := 0) (y := 0) hb ?_ ?_; (focus (refine ⟨?_, ?_, ?_, ?_⟩ <;> (go_simp; done))); intro hZ; obtain ⟨z0, z1, z2, z3⟩ := id hZ) | skip); have hz := hb.size; try simp at hz))
    all_goals
      go_wp2_with fail
      go_meet
      refine ⟨_, _, rfl, rfl, rfl, ?_, ?_, ?_⟩
      · (repeat (first | with_reducible exact Below.refl _ _ | with_reducible refine bl_alloc ?_ _ | with_reducible refine bl_drewN ?_ _ | with_reducible refine bl_drew ?_ | with_reducible refine bl_setCell ?_ (by first | exact Nat.le_refl _ | (dsimp only; omega) | (simp <;> omega)) _ | with_reducible refine bl_trans ?_ (by with_reducible assumption)))
      · refine two_later (w1 := _) ?_ hT
        (repeat (first | with_reducible exact Below.refl _ _ | with_reducible refine bl_alloc ?_ _ | with_reducible refine bl_drewN ?_ _ | with_reducible refine bl_drew ?_ | with_reducible refine bl_setCell ?_ (by first | exact Nat.le_refl _ | (dsimp only; omega) | (simp <;> omega)) _ | with_reducible refine bl_trans ?_ (by with_reducible assumption)))
      · first | (with_reducible exact box_set hZ) | (with_reducible exact box_new _ _ _ _ _ _) | (refine ⟨?_, ?_, ?_, ?_⟩ <;> go_simp)
  case rest =>
    obtain ⟨b1, c, rfl, rfl, hcc, hB, hT, hU⟩ := hcut
    obtain ⟨c0, c1, c2, c3, c4, c5, c6, c7⟩ := id hT
    have hzB := hB.size
    clear hal haf
    have hal := alloc_old
    have haf := alloc_oldf
    go_wp2_with fail
    go_cut [7, 8] (fun s t wx => ∃ (b2 : Nat) (c2 : Bool), s = .pointer (some ⟨b2, 0, none⟩) ∧ t = .bool c2 ∧ Hid (c2 = (pairC k i x y l j u v)) ∧ Below w.heap.size w wx ∧ Box b1 wx (pk c) 0 (px c x) (px c u) ∧ Box b2 wx (pk c2) 0 (px c2 x) (px c2 u))
    case first =>
      go_region_with (first | (go_at_call_of 10 (Value.agg #[.int .i64 k, .int .i64 i, .float .f64 x, .float .f64 y]); refine (toVal_any _ _ _ _ _).mono ?_; rintro e wa ⟨rfl, hb⟩; obtain ⟨c0, c1, c2, c3, c4, c5, c6, c7⟩ := two_later (show Below _ _ wa by (repeat (first | with_reducible exact Below.refl _ _ | with_reducible refine bl_alloc ?_ _ | with_reducible refine bl_drewN ?_ _ | with_reducible refine bl_drew ?_ | with_reducible refine bl_setCell ?_ (by first | exact Nat.le_refl _ | (dsimp only; omega) | (simp <;> omega)) _ | with_reducible refine bl_trans ?_ (by with_reducible assumption)))) hT; obtain ⟨hc, hf⟩ := bcell2 hb; (first | (refine box_then hb hZ ?_; intro hZ; obtain ⟨z0, z1, z2, z3⟩ := id hZ) | (refine box_then (n := wc.heap.size) (k := 0) (i := 0) (x := 0) (y := 0) hb ?_ ?_; (focus (refine ⟨?_, ?_, ?_, ?_⟩ <;> (go_simp; done))); intro hZ; obtain ⟨z0, z1, z2, z3⟩ := id hZ) | skip); have hz := hb.size; try simp at hz) | (go_at_call_of 10 (Value.agg #[.int .i64 l, .int .i64 j, .float .f64 u, .float .f64 v]); refine (toVal_any _ _ _ _ _).mono ?_; rintro e wb ⟨rfl, hb⟩; obtain ⟨c0, c1, c2, c3, c4, c5, c6, c7⟩ := two_later (show Below _ _ wb by (repeat (first | with_reducible exact Below.refl _ _ | with_reducible refine bl_alloc ?_ _ | with_reducible refine bl_drewN ?_ _ | with_reducible refine bl_drew ?_ | with_reducible refine bl_setCell ?_ (by first | exact Nat.le_refl _ | (dsimp only; omega) | (simp <;> omega)) _ | with_reducible refine bl_trans ?_ (by with_reducible assumption)))) hT; obtain ⟨hc, hf⟩ := bcell2 hb; (first | (refine box_then hb hZ ?_; intro hZ; obtain ⟨z0, z1, z2, z3⟩ := id hZ) | (refine box_then (n := wa.heap.size) (k := 0) (i := 0) (x := 0) (y := 0) hb ?_ ?_; (focus (refine ⟨?_, ?_, ?_, ?_⟩ <;> (go_simp; done))); intro hZ; obtain ⟨z0, z1, z2, z3⟩ := id hZ) | skip); have hz := hb.size; try simp at hz) | (go_at_call 22; refine (implPair_any _ _ _ _ _ _ _ _ _).mono ?_; rintro e wp ⟨rfl, hb⟩; obtain ⟨hc, hf⟩ := bcell2 hb; (first | (refine box_then hb hZ ?_; intro hZ; obtain ⟨z0, z1, z2, z3⟩ := id hZ) | (refine box_then (n := wb.heap.size) (k := 0) (i := 0) (x := 0) (y := 0) hb ?_ ?_; (focus (refine ⟨?_, ?_, ?_, ?_⟩ <;> (go_simp; done))); intro hZ; obtain ⟨z0, z1, z2, z3⟩ := id hZ) | skip); have hz := hb.size; try simp at hz))
      all_goals
        go_wp2_with fail
        go_meet
        refine ⟨_, _, rfl, rfl, rfl, ?_, ?_, ?_⟩
        · (repeat (first | with_reducible exact Below.refl _ _ | with_reducible refine bl_alloc ?_ _ | with_reducible refine bl_drewN ?_ _ | with_reducible refine bl_drew ?_ | with_reducible refine bl_setCell ?_ (by first | exact Nat.le_refl _ | (dsimp only; omega) | (simp <;> omega)) _ | with_reducible refine bl_trans ?_ (by with_reducible assumption)))
        · refine box_later (w1 := _) ?_ hU
          (repeat (first | with_reducible exact Below.refl _ _ | with_reducible refine bl_alloc ?_ _ | with_reducible refine bl_drewN ?_ _ | with_reducible refine bl_drew ?_ | with_reducible refine bl_setCell ?_ (by first | exact Nat.le_refl _ | (dsimp only; omega) | (simp <;> omega)) _ | with_reducible refine bl_trans ?_ (by with_reducible assumption)))
        · first | (with_reducible exact box_set hZ) | (with_reducible exact box_new _ _ _ _ _ _) | (refine ⟨?_, ?_, ?_, ?_⟩ <;> go_simp)
    case rest =>
      obtain ⟨b2, c2, rfl, rfl, hcd, hB2, hU2, hG⟩ := hcut
      have hcd' := hcd.out.trans hcc.out.symm
      subst hcd'
      obtain ⟨e0, e1, e2, e3⟩ := hU2
      obtain ⟨f0, f1, f2, f3⟩ := hG
      have E : Hid (eqB (pk c2) 0 (px c2 x) (px c2 u) (pk c2) 0 (px c2 x) (px c2 u) = true) := by simp [Hid, eqB, sameB_refl]
      clear hcc hcd
      go_wp2_with fail
      refine (eqVal_any _ _ _ _ _ _ _ _ _ (px_lt lx) (px_lt lu) (px_lt lx) (px_lt lu)).mono ?_
      rintro e w5 ⟨rfl, hb5⟩
      rw [E.out]
      go_wp2_with fail
      go_ret
      refine ⟨rfl, ?_⟩
      (repeat (first | with_reducible exact Below.refl _ _ | with_reducible refine bl_alloc ?_ _ | with_reducible refine bl_drewN ?_ _ | with_reducible refine bl_drew ?_ | with_reducible refine bl_setCell ?_ (by first | exact Nat.le_refl _ | (dsimp only; omega) | (simp <;> omega)) _ | with_reducible refine bl_trans ?_ (by with_reducible assumption)))
end Go.Proofs.Ytjkkhimkcpmheal
