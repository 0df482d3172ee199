import Derived.Test.YtjkkhimkcpmhealWf
namespace Go.Proofs.Ytjkkhimkcpmheal
open Go.RowKit

set_option maxHeartbeats 1000000 in
theorem exactSame_any (k i : Int) (x y : Nat) (l j : Int) (u v : Nat) (w : World) (lx : x < 18446744073709551616) (ly : y < 18446744073709551616) (lu : u < 18446744073709551616) (lv : v < 18446744073709551616) :
    Calls Try.prog 5 #[.agg #[.int .i64 k, .int .i64 i, .float .f64 x, .float .f64 y], .agg #[.int .i64 l, .int .i64 j, .float .f64 u, .float .f64 v]] w fun e w' => e = .returned (.bool true) ∧ Below w.heap.size w w' := by
  have hT := two_new w k i x y l j u v 24
  go_enter Try.func5, Try.ntmps5
  go_wp2_with fail
  go_cut [5] (fun s wx => s = .bool (eqB k i x y l j u v) ∧ Below w.heap.size w wx ∧ Two w.heap.size wx k i x y l j u v)
  case first =>
    go_region_with (first | (go_at_call 10; refine (toVal_any _ _ _ _ _).mono ?_; rintro e w' ⟨rfl, hb⟩; have hT := two_later hb hT; obtain ⟨c0, c1, c2, c3, c4, c5, c6, c7⟩ := id hT) | (go_at_call 15; refine (specSame_any _ _ _ _ _ _ _ _ _ lx ly lu lv).mono ?_; rintro e w' ⟨rfl, hb⟩; subst hb))
    all_goals
      go_wp2_with fail
      go_meet
      refine ⟨rfl, ?_, ?_⟩
      · (repeat (first | with_reducible exact Below.refl _ _ | with_reducible refine bl_alloc ?_ _ | with_reducible refine bl_drewN ?_ _ | with_reducible refine bl_drew ?_ | with_reducible refine bl_setCell ?_ (by first | exact Nat.le_refl _ | simp | (simp; omega)) _ | with_reducible refine bl_trans ?_ (by with_reducible assumption)))
      · exact two_later (bl_alloc (bl_alloc (Below.refl _ _) _) _) hT
  case rest =>
    obtain ⟨rfl, hB, hT⟩ := hcut
    obtain ⟨c0, c1, c2, c3, c4, c5, c6, c7⟩ := id hT
    go_wp2_with fail
    go_region_with (first | (go_at_call 10; refine (toVal_any _ _ _ _ _).mono ?_; rintro e w' ⟨rfl, hb⟩; have hT := two_later hb hT; obtain ⟨c0, c1, c2, c3, c4, c5, c6, c7⟩ := id hT) | (go_at_call 16; refine (implSame_any _ _ _ _ _ _ _ _ _).mono ?_; rintro e w' ⟨rfl, hb⟩; subst hb))
    all_goals
      go_wp2_with fail
      go_ret
      refine ⟨rfl, ?_⟩
      (repeat (first | with_reducible exact Below.refl _ _ | with_reducible refine bl_alloc ?_ _ | with_reducible refine bl_drewN ?_ _ | with_reducible refine bl_drew ?_ | with_reducible refine bl_setCell ?_ (by first | exact Nat.le_refl _ | simp | (simp; omega)) _ | with_reducible refine bl_trans ?_ (by with_reducible assumption)))
end Go.Proofs.Ytjkkhimkcpmheal
