import Derived.Test.YtcllkmdlheggkaaDoorVf
namespace Go.Proofs.YtcllkmdlheggkaaDoor
open Go.RowKit Ieee
set_option linter.unusedVariables false
set_option linter.unusedSimpArgs false

set_option maxRecDepth 100000 in
set_option maxHeartbeats 4000000 in
theorem exactText_any (k i : Int) (x y : Nat) (w : World) (hx : x < 18446744073709551616) (hy : y < 18446744073709551616) (ib : -9223372036854775808 ≤ i ∧ i ≤ 9223372036854775807) (htab : Lib.TabIs Tryd.prog w "internal/strconv.uint64pow10" .u64 Lib.pow10Tab) :
    Calls Tryd.prog 4 #[.agg #[.int .i64 k, .int .i64 i, .float .f64 x, .float .f64 y]] w fun e w' => e = .returned (.bool true) ∧ Below w.heap.size w w' := by
  have HT : Hid (Lib.TabIs Tryd.prog w "internal/strconv.uint64pow10" .u64 Lib.pow10Tab) := htab
  clear htab
  have B0 := Blk.new w #[.int .i64 k, .int .i64 i, .float .f64 x, .float .f64 y] 36
  have L0 : Below w.heap.size w (w.alloc (.cells #[.int .i64 k, .int .i64 i, .float .f64 x, .float .f64 y] 36)) := by (repeat (first | with_reducible exact Below.refl _ _ | with_reducible refine bl_alloc ?_ _ | with_reducible refine bl_drewN ?_ _ | with_reducible refine bl_drew ?_ | with_reducible refine bl_setCell ?_ (by first | exact Nat.le_refl _ | (dsimp only; omega) | (simp <;> omega)) _ | with_reducible refine bl_trans ?_ (by with_reducible assumption)))
  go_enter Tryd.func4, Tryd.ntmps4
  go_wp2_with fail
  refine (toVal_any _ _ _ _ _).mono ?_
  rintro e w1 ⟨rfl, h1⟩
  go_wp2_with fail
  refine (specText_any _ _ _ _ _ hx hy ib.1 ib.2).mono ?_
  rintro e w2 ⟨rfl, h2⟩
  have M2 := bl_trans (bl_trans L0 h1) h2
  have B2 := (B0.later h1).later h2
  obtain ⟨c0, c1, c2, c3⟩ := four B2
  go_wp2_with fail
  refine (toVal_any _ _ _ _ _).mono ?_
  rintro e w3 ⟨rfl, h3⟩
  have M3 := bl_trans M2 h3
  go_wp2_with fail
  refine (implText_any _ _ _ _ _ hx hy ib.1 ib.2 (Lib.tabBelow_of_tabIs HT.out _ M3)).mono ?_
  rintro e w4 ⟨rfl, h4⟩
  have M4 := bl_trans M3 h4
  go_wp2_with fail
  go_ret
  exact ⟨rfl, M4⟩
end Go.Proofs.YtcllkmdlheggkaaDoor
