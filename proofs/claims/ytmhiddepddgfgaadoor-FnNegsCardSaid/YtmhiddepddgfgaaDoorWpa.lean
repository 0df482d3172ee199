import Derived.Test.YtmhiddepddgfgaaDoorWo
namespace Go.Proofs.YtmhiddepddgfgaaDoor
open Go.RowKit
set_option linter.unusedSimpArgs false

def pairC (k i : Int) (x y : Nat) (l j : Int) (u v : Nat) : Bool := okB k i x y && okB l j u v && k == 2 && l == 2
def pk (c : Bool) : Int := if c then 3 else 0
def px (c : Bool) (x : Nat) : Nat := if c then x else 0

theorem ret_pair {c : Bool} {x u : Nat} (h : true = c) : Ending.returned (.tuple #[.agg #[.int .i64 3, .int .i64 0, .float .f64 x, .float .f64 u], .bool true]) = .returned (.tuple #[.agg #[.int .i64 (pk c), .int .i64 0, .float .f64 (px c x), .float .f64 (px c u)], .bool c]) := by
  subst h; rfl
theorem ret_pair0 {c : Bool} {x u : Nat} (h : false = c) : Ending.returned (.tuple #[.agg #[.int .i64 0, .int .i64 0, .float .f64 0, .float .f64 0], .bool false]) = .returned (.tuple #[.agg #[.int .i64 (pk c), .int .i64 0, .float .f64 (px c x), .float .f64 (px c u)], .bool c]) := by
  subst h; rfl
theorem px_lt {c : Bool} {x : Nat} (h : x < 18446744073709551616) : px c x < 18446744073709551616 := by
  unfold px; split
  · exact h
  · decide

set_option maxHeartbeats 1000000 in
theorem implPair_any (k i : Int) (x y : Nat) (l j : Int) (u v : Nat) (w : World) :
    Calls Tryd.prog 10 #[.agg #[.int .i64 k, .int .i64 i, .float .f64 x, .float .f64 y], .agg #[.int .i64 l, .int .i64 j, .float .f64 u, .float .f64 v]] w fun e w' => e = .returned (.tuple #[.agg #[.int .i64 (pk (pairC k i x y l j u v)), .int .i64 0, .float .f64 (px (pairC k i x y l j u v) x), .float .f64 (px (pairC k i x y l j u v) u)], .bool (pairC k i x y l j u v)]) ∧ Below w.heap.size w w' := by
  cases hx : okB k i x y <;> cases hu : okB l j u v <;> cases hk : ((k == 2) : Bool) <;> cases hl : ((l == 2) : Bool)
  all_goals
    have gk : (k != 2) = !(k == 2) := rfl
    have gl : (l != 2) = !(l == 2) := rfl
    rw [hk] at gk
    rw [hl] at gl
    simp only [Bool.not_true, Bool.not_false] at gk gl
  case true.true.true.true =>
    have E : Hid (true = pairC k i x y l j u v) := by simp [Hid, pairC, hx, hu, hk, hl]
    go_enter Tryd.func10, Tryd.ntmps10
    go_wp2_with (first | (go_at_call 19; refine (implOk_any _ _ _ _ _).mono ?_; rintro e w' ⟨rfl, rfl⟩) | (go_at_call 28; refine (pairVal_any _ _ _).mono ?_; rintro e w' ⟨rfl, rfl⟩))
    refine bodyPost_ret (v := .tuple #[.agg #[.int .i64 3, .int .i64 0, .float .f64 x, .float .f64 u], .bool true]) (by simp [results, Tryd.results10, go_sem]) rfl ⟨ret_pair E.out, ?_⟩
    (repeat (first | with_reducible exact Below.refl _ _ | with_reducible refine bl_alloc ?_ _ | with_reducible refine bl_drewN ?_ _ | with_reducible refine bl_drew ?_ | with_reducible refine bl_setCell ?_ (by first | exact Nat.le_refl _ | (dsimp only; omega) | (simp <;> omega)) _ | with_reducible refine bl_trans ?_ (by with_reducible assumption)))
  all_goals
    have E : Hid (false = pairC k i x y l j u v) := by simp [Hid, pairC, hx, hu, hk, hl]
    go_enter Tryd.func10, Tryd.ntmps10
    go_wp2_with (go_at_call 19; refine (implOk_any _ _ _ _ _).mono ?_; rintro e w' ⟨rfl, rfl⟩)
    refine bodyPost_ret (v := .tuple #[.agg #[.int .i64 0, .int .i64 0, .float .f64 0, .float .f64 0], .bool false]) (by simp [results, Tryd.results10, go_sem]) rfl ⟨ret_pair0 E.out, ?_⟩
    (repeat (first | with_reducible exact Below.refl _ _ | with_reducible refine bl_alloc ?_ _ | with_reducible refine bl_drewN ?_ _ | with_reducible refine bl_drew ?_ | with_reducible refine bl_setCell ?_ (by first | exact Nat.le_refl _ | (dsimp only; omega) | (simp <;> omega)) _ | with_reducible refine bl_trans ?_ (by with_reducible assumption)))

end Go.Proofs.YtmhiddepddgfgaaDoor
