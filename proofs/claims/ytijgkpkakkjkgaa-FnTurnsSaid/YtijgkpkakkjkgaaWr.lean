import Derived.Test.YtijgkpkakkjkgaaWq
namespace Go.Proofs.Ytijgkpkakkjkgaa
open Go.RowKit

/-- what an op on two values comes to. -/
def opOut (op k i : Int) (x y : Nat) (l j : Int) (u v : Nat) : V × Int :=
  if okB k i x y = true ∧ okB l j u v = true ∧ k = l then
    if k = 1 then intOut op i j else if k = 2 then realOut op x u else if k = 3 then pairOut op x y u v else boolOut op (i == 1) (j == 1)
  else (zV, 1)

set_option maxHeartbeats 1000000 in
theorem implOp_any (op k i : Int) (x y : Nat) (l j : Int) (u v : Nat) (w : World) :
    Calls Try.prog 22 #[.int .i64 op, .agg #[.int .i64 k, .int .i64 i, .float .f64 x, .float .f64 y], .agg #[.int .i64 l, .int .i64 j, .float .f64 u, .float .f64 v]] w fun e w' => Leaves2 (opOut op k i x y l j u v) w e w' := by
  cases hx : okB k i x y
  · have E : Hid (opOut op k i x y l j u v = (zV, 1)) := by simp [Hid, opOut, hx]
    go_enter Try.func22, Try.ntmps22
    go_wp2_with (go_at_call 25; refine (implOk_any _ _ _ _ _).mono ?_; rintro e w' ⟨rfl, rfl⟩)
    refine bodyPost_ret (v := .tuple #[.agg #[.int .i64 0, .int .i64 0, .float .f64 0, .float .f64 0], .int .i64 1]) (by simp [results, Try.results22, go_sem]) rfl (leaves_z E.out rfl ?_)
    (repeat (first | with_reducible exact Below.refl _ _ | with_reducible refine bl_alloc ?_ _ | with_reducible refine bl_drewN ?_ _ | with_reducible refine bl_drew ?_ | with_reducible refine bl_setCell ?_ (by first | exact Nat.le_refl _ | (dsimp only; omega) | (simp <;> omega)) _ | with_reducible refine bl_trans ?_ (by with_reducible assumption)))
  cases hu : okB l j u v
  · have E : Hid (opOut op k i x y l j u v = (zV, 1)) := by simp [Hid, opOut, hu]
    go_enter Try.func22, Try.ntmps22
    go_wp2_with (go_at_call 25; refine (implOk_any _ _ _ _ _).mono ?_; rintro e w' ⟨rfl, rfl⟩)
    refine bodyPost_ret (v := .tuple #[.agg #[.int .i64 0, .int .i64 0, .float .f64 0, .float .f64 0], .int .i64 1]) (by simp [results, Try.results22, go_sem]) rfl (leaves_z E.out rfl ?_)
    (repeat (first | with_reducible exact Below.refl _ _ | with_reducible refine bl_alloc ?_ _ | with_reducible refine bl_drewN ?_ _ | with_reducible refine bl_drew ?_ | with_reducible refine bl_setCell ?_ (by first | exact Nat.le_refl _ | (dsimp only; omega) | (simp <;> omega)) _ | with_reducible refine bl_trans ?_ (by with_reducible assumption)))
  by_cases hk : k = l
  · subst hk
    by_cases h1 : k = 1
    · subst h1
      have E : Hid (opOut op 1 i x y 1 j u v = intOut op i j) := by simp [Hid, opOut, hx, hu]
      go_enter Try.func22, Try.ntmps22
      go_wp2_with ((go_at_call 25; refine (implOk_any _ _ _ _ _).mono ?_; rintro e w' ⟨rfl, rfl⟩))
      refine (intOp_any _ _ _ _).mono ?_
      rintro e w' ⟨k', i', x', y', rfl, hv, hb⟩
      obtain ⟨hc, hf⟩ := bcell hb
      go_wp2_with fail
      refine bodyPost_ret (v := .tuple #[.agg #[.int .i64 k', .int .i64 i', .float .f64 x', .float .f64 y'], .int .i64 (intOut op i j).2]) (by simp [results, Try.results22, go_sem, hc]) rfl ⟨k', i', x', y', by rw [E.out], by rw [E.out]; exact hv, ?_⟩
      (repeat (first | with_reducible exact Below.refl _ _ | with_reducible refine bl_alloc ?_ _ | with_reducible refine bl_drewN ?_ _ | with_reducible refine bl_drew ?_ | with_reducible refine bl_setCell ?_ (by first | exact Nat.le_refl _ | (dsimp only; omega) | (simp <;> omega)) _ | with_reducible refine bl_trans ?_ (by with_reducible assumption)))
    by_cases h2 : k = 2
    · subst h2
      have E : Hid (opOut op 2 i x y 2 j u v = realOut op x u) := by simp [Hid, opOut, hx, hu]
      go_enter Try.func22, Try.ntmps22
      go_wp2_with ((go_at_call 25; refine (implOk_any _ _ _ _ _).mono ?_; rintro e w' ⟨rfl, rfl⟩))
      refine (realOp_any _ _ _ _).mono ?_
      rintro e w' ⟨k', i', x', y', rfl, hv, hb⟩
      obtain ⟨hc, hf⟩ := bcell hb
      go_wp2_with fail
      refine bodyPost_ret (v := .tuple #[.agg #[.int .i64 k', .int .i64 i', .float .f64 x', .float .f64 y'], .int .i64 (realOut op x u).2]) (by simp [results, Try.results22, go_sem, hc]) rfl ⟨k', i', x', y', by rw [E.out], by rw [E.out]; exact hv, ?_⟩
      (repeat (first | with_reducible exact Below.refl _ _ | with_reducible refine bl_alloc ?_ _ | with_reducible refine bl_drewN ?_ _ | with_reducible refine bl_drew ?_ | with_reducible refine bl_setCell ?_ (by first | exact Nat.le_refl _ | (dsimp only; omega) | (simp <;> omega)) _ | with_reducible refine bl_trans ?_ (by with_reducible assumption)))
    by_cases h3 : k = 3
    · subst h3
      have E : Hid (opOut op 3 i x y 3 j u v = pairOut op x y u v) := by simp [Hid, opOut, hx, hu]
      go_enter Try.func22, Try.ntmps22
      go_wp2_with (go_at_call 25; refine (implOk_any _ _ _ _ _).mono ?_; rintro e w' ⟨rfl, rfl⟩)
      go_region_with (first | (go_at_call 49; refine (pairOf_any _ _ _ _ _).mono ?_; rintro e w' ⟨rfl, rfl⟩) | (go_at_call 48; refine (pairOp_any _ _ _ _ _ _).mono ?_; rintro e w' ⟨k', i', x', y', rfl, hv, hb⟩; obtain ⟨hc, hf⟩ := bcell hb))
      all_goals
        go_wp2_with fail
        refine bodyPost_ret (v := .tuple #[.agg #[.int .i64 k', .int .i64 i', .float .f64 x', .float .f64 y'], .int .i64 (pairOut op x y u v).2]) (by simp [results, Try.results22, go_sem, hc]) rfl ⟨k', i', x', y', by rw [E.out], by rw [E.out]; exact hv, ?_⟩
        (repeat (first | with_reducible exact Below.refl _ _ | with_reducible refine bl_alloc ?_ _ | with_reducible refine bl_drewN ?_ _ | with_reducible refine bl_drew ?_ | with_reducible refine bl_setCell ?_ (by first | exact Nat.le_refl _ | (dsimp only; omega) | (simp <;> omega)) _ | with_reducible refine bl_trans ?_ (by with_reducible assumption)))
    have h4 : k = 4 := by
      by_cases h : k = 4
      · exact h
      · simp [okB, h1, h2, h3, h] at hx
    subst h4
    · clear h1 h2 h3
      have E : Hid (opOut op 4 i x y 4 j u v = boolOut op (i == 1) (j == 1)) := by simp [Hid, opOut, hx, hu]
      go_enter Try.func22, Try.ntmps22
      go_wp2_with ((go_at_call 25; refine (implOk_any _ _ _ _ _).mono ?_; rintro e w' ⟨rfl, rfl⟩))
      refine (boolOp_any _ _ _ _).mono ?_
      rintro e w' ⟨k', i', x', y', rfl, hv, hb⟩
      obtain ⟨hc, hf⟩ := bcell hb
      go_wp2_with fail
      refine bodyPost_ret (v := .tuple #[.agg #[.int .i64 k', .int .i64 i', .float .f64 x', .float .f64 y'], .int .i64 (boolOut op (i == 1) (j == 1)).2]) (by simp [results, Try.results22, go_sem, hc]) rfl ⟨k', i', x', y', by rw [E.out], by rw [E.out]; exact hv, ?_⟩
      (repeat (first | with_reducible exact Below.refl _ _ | with_reducible refine bl_alloc ?_ _ | with_reducible refine bl_drewN ?_ _ | with_reducible refine bl_drew ?_ | with_reducible refine bl_setCell ?_ (by first | exact Nat.le_refl _ | (dsimp only; omega) | (simp <;> omega)) _ | with_reducible refine bl_trans ?_ (by with_reducible assumption)))
  · have E : Hid (opOut op k i x y l j u v = (zV, 1)) := by simp [Hid, opOut, hk]
    have gk : (k != l) = true := by simp [hk]
    go_enter Try.func22, Try.ntmps22
    go_wp2_with (go_at_call 25; refine (implOk_any _ _ _ _ _).mono ?_; rintro e w' ⟨rfl, rfl⟩)
    refine bodyPost_ret (v := .tuple #[.agg #[.int .i64 0, .int .i64 0, .float .f64 0, .float .f64 0], .int .i64 1]) (by simp [results, Try.results22, go_sem]) rfl (leaves_z E.out rfl ?_)
    (repeat (first | with_reducible exact Below.refl _ _ | with_reducible refine bl_alloc ?_ _ | with_reducible refine bl_drewN ?_ _ | with_reducible refine bl_drew ?_ | with_reducible refine bl_setCell ?_ (by first | exact Nat.le_refl _ | (dsimp only; omega) | (simp <;> omega)) _ | with_reducible refine bl_trans ?_ (by with_reducible assumption)))
end Go.Proofs.Ytijgkpkakkjkgaa
