import Derived.Test.YtijgkpkakkjkgaaWr
import Derived.Test.YtijgkpkakkjkgaaWs
import Derived.Test.YtijgkpkakkjkgaaWt
namespace Go.Proofs.Ytijgkpkakkjkgaa
open Go.RowKit

theorem ok4 {i : Int} {x y : Nat} (h : okB 4 i x y = true) : i = 0 ∨ i = 1 := by
  simp [okB] at h; exact h.1.1

set_option maxHeartbeats 2000000 in
theorem specOp4_any (op i : Int) (x y : Nat) (j : Int) (u v : Nat) (w : World) (lx : x < 18446744073709551616) (ly : y < 18446744073709551616) (lu : u < 18446744073709551616) (lv : v < 18446744073709551616) (hx : okB 4 i x y = true) (hu : okB 4 j u v = true) :
    Calls Try.prog 23 #[.int .i64 op, .agg #[.int .i64 4, .int .i64 i, .float .f64 x, .float .f64 y], .agg #[.int .i64 4, .int .i64 j, .float .f64 u, .float .f64 v]] w fun e w' => Leaves2 (boolOut op (i == 1) (j == 1)) w e w' := by
  by_cases h7 : op = 7
  · subst h7
    rcases ok4 hx with rfl | rfl <;> rcases ok4 hu with rfl | rfl
    all_goals
      go_enter Try.func23, Try.ntmps23
      go_wp2_with (first | (go_at_call 29; refine (specOk_any _ _ _ _ _ (by assumption) (by assumption)).mono ?_; rintro e w' ⟨rfl, rfl⟩) | (go_at_call 54; refine (l1Bool_any _ _).mono ?_; rintro e w' ⟨rfl, rfl⟩))
      first
        | (refine bodyPost_ret (v := .tuple #[.agg #[.int .i64 4, .int .i64 (bN false), .float .f64 0, .float .f64 0], .int .i64 0]) (by simp [results, Try.results23, go_sem]; done) rfl (leaves_b (b := false) rfl rfl ?_); (repeat (first | with_reducible exact Below.refl _ _ | with_reducible refine bl_alloc ?_ _ | with_reducible refine bl_drewN ?_ _ | with_reducible refine bl_drew ?_ | with_reducible refine bl_setCell ?_ (by first | exact Nat.le_refl _ | (dsimp only; omega) | (simp <;> omega)) _ | with_reducible refine bl_trans ?_ (by with_reducible assumption))); done)
        | (refine bodyPost_ret (v := .tuple #[.agg #[.int .i64 4, .int .i64 (bN true), .float .f64 0, .float .f64 0], .int .i64 0]) (by simp [results, Try.results23, go_sem]; done) rfl (leaves_b (b := true) rfl rfl ?_); (repeat (first | with_reducible exact Below.refl _ _ | with_reducible refine bl_alloc ?_ _ | with_reducible refine bl_drewN ?_ _ | with_reducible refine bl_drew ?_ | with_reducible refine bl_setCell ?_ (by first | exact Nat.le_refl _ | (dsimp only; omega) | (simp <;> omega)) _ | with_reducible refine bl_trans ?_ (by with_reducible assumption))); done)
  by_cases h8 : op = 8
  · subst h8
    rcases ok4 hx with rfl | rfl <;> rcases ok4 hu with rfl | rfl
    all_goals
      go_enter Try.func23, Try.ntmps23
      go_wp2_with (first | (go_at_call 29; refine (specOk_any _ _ _ _ _ (by assumption) (by assumption)).mono ?_; rintro e w' ⟨rfl, rfl⟩) | (go_at_call 54; refine (l1Bool_any _ _).mono ?_; rintro e w' ⟨rfl, rfl⟩))
      first
        | (refine bodyPost_ret (v := .tuple #[.agg #[.int .i64 4, .int .i64 (bN false), .float .f64 0, .float .f64 0], .int .i64 0]) (by simp [results, Try.results23, go_sem]; done) rfl (leaves_b (b := false) rfl rfl ?_); (repeat (first | with_reducible exact Below.refl _ _ | with_reducible refine bl_alloc ?_ _ | with_reducible refine bl_drewN ?_ _ | with_reducible refine bl_drew ?_ | with_reducible refine bl_setCell ?_ (by first | exact Nat.le_refl _ | (dsimp only; omega) | (simp <;> omega)) _ | with_reducible refine bl_trans ?_ (by with_reducible assumption))); done)
        | (refine bodyPost_ret (v := .tuple #[.agg #[.int .i64 4, .int .i64 (bN true), .float .f64 0, .float .f64 0], .int .i64 0]) (by simp [results, Try.results23, go_sem]; done) rfl (leaves_b (b := true) rfl rfl ?_); (repeat (first | with_reducible exact Below.refl _ _ | with_reducible refine bl_alloc ?_ _ | with_reducible refine bl_drewN ?_ _ | with_reducible refine bl_drew ?_ | with_reducible refine bl_setCell ?_ (by first | exact Nat.le_refl _ | (dsimp only; omega) | (simp <;> omega)) _ | with_reducible refine bl_trans ?_ (by with_reducible assumption))); done)
  by_cases h9 : op = 9
  · subst h9
    rcases ok4 hx with rfl | rfl <;> rcases ok4 hu with rfl | rfl
    all_goals
      go_enter Try.func23, Try.ntmps23
      go_wp2_with (first | (go_at_call 29; refine (specOk_any _ _ _ _ _ (by assumption) (by assumption)).mono ?_; rintro e w' ⟨rfl, rfl⟩) | (go_at_call 54; refine (l1Bool_any _ _).mono ?_; rintro e w' ⟨rfl, rfl⟩))
      first
        | (refine bodyPost_ret (v := .tuple #[.agg #[.int .i64 4, .int .i64 (bN false), .float .f64 0, .float .f64 0], .int .i64 0]) (by simp [results, Try.results23, go_sem]; done) rfl (leaves_b (b := false) rfl rfl ?_); (repeat (first | with_reducible exact Below.refl _ _ | with_reducible refine bl_alloc ?_ _ | with_reducible refine bl_drewN ?_ _ | with_reducible refine bl_drew ?_ | with_reducible refine bl_setCell ?_ (by first | exact Nat.le_refl _ | (dsimp only; omega) | (simp <;> omega)) _ | with_reducible refine bl_trans ?_ (by with_reducible assumption))); done)
        | (refine bodyPost_ret (v := .tuple #[.agg #[.int .i64 4, .int .i64 (bN true), .float .f64 0, .float .f64 0], .int .i64 0]) (by simp [results, Try.results23, go_sem]; done) rfl (leaves_b (b := true) rfl rfl ?_); (repeat (first | with_reducible exact Below.refl _ _ | with_reducible refine bl_alloc ?_ _ | with_reducible refine bl_drewN ?_ _ | with_reducible refine bl_drew ?_ | with_reducible refine bl_setCell ?_ (by first | exact Nat.le_refl _ | (dsimp only; omega) | (simp <;> omega)) _ | with_reducible refine bl_trans ?_ (by with_reducible assumption))); done)
  have g7 : (op == 7) = false := beq_eq_false_iff_ne.2 h7
  have g8 : (op == 8) = false := beq_eq_false_iff_ne.2 h8
  have g9 : (op == 9) = false := beq_eq_false_iff_ne.2 h9
  have E : Hid (boolOut op (i == 1) (j == 1) = (zV, 1)) := by simp [Hid, boolOut, h7, h8, h9]
  · go_enter Try.func23, Try.ntmps23
    go_wp2_with (go_at_call 29; refine (specOk_any _ _ _ _ _ (by assumption) (by assumption)).mono ?_; rintro e w' ⟨rfl, rfl⟩)
    refine bodyPost_ret (v := .tuple #[.agg #[.int .i64 0, .int .i64 0, .float .f64 0, .float .f64 0], .int .i64 1]) (by simp [results, Try.results23, go_sem]) rfl (leaves_z E.out rfl ?_)
    (repeat (first | with_reducible exact Below.refl _ _ | with_reducible refine bl_alloc ?_ _ | with_reducible refine bl_drewN ?_ _ | with_reducible refine bl_drew ?_ | with_reducible refine bl_setCell ?_ (by first | exact Nat.le_refl _ | (dsimp only; omega) | (simp <;> omega)) _ | with_reducible refine bl_trans ?_ (by with_reducible assumption)))

set_option maxHeartbeats 2000000 in
theorem specOp_any (op k i : Int) (x y : Nat) (l j : Int) (u v : Nat) (w : World) (lx : x < 18446744073709551616) (ly : y < 18446744073709551616) (lu : u < 18446744073709551616) (lv : v < 18446744073709551616) (hi : -9223372036854775808 ≤ i ∧ i ≤ 9223372036854775807) :
    Calls Try.prog 23 #[.int .i64 op, .agg #[.int .i64 k, .int .i64 i, .float .f64 x, .float .f64 y], .agg #[.int .i64 l, .int .i64 j, .float .f64 u, .float .f64 v]] w fun e w' => Leaves2 (opOut op k i x y l j u v) w e w' := by
  cases hx : okB k i x y
  · have E : Hid (opOut op k i x y l j u v = (zV, 1)) := by simp [Hid, opOut, hx]
    go_enter Try.func23, Try.ntmps23
    go_wp2_with (go_at_call 29; refine (specOk_any _ _ _ _ _ (by assumption) (by assumption)).mono ?_; rintro e w' ⟨rfl, rfl⟩)
    refine bodyPost_ret (v := .tuple #[.agg #[.int .i64 0, .int .i64 0, .float .f64 0, .float .f64 0], .int .i64 1]) (by simp [results, Try.results23, go_sem]) rfl (leaves_z E.out rfl ?_)
    (repeat (first | with_reducible exact Below.refl _ _ | with_reducible refine bl_alloc ?_ _ | with_reducible refine bl_drewN ?_ _ | with_reducible refine bl_drew ?_ | with_reducible refine bl_setCell ?_ (by first | exact Nat.le_refl _ | (dsimp only; omega) | (simp <;> omega)) _ | with_reducible refine bl_trans ?_ (by with_reducible assumption)))
  cases hu : okB l j u v
  · have E : Hid (opOut op k i x y l j u v = (zV, 1)) := by simp [Hid, opOut, hu]
    go_enter Try.func23, Try.ntmps23
    go_wp2_with (go_at_call 29; refine (specOk_any _ _ _ _ _ (by assumption) (by assumption)).mono ?_; rintro e w' ⟨rfl, rfl⟩)
    refine bodyPost_ret (v := .tuple #[.agg #[.int .i64 0, .int .i64 0, .float .f64 0, .float .f64 0], .int .i64 1]) (by simp [results, Try.results23, go_sem]) rfl (leaves_z E.out rfl ?_)
    (repeat (first | with_reducible exact Below.refl _ _ | with_reducible refine bl_alloc ?_ _ | with_reducible refine bl_drewN ?_ _ | with_reducible refine bl_drew ?_ | with_reducible refine bl_setCell ?_ (by first | exact Nat.le_refl _ | (dsimp only; omega) | (simp <;> omega)) _ | with_reducible refine bl_trans ?_ (by with_reducible assumption)))
  by_cases hk : k = l
  · subst hk
    by_cases h1 : k = 1
    · subst h1
      have E : Hid (opOut op 1 i x y 1 j u v = intOut op i j) := by simp [Hid, opOut, hx, hu]
      go_enter Try.func23, Try.ntmps23
      go_wp2_with (go_at_call 29; refine (specOk_any _ _ _ _ _ (by assumption) (by assumption)).mono ?_; rintro e w' ⟨rfl, rfl⟩)
      refine (l1Int_any _ _ _ _ hi).mono ?_
      rintro e w' ⟨k', i', x', y', rfl, hv, hb⟩
      obtain ⟨hc, hf⟩ := bcell hb
      go_wp2_with fail
      refine bodyPost_ret (v := .tuple #[.agg #[.int .i64 k', .int .i64 i', .float .f64 x', .float .f64 y'], .int .i64 (intOut op i j).2]) (by simp [results, Try.results23, go_sem, hc]) rfl ⟨k', i', x', y', by rw [E.out], by rw [E.out]; exact hv, ?_⟩
      (repeat (first | with_reducible exact Below.refl _ _ | with_reducible refine bl_alloc ?_ _ | with_reducible refine bl_drewN ?_ _ | with_reducible refine bl_drew ?_ | with_reducible refine bl_setCell ?_ (by first | exact Nat.le_refl _ | (dsimp only; omega) | (simp <;> omega)) _ | with_reducible refine bl_trans ?_ (by with_reducible assumption)))
    clear hi
    by_cases h2 : k = 2
    · subst h2
      have E : Hid (opOut op 2 i x y 2 j u v = realOut op x u) := by simp [Hid, opOut, hx, hu]
      go_enter Try.func23, Try.ntmps23
      go_wp2_with (go_at_call 29; refine (specOk_any _ _ _ _ _ (by assumption) (by assumption)).mono ?_; rintro e w' ⟨rfl, rfl⟩)
      refine (l1Real_any _ _ _ _).mono ?_
      rintro e w' ⟨k', i', x', y', rfl, hv, hb⟩
      obtain ⟨hc, hf⟩ := bcell hb
      go_wp2_with fail
      refine bodyPost_ret (v := .tuple #[.agg #[.int .i64 k', .int .i64 i', .float .f64 x', .float .f64 y'], .int .i64 (realOut op x u).2]) (by simp [results, Try.results23, go_sem, hc]) rfl ⟨k', i', x', y', by rw [E.out], by rw [E.out]; exact hv, ?_⟩
      (repeat (first | with_reducible exact Below.refl _ _ | with_reducible refine bl_alloc ?_ _ | with_reducible refine bl_drewN ?_ _ | with_reducible refine bl_drew ?_ | with_reducible refine bl_setCell ?_ (by first | exact Nat.le_refl _ | (dsimp only; omega) | (simp <;> omega)) _ | with_reducible refine bl_trans ?_ (by with_reducible assumption)))
    by_cases h3 : k = 3
    · subst h3
      have E : Hid (opOut op 3 i x y 3 j u v = pairOut op x y u v) := by simp [Hid, opOut, hx, hu]
      go_enter Try.func23, Try.ntmps23
      go_wp2_with (go_at_call 29; refine (specOk_any _ _ _ _ _ (by assumption) (by assumption)).mono ?_; rintro e w' ⟨rfl, rfl⟩)
      refine (l1Pair_any _ _ _ _ _ _ _ _ _ _).mono ?_
      rintro e w' ⟨k', i', x', y', rfl, hv, hb⟩
      obtain ⟨hc, hf⟩ := bcell hb
      go_wp2_with fail
      refine bodyPost_ret (v := .tuple #[.agg #[.int .i64 k', .int .i64 i', .float .f64 x', .float .f64 y'], .int .i64 (pairOut op x y u v).2]) (by simp [results, Try.results23, go_sem, hc]) rfl ⟨k', i', x', y', by rw [E.out], by rw [E.out]; exact hv, ?_⟩
      (repeat (first | with_reducible exact Below.refl _ _ | with_reducible refine bl_alloc ?_ _ | with_reducible refine bl_drewN ?_ _ | with_reducible refine bl_drew ?_ | with_reducible refine bl_setCell ?_ (by first | exact Nat.le_refl _ | (dsimp only; omega) | (simp <;> omega)) _ | with_reducible refine bl_trans ?_ (by with_reducible assumption)))
    have h4 : k = 4 := by
      by_cases h : k = 4
      · exact h
      · simp [okB, h1, h2, h3, h] at hx
    subst h4
    have E : Hid (opOut op 4 i x y 4 j u v = boolOut op (i == 1) (j == 1)) := by simp [Hid, opOut, hx, hu]
    rw [E.out]
    exact specOp4_any op i x y j u v w lx ly lu lv hx hu
  · have E : Hid (opOut op k i x y l j u v = (zV, 1)) := by simp [Hid, opOut, hk]
    have gk : (k != l) = true := by simp [hk]
    clear hi
    go_enter Try.func23, Try.ntmps23
    go_wp2_with (go_at_call 29; refine (specOk_any _ _ _ _ _ (by assumption) (by assumption)).mono ?_; rintro e w' ⟨rfl, rfl⟩)
    refine bodyPost_ret (v := .tuple #[.agg #[.int .i64 0, .int .i64 0, .float .f64 0, .float .f64 0], .int .i64 1]) (by simp [results, Try.results23, go_sem]) rfl (leaves_z E.out rfl ?_)
    (repeat (first | with_reducible exact Below.refl _ _ | with_reducible refine bl_alloc ?_ _ | with_reducible refine bl_drewN ?_ _ | with_reducible refine bl_drew ?_ | with_reducible refine bl_setCell ?_ (by first | exact Nat.le_refl _ | (dsimp only; omega) | (simp <;> omega)) _ | with_reducible refine bl_trans ?_ (by with_reducible assumption)))
end Go.Proofs.Ytijgkpkakkjkgaa
