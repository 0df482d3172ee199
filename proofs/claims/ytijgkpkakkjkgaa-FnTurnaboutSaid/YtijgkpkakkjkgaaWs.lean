import Derived.Test.YtijgkpkakkjkgaaWq
namespace Go.Proofs.Ytijgkpkakkjkgaa
open Go.RowKit

theorem wrap64_mul (q b : Int) : wrap64 (wrap64 q * b) = wrap64 (q * b) := by
  obtain ⟨c, hc⟩ : ∃ c, wrap64 q = q - 18446744073709551616 * c := ⟨(q + 9223372036854775808) / 18446744073709551616, by unfold wrap64; omega⟩
  rw [hc, Int.sub_mul, Int.mul_assoc]
  generalize c * b = m
  generalize q * b = n
  unfold wrap64; omega

theorem wrap64_sub (a n : Int) : wrap64 (a - wrap64 n) = wrap64 (a - n) := by unfold wrap64; omega

theorem tmod_range {a b : Int} (ha : -9223372036854775808 ≤ a ∧ a ≤ 9223372036854775807) : -9223372036854775808 ≤ a.tmod b ∧ a.tmod b ≤ 9223372036854775807 := by
  have h : (a.tmod b).natAbs ≤ a.natAbs := by rw [Int.natAbs_tmod]; exact Nat.mod_le _ _
  by_cases s : 0 ≤ a
  · have := Int.tmod_nonneg b s
    omega
  · have e : a.tmod b = -((-a).tmod b) := by rw [Int.neg_tmod, Int.neg_neg]
    have := Int.tmod_nonneg b (show 0 ≤ -a by omega)
    omega

theorem mod_eq {a b : Int} (ha : -9223372036854775808 ≤ a ∧ a ≤ 9223372036854775807) : wrap64 (a - wrap64 (wrap64 (a.tdiv b) * b)) = a.tmod b := by
  rw [wrap64_mul, wrap64_sub]
  have e : a - a.tdiv b * b = a.tmod b := by
    have := Int.mul_tdiv_add_tmod a b
    rw [Int.mul_comm] at this; omega
  rw [e]
  exact IntWalk.wrap64_in _ (tmod_range ha)

theorem tdiv_neg_one (a : Int) : a.tdiv (-1) = -a := by rw [Int.tdiv_neg, Int.tdiv_one]
theorem tmod_neg_one (a : Int) : a.tmod (-1) = 0 := by rw [Int.tmod_neg, Int.tmod_one]

theorem ret2_int {a b c : Int} (h : a = b) : Ending.returned (.tuple #[.agg #[.int .i64 1, .int .i64 a, .float .f64 0, .float .f64 0], .int .i64 c]) = .returned (.tuple #[.agg #[.int .i64 1, .int .i64 b, .float .f64 0, .float .f64 0], .int .i64 c]) := by rw [h]

set_option maxHeartbeats 1000000 in
theorem l1Int_any (op a b : Int) (w : World) (ha : -9223372036854775808 ≤ a ∧ a ≤ 9223372036854775807) :
    Calls Try.prog 51 #[.int .i64 op, .int .i64 a, .int .i64 b] w fun e w' => Leaves2 (intOut op a b) w e w' := by
  by_cases h1 : op = 1
  · subst h1
    clear ha
    go_enter Try.func51, Try.ntmps51
    go_wp2_with fail
    refine bodyPost_ret (v := .tuple #[.agg #[.int .i64 1, .int .i64 (wrap64 (a + b)), .float .f64 0, .float .f64 0], .int .i64 0]) (by simp [results, Try.results51, go_sem]) rfl (leaves_i rfl rfl ?_)
    (repeat (first | with_reducible exact Below.refl _ _ | with_reducible refine bl_alloc ?_ _ | with_reducible refine bl_drewN ?_ _ | with_reducible refine bl_drew ?_ | with_reducible refine bl_setCell ?_ (by first | exact Nat.le_refl _ | (dsimp only; omega) | (simp <;> omega)) _ | with_reducible refine bl_trans ?_ (by with_reducible assumption)))
  by_cases h2 : op = 2
  · subst h2
    clear ha
    go_enter Try.func51, Try.ntmps51
    go_wp2_with fail
    refine bodyPost_ret (v := .tuple #[.agg #[.int .i64 1, .int .i64 (wrap64 (a - b)), .float .f64 0, .float .f64 0], .int .i64 0]) (by simp [results, Try.results51, go_sem]) rfl (leaves_i rfl rfl ?_)
    (repeat (first | with_reducible exact Below.refl _ _ | with_reducible refine bl_alloc ?_ _ | with_reducible refine bl_drewN ?_ _ | with_reducible refine bl_drew ?_ | with_reducible refine bl_setCell ?_ (by first | exact Nat.le_refl _ | (dsimp only; omega) | (simp <;> omega)) _ | with_reducible refine bl_trans ?_ (by with_reducible assumption)))
  by_cases h3 : op = 3
  · subst h3
    clear ha
    go_enter Try.func51, Try.ntmps51
    go_wp2_with fail
    refine bodyPost_ret (v := .tuple #[.agg #[.int .i64 1, .int .i64 (wrap64 (a * b)), .float .f64 0, .float .f64 0], .int .i64 0]) (by simp [results, Try.results51, go_sem]) rfl (leaves_i rfl rfl ?_)
    (repeat (first | with_reducible exact Below.refl _ _ | with_reducible refine bl_alloc ?_ _ | with_reducible refine bl_drewN ?_ _ | with_reducible refine bl_drew ?_ | with_reducible refine bl_setCell ?_ (by first | exact Nat.le_refl _ | (dsimp only; omega) | (simp <;> omega)) _ | with_reducible refine bl_trans ?_ (by with_reducible assumption)))
  by_cases h6 : op = 6
  · subst h6
    clear ha
    go_enter Try.func51, Try.ntmps51
    go_wp2_with (go_at_call 54; refine (l1Bool_any _ _).mono ?_; rintro e w' ⟨rfl, rfl⟩)
    refine bodyPost_ret (v := .tuple #[.agg #[.int .i64 4, .int .i64 (bN (decide (a < b))), .float .f64 0, .float .f64 0], .int .i64 0]) (by simp [results, Try.results51, go_sem]) rfl (leaves_b rfl rfl ?_)
    (repeat (first | with_reducible exact Below.refl _ _ | with_reducible refine bl_alloc ?_ _ | with_reducible refine bl_drewN ?_ _ | with_reducible refine bl_drew ?_ | with_reducible refine bl_setCell ?_ (by first | exact Nat.le_refl _ | (dsimp only; omega) | (simp <;> omega)) _ | with_reducible refine bl_trans ?_ (by with_reducible assumption)))
  by_cases h7 : op = 7
  · subst h7
    clear ha
    go_enter Try.func51, Try.ntmps51
    go_wp2_with (go_at_call 54; refine (l1Bool_any _ _).mono ?_; rintro e w' ⟨rfl, rfl⟩)
    refine bodyPost_ret (v := .tuple #[.agg #[.int .i64 4, .int .i64 (bN (a == b)), .float .f64 0, .float .f64 0], .int .i64 0]) (by simp [results, Try.results51, go_sem]) rfl (leaves_b rfl rfl ?_)
    (repeat (first | with_reducible exact Below.refl _ _ | with_reducible refine bl_alloc ?_ _ | with_reducible refine bl_drewN ?_ _ | with_reducible refine bl_drew ?_ | with_reducible refine bl_setCell ?_ (by first | exact Nat.le_refl _ | (dsimp only; omega) | (simp <;> omega)) _ | with_reducible refine bl_trans ?_ (by with_reducible assumption)))
  have g1 : (op == 1) = false := beq_eq_false_iff_ne.2 h1
  have g2 : (op == 2) = false := beq_eq_false_iff_ne.2 h2
  have g3 : (op == 3) = false := beq_eq_false_iff_ne.2 h3
  have g6 : (op == 6) = false := beq_eq_false_iff_ne.2 h6
  have g7 : (op == 7) = false := beq_eq_false_iff_ne.2 h7
  by_cases h4 : op = 4
  · subst h4
    by_cases hb : b = 0
    · subst hb
      clear ha
      go_enter Try.func51, Try.ntmps51
      go_wp2_with fail
      refine bodyPost_ret (v := .tuple #[.agg #[.int .i64 0, .int .i64 0, .float .f64 0, .float .f64 0], .int .i64 2]) (by simp [results, Try.results51, go_sem]) rfl (leaves_z rfl rfl ?_)
      (repeat (first | with_reducible exact Below.refl _ _ | with_reducible refine bl_alloc ?_ _ | with_reducible refine bl_drewN ?_ _ | with_reducible refine bl_drew ?_ | with_reducible refine bl_setCell ?_ (by first | exact Nat.le_refl _ | (dsimp only; omega) | (simp <;> omega)) _ | with_reducible refine bl_trans ?_ (by with_reducible assumption)))
    by_cases hn : b = -1
    · subst hn
      have E : Hid (wrap64 (-a) = wrap64 (a.tdiv (-1))) := show wrap64 (-a) = wrap64 (a.tdiv (-1)) by rw [tdiv_neg_one]
      clear ha
      go_enter Try.func51, Try.ntmps51
      go_wp2_with fail
      refine bodyPost_ret (v := .tuple #[.agg #[.int .i64 1, .int .i64 (wrap64 (-a)), .float .f64 0, .float .f64 0], .int .i64 0]) (by simp [results, Try.results51, go_sem]) rfl (leaves_i rfl (ret2_int E.out) ?_)
      (repeat (first | with_reducible exact Below.refl _ _ | with_reducible refine bl_alloc ?_ _ | with_reducible refine bl_drewN ?_ _ | with_reducible refine bl_drew ?_ | with_reducible refine bl_setCell ?_ (by first | exact Nat.le_refl _ | (dsimp only; omega) | (simp <;> omega)) _ | with_reducible refine bl_trans ?_ (by with_reducible assumption)))
    have gb : (b == 0) = false := beq_eq_false_iff_ne.2 hb
    have gn : (b == -1) = false := beq_eq_false_iff_ne.2 hn
    have F : Hid (intOut 4 a b = (iV (wrap64 (a.tdiv b)), 0)) := by simp [Hid, intOut, hb]
    clear ha
    go_enter Try.func51, Try.ntmps51
    go_wp2_with fail
    refine bodyPost_ret (v := .tuple #[.agg #[.int .i64 1, .int .i64 (wrap64 (a.tdiv b)), .float .f64 0, .float .f64 0], .int .i64 0]) (by simp [results, Try.results51, go_sem]) rfl (leaves_i F.out rfl ?_)
    (repeat (first | with_reducible exact Below.refl _ _ | with_reducible refine bl_alloc ?_ _ | with_reducible refine bl_drewN ?_ _ | with_reducible refine bl_drew ?_ | with_reducible refine bl_setCell ?_ (by first | exact Nat.le_refl _ | (dsimp only; omega) | (simp <;> omega)) _ | with_reducible refine bl_trans ?_ (by with_reducible assumption)))
  by_cases h5 : op = 5
  · subst h5
    by_cases hb : b = 0
    · subst hb
      clear ha
      go_enter Try.func51, Try.ntmps51
      go_wp2_with fail
      refine bodyPost_ret (v := .tuple #[.agg #[.int .i64 0, .int .i64 0, .float .f64 0, .float .f64 0], .int .i64 2]) (by simp [results, Try.results51, go_sem]) rfl (leaves_z rfl rfl ?_)
      (repeat (first | with_reducible exact Below.refl _ _ | with_reducible refine bl_alloc ?_ _ | with_reducible refine bl_drewN ?_ _ | with_reducible refine bl_drew ?_ | with_reducible refine bl_setCell ?_ (by first | exact Nat.le_refl _ | (dsimp only; omega) | (simp <;> omega)) _ | with_reducible refine bl_trans ?_ (by with_reducible assumption)))
    by_cases hn : b = -1
    · subst hn
      have E : Hid (0 = a.tmod (-1)) := (tmod_neg_one a).symm
      clear ha
      go_enter Try.func51, Try.ntmps51
      go_wp2_with fail
      refine bodyPost_ret (v := .tuple #[.agg #[.int .i64 1, .int .i64 (0), .float .f64 0, .float .f64 0], .int .i64 0]) (by simp [results, Try.results51, go_sem]) rfl (leaves_i rfl (ret2_int E.out) ?_)
      (repeat (first | with_reducible exact Below.refl _ _ | with_reducible refine bl_alloc ?_ _ | with_reducible refine bl_drewN ?_ _ | with_reducible refine bl_drew ?_ | with_reducible refine bl_setCell ?_ (by first | exact Nat.le_refl _ | (dsimp only; omega) | (simp <;> omega)) _ | with_reducible refine bl_trans ?_ (by with_reducible assumption)))
    have gb : (b == 0) = false := beq_eq_false_iff_ne.2 hb
    have gn : (b == -1) = false := beq_eq_false_iff_ne.2 hn
    have E : Hid (wrap64 (a - wrap64 (wrap64 (a.tdiv b) * b)) = a.tmod b) := mod_eq ha
    have F : Hid (intOut 5 a b = (iV (a.tmod b), 0)) := by simp [Hid, intOut, hb]
    clear ha
    go_enter Try.func51, Try.ntmps51
    go_wp2_with fail
    refine bodyPost_ret (v := .tuple #[.agg #[.int .i64 1, .int .i64 (wrap64 (a - wrap64 (wrap64 (a.tdiv b) * b))), .float .f64 0, .float .f64 0], .int .i64 0]) (by simp [results, Try.results51, go_sem]) rfl (leaves_i F.out (ret2_int E.out) ?_)
    (repeat (first | with_reducible exact Below.refl _ _ | with_reducible refine bl_alloc ?_ _ | with_reducible refine bl_drewN ?_ _ | with_reducible refine bl_drew ?_ | with_reducible refine bl_setCell ?_ (by first | exact Nat.le_refl _ | (dsimp only; omega) | (simp <;> omega)) _ | with_reducible refine bl_trans ?_ (by with_reducible assumption)))
  have g4 : (op == 4) = false := beq_eq_false_iff_ne.2 h4
  have g5 : (op == 5) = false := beq_eq_false_iff_ne.2 h5
  have E : Hid (intOut op a b = (zV, 1)) := by simp [Hid, intOut, h1, h2, h3, h4, h5, h6, h7]
  clear ha
  go_enter Try.func51, Try.ntmps51
  go_wp2_with fail
  refine bodyPost_ret (v := .tuple #[.agg #[.int .i64 0, .int .i64 0, .float .f64 0, .float .f64 0], .int .i64 1]) (by simp [results, Try.results51, go_sem]) rfl (leaves_z E.out rfl ?_)
  (repeat (first | with_reducible exact Below.refl _ _ | with_reducible refine bl_alloc ?_ _ | with_reducible refine bl_drewN ?_ _ | with_reducible refine bl_drew ?_ | with_reducible refine bl_setCell ?_ (by first | exact Nat.le_refl _ | (dsimp only; omega) | (simp <;> omega)) _ | with_reducible refine bl_trans ?_ (by with_reducible assumption)))
end Go.Proofs.Ytijgkpkakkjkgaa
