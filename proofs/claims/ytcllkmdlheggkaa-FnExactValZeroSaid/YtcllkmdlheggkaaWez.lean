import Derived.Test.YtcllkmdlheggkaaWaz
namespace Go.Proofs.Ytcllkmdlheggkaa
open Go.RowKit

def zk (k : Int) : Int := if 1 ≤ k ∧ k ≤ 4 then k else 0

theorem ret_agg {a b : Int} (h : a = b) : Ending.returned (.agg #[.int .i64 a, .int .i64 0, .float .f64 0, .float .f64 0]) = .returned (.agg #[.int .i64 b, .int .i64 0, .float .f64 0, .float .f64 0]) := by rw [h]

set_option maxHeartbeats 400000 in
theorem isKind_any (k : Int) (w : World) :
    Calls Try.prog 49 #[.int .i64 k] w fun e w' => e = .returned (.bool (decide (1 ≤ k) && decide (k ≤ 4))) ∧ w' = w := by
  by_cases h1 : 1 ≤ k
  · have E : Hid (decide (k ≤ 4) = (decide (1 ≤ k) && decide (k ≤ 4))) := by simp [Hid, h1]
    go_enter Try.func49, Try.ntmps49
    go_wp2
    go_ret
    exact ⟨ret_bool E.out, rfl⟩
  · have E : Hid (false = (decide (1 ≤ k) && decide (k ≤ 4))) := by simp [Hid, h1]
    go_enter Try.func49, Try.ntmps49
    go_wp2
    go_ret
    exact ⟨ret_bool E.out, rfl⟩

set_option maxHeartbeats 400000 in
theorem implZero_any (k : Int) (w : World) :
    Calls Try.prog 28 #[.int .i64 k] w fun e w' => e = .returned (.agg #[.int .i64 (zk k), .int .i64 0, .float .f64 0, .float .f64 0]) ∧ Below w.heap.size w w' := by
  cases hk : (decide (1 ≤ k) && decide (k ≤ 4))
  · have E : Hid (0 = zk k) := by simp [Hid, zk]; simp at hk; omega
    go_enter Try.func28, Try.ntmps28
    go_wp2_with fail
    refine (isKind_any _ _).mono ?_
    rintro e w1 ⟨rfl, rfl⟩
    rw [hk]
    go_wp2
    refine bodyPost_ret (v := .agg #[.int .i64 0, .int .i64 0, .float .f64 0, .float .f64 0]) (by simp [results, Try.results28, go_sem]) rfl ⟨ret_agg E.out, ?_⟩
    (repeat (first | with_reducible exact Below.refl _ _ | with_reducible refine bl_alloc ?_ _ | with_reducible refine bl_drewN ?_ _ | with_reducible refine bl_drew ?_ | with_reducible refine bl_setCell ?_ (by first | exact Nat.le_refl _ | (dsimp only; omega) | (simp <;> omega)) _ | with_reducible refine bl_trans ?_ (by with_reducible assumption)))
  · have E : Hid (k = zk k) := by simp [Hid, zk]; simp at hk; omega
    go_enter Try.func28, Try.ntmps28
    go_wp2_with fail
    refine (isKind_any _ _).mono ?_
    rintro e w1 ⟨rfl, rfl⟩
    rw [hk]
    go_wp2
    refine bodyPost_ret (v := .agg #[.int .i64 k, .int .i64 0, .float .f64 0, .float .f64 0]) (by simp [results, Try.results28, go_sem]) rfl ⟨ret_agg E.out, ?_⟩
    (repeat (first | with_reducible exact Below.refl _ _ | with_reducible refine bl_alloc ?_ _ | with_reducible refine bl_drewN ?_ _ | with_reducible refine bl_drew ?_ | with_reducible refine bl_setCell ?_ (by first | exact Nat.le_refl _ | (dsimp only; omega) | (simp <;> omega)) _ | with_reducible refine bl_trans ?_ (by with_reducible assumption)))

set_option maxHeartbeats 400000 in
theorem specZero_any (k : Int) (w : World) :
    Calls Try.prog 27 #[.int .i64 k] w fun e w' => e = .returned (.agg #[.int .i64 (zk k), .int .i64 0, .float .f64 0, .float .f64 0]) ∧ Below w.heap.size w w' := by
  by_cases h1 : 1 ≤ k
  · by_cases h2 : k ≤ 4
    · have E : Hid (k = zk k) := by simp [Hid, zk]; omega
      go_enter Try.func27, Try.ntmps27
      go_wp2
      refine bodyPost_ret (v := .agg #[.int .i64 k, .int .i64 0, .float .f64 0, .float .f64 0]) (by simp [results, Try.results27, go_sem]) rfl ⟨ret_agg E.out, ?_⟩
      (repeat (first | with_reducible exact Below.refl _ _ | with_reducible refine bl_alloc ?_ _ | with_reducible refine bl_drewN ?_ _ | with_reducible refine bl_drew ?_ | with_reducible refine bl_setCell ?_ (by first | exact Nat.le_refl _ | (dsimp only; omega) | (simp <;> omega)) _ | with_reducible refine bl_trans ?_ (by with_reducible assumption)))
    · have E : Hid (0 = zk k) := by simp [Hid, zk]; omega
      go_enter Try.func27, Try.ntmps27
      go_wp2
      refine bodyPost_ret (v := .agg #[.int .i64 0, .int .i64 0, .float .f64 0, .float .f64 0]) (by simp [results, Try.results27, go_sem]) rfl ⟨ret_agg E.out, ?_⟩
      (repeat (first | with_reducible exact Below.refl _ _ | with_reducible refine bl_alloc ?_ _ | with_reducible refine bl_drewN ?_ _ | with_reducible refine bl_drew ?_ | with_reducible refine bl_setCell ?_ (by first | exact Nat.le_refl _ | (dsimp only; omega) | (simp <;> omega)) _ | with_reducible refine bl_trans ?_ (by with_reducible assumption)))
  · have E : Hid (0 = zk k) := by simp [Hid, zk]; omega
    go_enter Try.func27, Try.ntmps27
    go_wp2
    refine bodyPost_ret (v := .agg #[.int .i64 0, .int .i64 0, .float .f64 0, .float .f64 0]) (by simp [results, Try.results27, go_sem]) rfl ⟨ret_agg E.out, ?_⟩
    (repeat (first | with_reducible exact Below.refl _ _ | with_reducible refine bl_alloc ?_ _ | with_reducible refine bl_drewN ?_ _ | with_reducible refine bl_drew ?_ | with_reducible refine bl_setCell ?_ (by first | exact Nat.le_refl _ | (dsimp only; omega) | (simp <;> omega)) _ | with_reducible refine bl_trans ?_ (by with_reducible assumption)))

theorem eqB_refl (k i : Int) (x y : Nat) : eqB k i x y k i x y = true := by simp [eqB, sameB_refl]

set_option maxHeartbeats 400000 in
theorem exactZero_any (k : Int) (w : World) :
    Calls Try.prog 6 #[.int .i64 k] w fun e w' => e = .returned (.bool true) ∧ Below w.heap.size w w' := by
  have hq := eqB_refl (zk k) 0 0 0
  go_enter Try.func6, Try.ntmps6
  go_wp2_with fail
  refine (specZero_any _ _).mono ?_
  rintro e w1 ⟨rfl, hb1⟩
  go_wp2_with fail
  refine (implZero_any _ _).mono ?_
  rintro e w2 ⟨rfl, hb2⟩
  obtain ⟨hc2, hf2⟩ := bcell hb2
  have z2 : w1.heap.size < w2.heap.size := by have := hb2.size; simp at this; omega
  go_wp2_with fail
  refine (eqVal_any _ _ _ _ _ _ _ _ _ (by decide) (by decide) (by decide) (by decide)).mono ?_
  rintro e w3 ⟨rfl, hb3⟩
  go_wp2
  go_ret
  refine ⟨rfl, ?_⟩
  (repeat (first | with_reducible exact Below.refl _ _ | with_reducible refine bl_alloc ?_ _ | with_reducible refine bl_drewN ?_ _ | with_reducible refine bl_drew ?_ | with_reducible refine bl_setCell ?_ (by first | exact Nat.le_refl _ | (dsimp only; omega) | (simp <;> omega)) _ | with_reducible refine bl_trans ?_ (by with_reducible assumption)))
end Go.Proofs.Ytcllkmdlheggkaa
