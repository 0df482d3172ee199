import Derived.Test.YtknallkcengbbaaGreatDoorOa
import Derived.Test.YtknallkcengbbaaGreatDoorQe
namespace Go.Proofs.YtknallkcengbbaaGreatDoor
open Go.RowKit
set_option linter.unusedVariables false
set_option linter.unusedSimpArgs false

/-- the class of a kind. -/
def cls (k : Int) : Int :=
  if 1 ≤ k ∧ k ≤ 11 then 1 else if 12 ≤ k ∧ k ≤ 26 then 2 else if k = 27 then 3 else if k = 29 then 4 else if k = 30 then 5 else if k = 31 then 6 else if k = 32 then 7 else if k = 28 then 8 else if k = 33 ∨ k = 34 then 9 else 0
/-- the classes that a node's kids must have; k: how many there are. -/
def shp (kind : Int) (k : Nat) : List Int :=
  if kind = 7 then List.replicate k 1 else if kind = 8 ∨ kind = 10 then [1, 1]
  else if kind = 9 ∨ kind = 12 ∨ kind = 13 ∨ kind = 14 ∨ kind = 15 ∨ kind = 19 ∨ kind = 23 ∨ kind = 26 ∨ kind = 28 then [1]
  else if kind = 11 then 1 :: 6 :: List.replicate (k - 2) 6
  else if kind = 16 then (if k = 3 then [1, 3, 3] else [1, 3]) else if kind = 17 then [1, 3] else if kind = 18 then [4, 5, 3] else if kind = 20 then [6, 3]
  else if kind = 21 then List.replicate k 8 else if kind = 25 then [10] else if kind = 27 then List.replicate k 2 else if kind = 29 then 6 :: List.replicate (k - 1) 6
  else if kind = 30 then List.replicate k 6 else if kind = 33 then List.replicate (k - 1) 7 ++ [3] else if kind = 34 then [3] else []
/-- a kind is one of the thirty-four, or none. -/
theorem kind_split (k : Int) : k < 1 ∨ 34 < k ∨ k = 1 ∨ k = 2 ∨ k = 3 ∨ k = 4 ∨ k = 5 ∨ k = 6 ∨ k = 7 ∨ k = 8 ∨ k = 9 ∨ k = 10 ∨ k = 11 ∨ k = 12 ∨ k = 13 ∨ k = 14 ∨ k = 15 ∨ k = 16 ∨ k = 17 ∨ k = 18 ∨ k = 19 ∨ k = 20 ∨ k = 21 ∨ k = 22 ∨ k = 23 ∨ k = 24 ∨ k = 25 ∨ k = 26 ∨ k = 27 ∨ k = 28 ∨ k = 29 ∨ k = 30 ∨ k = 31 ∨ k = 32 ∨ k = 33 ∨ k = 34 := by omega
/-- what a kind that is none is not. -/
structure NoKind (k : Int) : Prop where
  ne : ∀ c : Int, 1 ≤ c → c ≤ 34 → (k == c) = false
theorem noKind {k : Int} (h : k < 1 ∨ 34 < k) : NoKind k := ⟨fun c h1 h2 => by simp; omega⟩
theorem cls_none {k : Int} (h : k < 1 ∨ 34 < k) : cls k = 0 := by
  unfold cls
  rw [if_neg (by omega), if_neg (by omega), if_neg (by omega), if_neg (by omega), if_neg (by omega), if_neg (by omega), if_neg (by omega), if_neg (by omega), if_neg (by omega)]
theorem shp_none {k : Int} (h : k < 1 ∨ 34 < k) (m : Nat) : shp k m = [] := by
  unfold shp
  repeat rw [if_neg (by omega)]

set_option maxRecDepth 100000 in
set_option maxHeartbeats 4000000 in
theorem l8Class_any (k : Int) (w : World) : Calls Tryz.prog 48 #[.int .i64 k] w fun e w' => e = .returned (.int .i64 (cls k)) ∧ Below w.heap.size w w' := by
  by_cases a1 : 1 ≤ k ∧ k ≤ 11
  · have h1 := a1.1
    have h2 := a1.2
    have HC : Hid (cls k = 1) := by show _ = _; unfold cls; rw [if_pos a1]
    clear a1
    go_enter Tryz.func48, Tryz.ntmps48
    go_wp2_with fail
    go_ret
    exact ⟨by rw [HC.out]; rfl, by (repeat (first | with_reducible exact Below.refl _ _ | with_reducible refine bl_alloc ?_ _ | with_reducible refine bl_drewN ?_ _ | with_reducible refine bl_drew ?_ | with_reducible refine bl_setCell ?_ (by first | exact Nat.le_refl _ | (dsimp only; omega) | (simp <;> omega)) _ | with_reducible refine bl_trans ?_ (by with_reducible assumption)))⟩
  by_cases a2 : 12 ≤ k ∧ k ≤ 26
  · have HC : Hid (cls k = 2) := by show _ = _; unfold cls; rw [if_neg a1, if_pos a2]
    have h1 : 1 ≤ k := by omega
    have h2 : ¬ k ≤ 11 := by omega
    have h3 := a2.1
    have h4 := a2.2
    clear a1 a2
    go_enter Tryz.func48, Tryz.ntmps48
    go_wp2_with fail
    go_ret
    exact ⟨by rw [HC.out]; rfl, by (repeat (first | with_reducible exact Below.refl _ _ | with_reducible refine bl_alloc ?_ _ | with_reducible refine bl_drewN ?_ _ | with_reducible refine bl_drew ?_ | with_reducible refine bl_setCell ?_ (by first | exact Nat.le_refl _ | (dsimp only; omega) | (simp <;> omega)) _ | with_reducible refine bl_trans ?_ (by with_reducible assumption)))⟩
  by_cases a3 : 27 ≤ k ∧ k ≤ 34
  · have h5 : k = 27 ∨ k = 28 ∨ k = 29 ∨ k = 30 ∨ k = 31 ∨ k = 32 ∨ k = 33 ∨ k = 34 := by omega
    rcases h5 with rfl | rfl | rfl | rfl | rfl | rfl | rfl | rfl <;>
    · clear a1 a2 a3
      go_enter Tryz.func48, Tryz.ntmps48
      go_wp2_with fail
      go_ret
      exact ⟨rfl, by (repeat (first | with_reducible exact Below.refl _ _ | with_reducible refine bl_alloc ?_ _ | with_reducible refine bl_drewN ?_ _ | with_reducible refine bl_drew ?_ | with_reducible refine bl_setCell ?_ (by first | exact Nat.le_refl _ | (dsimp only; omega) | (simp <;> omega)) _ | with_reducible refine bl_trans ?_ (by with_reducible assumption)))⟩
  · have HN := noKind (k := k) (by omega)
    have HC : Hid (cls k = 0) := cls_none (by omega)
    have e1 := HN.ne 27 (by omega) (by omega)
    have e2 := HN.ne 28 (by omega) (by omega)
    have e3 := HN.ne 29 (by omega) (by omega)
    have e4 := HN.ne 30 (by omega) (by omega)
    have e5 := HN.ne 31 (by omega) (by omega)
    have e6 := HN.ne 32 (by omega) (by omega)
    have e7 := HN.ne 33 (by omega) (by omega)
    have e8 := HN.ne 34 (by omega) (by omega)
    by_cases h1 : 1 ≤ k
    · have h2 : ¬ k ≤ 11 := by omega
      have h3 : 12 ≤ k := by omega
      have h4 : ¬ k ≤ 26 := by omega
      clear a1 a2 a3 HN
      go_enter Tryz.func48, Tryz.ntmps48
      go_wp2_with fail
      go_ret
      exact ⟨by rw [HC.out]; rfl, by (repeat (first | with_reducible exact Below.refl _ _ | with_reducible refine bl_alloc ?_ _ | with_reducible refine bl_drewN ?_ _ | with_reducible refine bl_drew ?_ | with_reducible refine bl_setCell ?_ (by first | exact Nat.le_refl _ | (dsimp only; omega) | (simp <;> omega)) _ | with_reducible refine bl_trans ?_ (by with_reducible assumption)))⟩
    · have h3 : ¬ 12 ≤ k := by omega
      clear a1 a2 a3 HN
      go_enter Tryz.func48, Tryz.ntmps48
      go_wp2_with fail
      go_ret
      exact ⟨by rw [HC.out]; rfl, by (repeat (first | with_reducible exact Below.refl _ _ | with_reducible refine bl_alloc ?_ _ | with_reducible refine bl_drewN ?_ _ | with_reducible refine bl_drew ?_ | with_reducible refine bl_setCell ?_ (by first | exact Nat.le_refl _ | (dsimp only; omega) | (simp <;> omega)) _ | with_reducible refine bl_trans ?_ (by with_reducible assumption)))⟩
end Go.Proofs.YtknallkcengbbaaGreatDoor
