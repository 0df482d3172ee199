import Derived.Test.YtbgeobpdojmdaaaDoorG62
namespace Go.Proofs.YtbgeobpdojmdaaaDoor
open Go.RowKit
set_option linter.unusedVariables false
set_option linter.unusedSimpArgs false

theorem ints_eleven {w : World} {pb : Nat} {a b c d e f g h i j k : Int} (hB : Blk w pb #[.int .i64 a, .int .i64 b, .int .i64 c, .int .i64 d, .int .i64 e, .int .i64 f, .int .i64 g, .int .i64 h, .int .i64 i, .int .i64 j, .int .i64 k] 3) : Ints w (some ⟨pb, 0, none⟩) [a, b, c, d, e, f, g, h, i, j, k] := by
  right
  refine ⟨pb, 0, rfl, hB.lt, fun q hq => ?_⟩
  match q, hq with
  | 0, _ => exact hB.cell 0
  | 1, _ => exact hB.cell 1
  | 2, _ => exact hB.cell 2
  | 3, _ => exact hB.cell 3
  | 4, _ => exact hB.cell 4
  | 5, _ => exact hB.cell 5
  | 6, _ => exact hB.cell 6
  | 7, _ => exact hB.cell 7
  | 8, _ => exact hB.cell 8
  | 9, _ => exact hB.cell 9
  | 10, _ => exact hB.cell 10

set_option maxHeartbeats 2000000 in
theorem sameEdges_same (s t : Option Addr) (c d : Nat) (A : List (Int × Int)) (w : World) (hA : Eds w s A) (hB : Eds w t A) (hl : A.length ≤ 1048576) :
    Calls Tryd.prog 11 #[.slice s A.length c, .slice t A.length d] w fun e w' => e = .returned (.bool true) ∧ Below w.heap.size w w' := by
  have hnn : ((A.length : Int) != (A.length : Int)) = false := by simp
  go_enter Tryd.func11, Tryd.ntmps11
  go_wp2_with fail
  go_loopw [5] (fun i wr => ∃ k : Nat, k ≤ A.length ∧ i = .int .i64 k ∧ Below w.heap.size w wr) (fun i _ => A.length - (intOf i).toNat)
  case atStart => exact ⟨0, Nat.zero_le _, rfl, Below.refl _ _⟩
  case round =>
    obtain ⟨k, hk, rfl, hbel⟩ := hrel
    by_cases hlt : k < A.length
    · obtain ⟨pb, po, rfl, hp, e1, e2⟩ := hA.get hlt
      obtain ⟨qb, qo, rfl, hq, f1, f2⟩ := hB.get hlt
      obtain ⟨⟨x, y⟩, hx⟩ : ∃ x, Hid (A[k]?.getD (0, 0) = x) := ⟨_, rfl⟩
      rw [hx.out] at e1 e2 f1 f2
      have e1 := (hbel.cell (p := ⟨pb, po + k * 2, none⟩) hp).trans e1
      have e2 := (hbel.cell (p := ⟨pb, po + k * 2 + 1, none⟩) hp).trans e2
      have f1 := (hbel.cell (p := ⟨qb, qo + k * 2, none⟩) hq).trans f1
      have f2 := (hbel.cell (p := ⟨qb, qo + k * 2 + 1, none⟩) hq).trans f2
      have hkI : (k : Int) < (A.length : Int) := by omega
      have hxx : (x != x) = false := by simp
      have hyy : (y != y) = false := by simp
      go_wp2_with fail
      go_quiet (fail)
      go_wp2_with fail
      go_roundw
      case rel =>
        refine ⟨k + 1, by omega, by go_num, ?_⟩
        (repeat (first | with_reducible exact Below.refl _ _ | with_reducible refine bl_alloc ?_ _ | with_reducible refine bl_drewN ?_ _ | with_reducible refine bl_drew ?_ | with_reducible refine bl_setCell ?_ (by first | exact Nat.le_refl _ | (dsimp only; omega) | (simp <;> omega)) _ | with_reducible refine bl_trans ?_ (by with_reducible assumption)))
      case measure => simp [intOf]; omega
    · go_wp2_with fail
      go_ret
      exact ⟨rfl, hbel⟩
end Go.Proofs.YtbgeobpdojmdaaaDoor
