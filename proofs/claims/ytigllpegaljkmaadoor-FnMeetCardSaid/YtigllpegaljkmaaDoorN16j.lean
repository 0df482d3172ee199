import Derived.Test.YtigllpegaljkmaaDoorN15j
import Derived.Test.YtigllpegaljkmaaDoorN11j
namespace Go.Proofs.YtigllpegaljkmaaDoor
open Go.RowKit
set_option linter.unusedVariables false
set_option linter.unusedSimpArgs false

theorem next_B {A : List Int} {k : Int} {x : Nat} (hx : x < A.length) (h : (k = 1 ∧ A.getD x 0 = 1) ∨ (k = 2 ∧ A.getD x 0 = 0)) : nb (fun i => if k = 2 then fB A i || decide (i = x) else fB A i) = nb (fB (doM A (k, (x : Int)))) := by
  refine nb_congr fun i _ => ?_
  rcases h with ⟨rfl, h1⟩ | ⟨rfl, h1⟩
  · rw [end_B hx h1]; simp
  · rw [beg_B hx]; simp
theorem next_D {A : List Int} {k : Int} {x : Nat} (hx : x < A.length) (h : (k = 1 ∧ A.getD x 0 = 1) ∨ (k = 2 ∧ A.getD x 0 = 0)) : nb (fun i => if k = 2 then fD A i else fD A i || decide (i = x)) = nb (fD (doM A (k, (x : Int)))) := by
  refine nb_congr fun i _ => ?_
  rcases h with ⟨rfl, h1⟩ | ⟨rfl, h1⟩
  · rw [end_D hx]; simp
  · rw [beg_D hx h1]; simp
theorem nb_B0 (m : Nat) : nb (fB (List.replicate m 0)) = 0 := by rw [nb_congr (g := fun _ => false) (fun i _ => zeros_B m i), nb_zero]
theorem nb_D0 (m : Nat) : nb (fD (List.replicate m 0)) = 0 := by rw [nb_congr (g := fun _ => false) (fun i _ => zeros_D m i), nb_zero]

end Go.Proofs.YtigllpegaljkmaaDoor
