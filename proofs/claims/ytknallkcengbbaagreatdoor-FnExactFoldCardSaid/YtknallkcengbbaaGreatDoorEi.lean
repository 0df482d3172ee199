import Derived.Test.YtknallkcengbbaaGreatDoorEh
import Derived.Deep.QuietTactic
import Derived.BigQuiet
namespace Go.Proofs.YtknallkcengbbaaGreatDoor
open Go.RowKit
set_option linter.unusedVariables false

/-- is a thing live, of right things. -/
def l2B (G F : List Int) (at0 gen : Int) : Bool := decide (0 ≤ at0 ∧ at0 < G.length ∧ G[at0.toNat]?.getD 0 = gen ∧ ¬ at0 ∈ F)

theorem Blk.one {w : World} {n : Nat} {a b : Value} {t : TypeId} (h : Blk w n #[a, b] t) : w.cell? ⟨n, 0, none⟩ = some a ∧ w.cell? ⟨n, 1, none⟩ = some b := ⟨h.cell 0, h.cell 1⟩

theorem mem_take_false {F : List Int} {k : Nat} {v : Int} (hk : k < F.length) (h : ¬ v ∈ F.take k) (hx : ¬ F[k]?.getD 0 = v) : ¬ v ∈ F.take (k + 1) := by
  rw [take_succ' F k hk, List.mem_append]
  rintro (h1 | h1)
  · exact h h1
  · simp at h1; exact hx h1.symm

theorem l1In_is (x lo hi : Int) (w : World) (b : Bool) (h : (decide (lo ≤ x) && decide (x ≤ hi)) = b) :
    Calls Tryz.prog 47 #[.int .i64 x, .int .i64 lo, .int .i64 hi] w fun e w' => e = .returned (.bool b) ∧ w' = w := by
  subst h; exact l1In_any x lo hi w

end Go.Proofs.YtknallkcengbbaaGreatDoor
