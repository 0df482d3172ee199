import Derived.Test.YtmhiddepddgfgabEh
import Derived.Deep.QuietTactic
import Derived.BigQuiet
namespace Go.Proofs.Ytmhiddepddgfgab
open Go.RowKit
set_option linter.unusedVariables false

/-- is a thing live, of right things. -/
def l2B (G F : List Int) (at0 gen : Int) : Bool := decide (0 ≤ at0 ∧ at0 < G.length ∧ G[at0.toNat]?.getD 0 = gen ∧ ¬ at0 ∈ F)

theorem Blk.one {w : World} {n : Nat} {a b : Value} {t : TypeId} (h : Blk w n #[a, b] t) : w.cell? ⟨n, 0, none⟩ = some a ∧ w.cell? ⟨n, 1, none⟩ = some b := ⟨h.cell 0, h.cell 1⟩

set_option maxHeartbeats 1000000 in
theorem toEnt_any (a g : Int) (w : World) :
    Calls Try.prog 32 #[.agg #[.int .i64 a, .int .i64 g]] w fun e w' => e = .returned (.agg #[.int .i64 a, .int .i64 g]) ∧ Below w.heap.size w w' := by
  go_enter Try.func32, Try.ntmps32
  go_wp2_with fail
  refine bodyPost_ret (v := .agg #[.int .i64 a, .int .i64 g]) (by simp [results, Try.results32, go_sem]) rfl ⟨rfl, ?_⟩
  (repeat (first | with_reducible exact Below.refl _ _ | with_reducible refine bl_alloc ?_ _ | with_reducible refine bl_drewN ?_ _ | with_reducible refine bl_drew ?_ | with_reducible refine bl_setCell ?_ (by first | exact Nat.le_refl _ | (dsimp only; omega) | (simp <;> omega)) _ | with_reducible refine bl_trans ?_ (by with_reducible assumption)))

theorem mem_take_false {F : List Int} {k : Nat} {v : Int} (hk : k < F.length) (h : ¬ v ∈ F.take k) (hx : ¬ F[k]?.getD 0 = v) : ¬ v ∈ F.take (k + 1) := by
  rw [take_succ' F k hk, List.mem_append]
  rintro (h1 | h1)
  · exact h h1
  · simp at h1; exact hx h1.symm

theorem l1In_is (x lo hi : Int) (w : World) (b : Bool) (h : (decide (lo ≤ x) && decide (x ≤ hi)) = b) :
    Calls Try.prog 38 #[.int .i64 x, .int .i64 lo, .int .i64 hi] w fun e w' => e = .returned (.bool b) ∧ w' = w := by
  subst h; exact l1In_any x lo hi w

end Go.Proofs.Ytmhiddepddgfgab
