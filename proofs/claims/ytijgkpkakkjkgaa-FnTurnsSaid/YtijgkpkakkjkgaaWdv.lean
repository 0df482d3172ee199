import Derived.Test.YtijgkpkakkjkgaaWdu
import Derived.Test.YtijgkpkakkjkgaaWr
namespace Go.Proofs.Ytijgkpkakkjkgaa
open Go.RowKit
set_option linter.unusedVariables false

set_option maxHeartbeats 1000000 in
theorem big_any (sl : Option Addr) (len cap : Nat) (w : World) :
    Calls Try.prog 8 #[.slice sl len cap] w fun e w' => e = .returned (.bool (decide (1048576 < (len : Int)))) ∧ w' = w := by
  go_enter Try.func8, Try.ntmps8
  go_wp2
  go_ret
  exact ⟨rfl, rfl⟩

set_option maxHeartbeats 1000000 in
theorem at_any (sl : Option Addr) (len cap : Nat) (i : Nat) (w : World) (hi : i ≤ 4) (hl : len ≤ 1048576) (hC : Code w sl len) :
    Calls Try.prog 26 #[.slice sl len cap, .int .i64 i] w fun e w' => ∃ r : Int, e = .returned (.int .i64 r) ∧ 0 ≤ r ∧ r ≤ 255 ∧ w' = w := by
  by_cases hlt : i < len
  · obtain ⟨pb, po, rfl, hp, hby⟩ : ∃ pb po, sl = some ⟨pb, po, none⟩ ∧ pb < w.heap.size ∧ ∀ j, j < len → ∃ c : Int, 0 ≤ c ∧ c ≤ 255 ∧ w.cell? ⟨pb, po + j, none⟩ = some (.int .u8 c) := by
      rcases hC with h0 | h0
      · omega
      · exact h0
    obtain ⟨c, c1, c2, hc⟩ := hby i hlt
    clear hby hC
    have hlt' : (i : Int) < (len : Int) := by omega
    go_enter Try.func26, Try.ntmps26
    go_wp2
    go_ret
    exact ⟨_, rfl, c1, c2, rfl⟩
  · have hlt' : ¬ (i : Int) < (len : Int) := by omega
    go_enter Try.func26, Try.ntmps26
    go_wp2
    go_ret
    exact ⟨_, rfl, Int.emod_nonneg _ (by omega), by omega, rfl⟩

end Go.Proofs.Ytijgkpkakkjkgaa
