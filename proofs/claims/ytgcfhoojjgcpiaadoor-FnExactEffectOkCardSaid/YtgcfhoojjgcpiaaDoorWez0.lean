import Derived.Test.YtgcfhoojjgcpiaaDoorMb
namespace Go.Proofs.YtgcfhoojjgcpiaaDoor
open Go.RowKit
set_option maxHeartbeats 400000 in
theorem isKind_any (k : Int) (w : World) :
    Calls Tryd.prog 36 #[.int .i64 k] w fun e w' => e = .returned (.bool (decide (1 ≤ k) && decide (k ≤ 4))) ∧ w' = w := by
  by_cases h1 : 1 ≤ k
  · have E : Hid (decide (k ≤ 4) = (decide (1 ≤ k) && decide (k ≤ 4))) := by simp [Hid, h1]
    go_enter Tryd.func36, Tryd.ntmps36
    go_wp2
    go_ret
    exact ⟨ret_boolw E.out, rfl⟩
  · have E : Hid (false = (decide (1 ≤ k) && decide (k ≤ 4))) := by simp [Hid, h1]
    go_enter Tryd.func36, Tryd.ntmps36
    go_wp2
    go_ret
    exact ⟨ret_boolw E.out, rfl⟩

end Go.Proofs.YtgcfhoojjgcpiaaDoor
