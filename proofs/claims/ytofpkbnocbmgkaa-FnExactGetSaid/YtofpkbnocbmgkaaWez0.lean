import Derived.Test.YtofpkbnocbmgkaaMb
namespace Go.Proofs.Ytofpkbnocbmgkaa
open Go.RowKit
set_option maxHeartbeats 400000 in
theorem isKind_any (k : Int) (w : World) :
    Calls Try.prog 133 #[.int .i64 k] w fun e w' => e = .returned (.bool (decide (1 ≤ k) && decide (k ≤ 4))) ∧ w' = w := by
  by_cases h1 : 1 ≤ k
  · have E : Hid (decide (k ≤ 4) = (decide (1 ≤ k) && decide (k ≤ 4))) := by simp [Hid, h1]
    go_enter Try.func133, Try.ntmps133
    go_wp2
    go_ret
    exact ⟨ret_boolw E.out, rfl⟩
  · have E : Hid (false = (decide (1 ≤ k) && decide (k ≤ 4))) := by simp [Hid, h1]
    go_enter Try.func133, Try.ntmps133
    go_wp2
    go_ret
    exact ⟨ret_boolw E.out, rfl⟩

end Go.Proofs.Ytofpkbnocbmgkaa
