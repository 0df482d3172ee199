import Derived.Test.YtgcfhoojjgcpiaaAi
import Derived.Test.YtgcfhoojjgcpiaaAh
import Derived.Test.YtgcfhoojjgcpiaaSk
namespace Go.Proofs.Ytgcfhoojjgcpiaa
open Go.RowKit
set_option linter.unusedVariables false
set_option linter.unusedSimpArgs false

theorem one8 {p0 p1 p2 p3 p4 p5 p6 p7 : Option Addr} {n0 n1 n2 n3 n4 n5 n6 n7 : Nat} {m0 m1 m2 m3 m4 m5 m6 m7 : Nat} : (#[.slice p0 n0 m0, .slice p1 n1 m1, .slice p2 n2 m2, .slice p3 n3 m3, .slice p4 n4 m4, .slice p5 n5 m5, .slice p6 n6 m6, .slice p7 n7 m7] : Array Value).all (·.oneCell') = true := by simp [Value.oneCell']
theorem Try.infoLs : (Try.prog.info? 46).map (·.size) = some 8 := by kernel_rfl
set_option maxRecDepth 100000 in
set_option maxHeartbeats 4000000 in
theorem listsOf_any (s0 s1 s2 s3 s4 s5 s6 s7 : Option Addr) (c0 c1 c2 c3 c4 c5 c6 c7 : Nat) (e : Ef) (w : World) :
    Calls Try.prog 26 #[.agg #[.slice s0 e.l0.length c0, .slice s1 e.l1.length c1, .slice s2 e.l2.length c2, .slice s3 e.l3.length c3, .slice s4 e.l4.length c4, .slice s5 e.l5.length c5, .slice s6 e.l6.length c6, .slice s7 e.l7.length c7, .bool e.sp, .bool e.kl]] w fun z w' => z = .returned (.agg #[.slice s0 e.l0.length c0, .slice s1 e.l1.length c1, .slice s2 e.l2.length c2, .slice s3 e.l3.length c3, .slice s4 e.l4.length c4, .slice s5 e.l5.length c5, .slice s6 e.l6.length c6, .slice s7 e.l7.length c7]) ∧ Below w.heap.size w w' := by
  obtain ⟨k0, k1, LX⟩ := blkTwoE w #[.slice s0 e.l0.length c0, .slice s1 e.l1.length c1, .slice s2 e.l2.length c2, .slice s3 e.l3.length c3, .slice s4 e.l4.length c4, .slice s5 e.l5.length c5, .slice s6 e.l6.length c6, .slice s7 e.l7.length c7, .bool e.sp, .bool e.kl] #[.slice s0 e.l0.length c0, .slice s1 e.l1.length c1, .slice s2 e.l2.length c2, .slice s3 e.l3.length c3, .slice s4 e.l4.length c4, .slice s5 e.l5.length c5, .slice s6 e.l6.length c6, .slice s7 e.l7.length c7] 27 46
  go_enter Try.func26, Try.ntmps26
  go_wp2_with fail
  refine bodyPost_ret (v := .agg #[.slice s0 e.l0.length c0, .slice s1 e.l1.length c1, .slice s2 e.l2.length c2, .slice s3 e.l3.length c3, .slice s4 e.l4.length c4, .slice s5 e.l5.length c5, .slice s6 e.l6.length c6, .slice s7 e.l7.length c7]) (results_cell_row (P := Try.prog) Try.results26 _ _ (w.heap.size + 1) _ _ _ _ rfl k1 Try.underlying46 rfl (by rw [Try.infoLs]; rfl)) rfl ⟨rfl, LX⟩
end Go.Proofs.Ytgcfhoojjgcpiaa
