import Derived.Test.YtgcfhoojjgcpiaaAb
namespace Go.Proofs.Ytgcfhoojjgcpiaa
open Go.RowKit
set_option linter.unusedVariables false
set_option linter.unusedSimpArgs false

def cmdB (e : Ef) : Bool := e.sp || e.kl || decide (0 < e.l7.length)

set_option maxRecDepth 100000 in
set_option maxHeartbeats 4000000 in
theorem specCommands_any (s0 s1 s2 s3 s4 s5 s6 s7 : Option Addr) (c0 c1 c2 c3 c4 c5 c6 c7 : Nat) (e : Ef) (w : World) :
    Calls Try.prog 8 #[.agg #[.slice s0 e.l0.length c0, .slice s1 e.l1.length c1, .slice s2 e.l2.length c2, .slice s3 e.l3.length c3, .slice s4 e.l4.length c4, .slice s5 e.l5.length c5, .slice s6 e.l6.length c6, .slice s7 e.l7.length c7, .bool e.sp, .bool e.kl]] w fun z w' => z = .returned (.bool (cmdB e)) ∧ Below w.heap.size w w' := by
  obtain ⟨l0, l1, l2, l3, l4, l5, l6, l7, sp, kl⟩ := e
  go_enter Try.func8, Try.ntmps8
  cases sp <;> cases kl
  all_goals
    go_wp2_with fail
    go_ret
    refine ⟨by simp [cmdB], ?_⟩
    (repeat (first | with_reducible exact Below.refl _ _ | with_reducible refine bl_alloc ?_ _ | with_reducible refine bl_drewN ?_ _ | with_reducible refine bl_drew ?_ | with_reducible refine bl_setCell ?_ (by first | exact Nat.le_refl _ | (dsimp only; omega) | (simp <;> omega)) _ | with_reducible refine bl_trans ?_ (by with_reducible assumption)))
set_option maxRecDepth 100000 in
set_option maxHeartbeats 4000000 in
theorem implCommands_any (s0 s1 s2 s3 s4 s5 s6 s7 : Option Addr) (c0 c1 c2 c3 c4 c5 c6 c7 : Nat) (e : Ef) (w : World) :
    Calls Try.prog 10 #[.agg #[.slice s0 e.l0.length c0, .slice s1 e.l1.length c1, .slice s2 e.l2.length c2, .slice s3 e.l3.length c3, .slice s4 e.l4.length c4, .slice s5 e.l5.length c5, .slice s6 e.l6.length c6, .slice s7 e.l7.length c7, .bool e.sp, .bool e.kl]] w fun z w' => z = .returned (.bool (cmdB e)) ∧ Below w.heap.size w w' := by
  have k0 := Blk.new w #[.slice s0 e.l0.length c0, .slice s1 e.l1.length c1, .slice s2 e.l2.length c2, .slice s3 e.l3.length c3, .slice s4 e.l4.length c4, .slice s5 e.l5.length c5, .slice s6 e.l6.length c6, .slice s7 e.l7.length c7, .bool e.sp, .bool e.kl] 27
  have L0 : Below w.heap.size w (w.alloc (.cells #[.slice s0 e.l0.length c0, .slice s1 e.l1.length c1, .slice s2 e.l2.length c2, .slice s3 e.l3.length c3, .slice s4 e.l4.length c4, .slice s5 e.l5.length c5, .slice s6 e.l6.length c6, .slice s7 e.l7.length c7, .bool e.sp, .bool e.kl] 27)) := bl_alloc (Below.refl _ _) _
  obtain ⟨x0, x1, x2, x3, x4, x5, x6, x7, x8, x9, xf⟩ := k0.ten
  go_enter Try.func10, Try.ntmps10
  go_wp2_with fail
  refine (flagsOf_any s0 s1 s2 s3 s4 s5 s6 s7 c0 c1 c2 c3 c4 c5 c6 c7 e _).mono ?_
  rintro z w1 ⟨rfl, hb1⟩
  replace L0 := bl_trans L0 hb1
  replace k0 := k0.later hb1
  have hcmp : ∀ W : World, (Op.equalIn 10000 44 (.agg (tch (flg e.sp e.kl))) (.agg Try.zeroCells44)).run Try.prog W = .ok (!(e.sp || e.kl)) W := by
    intro W
    rw [Try.zeroTo, sets_equal _ _ (flg_len _ _) (by simp) W, ← flg_none]
    congr 1
    rw [Bool.eq_iff_iff, decide_eq_true_eq, flg_inj]
    cases e.sp <;> cases e.kl <;> simp
  generalize hT : tch (flg e.sp e.kl) = T at hcmp
  clear hT hb1 x0 x1 x2 x3 x4 x5 x6 x7 x8 x9 xf
  obtain ⟨x0, x1, x2, x3, x4, x5, x6, x7, x8, x9, xf⟩ := k0.ten
  have hS : cmdB e = (e.sp || e.kl || decide (0 < e.l7.length)) := rfl
  cases hF : (e.sp || e.kl)
  all_goals
    rw [hF] at hcmp hS
    go_wp2_with fail
    go_ret
    exact ⟨by simp [hS], L0⟩
end Go.Proofs.Ytgcfhoojjgcpiaa
