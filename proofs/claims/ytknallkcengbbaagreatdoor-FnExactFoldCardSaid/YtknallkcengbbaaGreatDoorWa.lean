import Derived.Test.YtknallkcengbbaaGreatDoorRows
import Derived.WalkKit
import Derived.WalkSpells
import Derived.WalkLawsBesides
import Derived.Laws.Externs
import Derived.Deep.RegionWith
import Derived.Deep.DeepCutAuto
import Derived.Test.YtknallkcengbbaaGreatDoorFl
namespace Go.Proofs.YtknallkcengbbaaGreatDoor
open Go.RowKit

@[go_sem] theorem run_store_float (P : Program) (w : World) (a : Addr) (m : Mode) (k : FloatKind) (x : Nat) : (store a (.float k x) m).run P w = stored P w a (.float k x) m := run_store P w a _ m rfl

theorem bits_run (x : Nat) (w : World) : (callFunc 128 #[.float .f64 x]).run Tryz.prog w = .ok (.value (.int .u64 x)) w := by
  rw [run_callFunc_extern (e := Extern.MathFloatBits.float64bits) Tryz.func128 (by kernel_rfl) (by kernel_rfl) (by kernel_rfl) (by kernel_rfl)]
  rfl

theorem cast_zero (x : Nat) : ((x : Int) == 0) = plusB x := by
  unfold plusB; rw [Bool.eq_iff_iff]; simp

theorem plusB_false {x : Nat} (a : ¬ x = 0) : false = plusB x := by unfold plusB; rw [beq_eq_false_iff_ne.2 a]

theorem ret_bool {a b : Bool} (h : a = b) : Ending.returned (.bool a) = .returned (.bool b) := by rw [h]

set_option maxHeartbeats 400000 in
theorem plusZero_any (x : Nat) (w : World) :
    Calls Tryz.prog 114 #[.float .f64 x] w fun e w' => e = .returned (.bool (plusB x)) ∧ w' = w := by
  have hb := bits_run
  go_enter Tryz.func114, Tryz.ntmps114
  go_wp2
  go_ret
  exact ⟨ret_bool (cast_zero x), rfl⟩

set_option maxHeartbeats 400000 in
theorem l1Plus_any (x : Nat) (w : World) (hx : x < 18446744073709551616) :
    Calls Tryz.prog 104 #[.float .f64 x] w fun e w' => e = .returned (.bool (plusB x)) ∧ w' = w := by
  by_cases a : x = 0
  · subst a
    have hd := fun t w => run_float_arith (P := Tryz.prog) w .quo t .f64 4607182418800017408 0 9218868437227405312 div_one_pos
    have h1 : (FloatKind.f64.format.order 0 0 == some Ordering.eq) = true := order_zero 0 (by decide)
    have h2 : (FloatKind.f64.format.order 9218868437227405312 0 == some Ordering.gt) = true := inf_pos
    clear hx
    go_enter Tryz.func104, Tryz.ntmps104
    go_wp2
    go_ret
    exact ⟨rfl, rfl⟩
  · by_cases b : x = 9223372036854775808
    · obtain ⟨r, hr, h2⟩ : ∃ r, floatBits .quo .f64 4607182418800017408 x = some r ∧ (FloatKind.f64.format.order r 0 == some Ordering.gt) = false := ⟨18442240474082181120, by rw [b]; exact div_one_neg, inf_neg⟩
      have hd := fun t w => run_float_arith (P := Tryz.prog) w .quo t .f64 4607182418800017408 x r hr
      have h1 : (FloatKind.f64.format.order x 0 == some Ordering.eq) = true := by
        have := order_zero x hx
        rw [beq_iff_eq.2 b, Bool.or_true] at this; exact this
      clear hr b hx
      go_enter Tryz.func104, Tryz.ntmps104
      go_wp2
      go_ret
      exact ⟨ret_bool (plusB_false a), rfl⟩
    · have h1 : (FloatKind.f64.format.order x 0 == some Ordering.eq) = false := by
        have := order_zero x hx
        rw [beq_eq_false_iff_ne.2 a, beq_eq_false_iff_ne.2 b] at this; exact this
      clear b hx
      go_enter Tryz.func104, Tryz.ntmps104
      go_wp2
      go_ret
      exact ⟨ret_bool (plusB_false a), rfl⟩
end Go.Proofs.YtknallkcengbbaaGreatDoor
