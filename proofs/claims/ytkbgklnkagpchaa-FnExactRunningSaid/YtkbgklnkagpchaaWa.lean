import Derived.Test.YtkbgklnkagpchaaRows
import Derived.WalkKit
import Derived.WalkSpells
import Derived.WalkLawsBesides
import Derived.Laws.Externs
import Derived.Deep.RegionWith
import Derived.Deep.DeepCutAuto
import Derived.Test.YtkbgklnkagpchaaFl
namespace Go.Proofs.Ytkbgklnkagpchaa
open Go.RowKit

@[go_sem] theorem run_store_float (P : Program) (w : World) (a : Addr) (m : Mode) (k : FloatKind) (x : Nat) : (store a (.float k x) m).run P w = stored P w a (.float k x) m := run_store P w a _ m rfl

theorem cast_zero (x : Nat) : ((x : Int) == 0) = plusB x := by
  unfold plusB; rw [Bool.eq_iff_iff]; simp

theorem plusB_false {x : Nat} (a : ¬ x = 0) : false = plusB x := by unfold plusB; rw [beq_eq_false_iff_ne.2 a]

theorem ret_bool {a b : Bool} (h : a = b) : Ending.returned (.bool a) = .returned (.bool b) := by rw [h]

end Go.Proofs.Ytkbgklnkagpchaa
