import Derived.Test.YtbgeobpdojmdaaaDoorG60
import Derived.Test.YtbgeobpdojmdaaaDoorG61
import Derived.Test.YtbgeobpdojmdaaaDoorG55
namespace Go.Proofs.YtbgeobpdojmdaaaDoor
open Go.RowKit
set_option linter.unusedVariables false
set_option linter.unusedSimpArgs false

/-- the answers of the functions, their lists and words by name. -/
def Ans (w : World) (A : List Int) (ok : Bool) (e : Ending) (w' : World) : Prop :=
  ∃ s c, e = .returned (.tuple #[.slice s A.length c, .bool ok]) ∧ VRow w' w.heap.size (.slice s A.length c) A ∧ Below w.heap.size w w'
theorem specCanon_is (n : Int) (s : Option Addr) (c : Nat) (L : List (Int × Int)) (A : List Int) (ok : Bool) (w : World) (hL : Eds w s L) (hl : L.length ≤ 1048576) (hA : (canB n L).getD [] = A) (ho : (canB n L).isSome = ok) :
    Calls Tryd.prog 7 #[.int .i64 n, .slice s L.length c] w fun e w' => Ans w A ok e w' := by
  subst hA; subst ho; exact specCanon_any n s c L w hL hl
theorem implCanon_is (n : Int) (s : Option Addr) (c : Nat) (L : List (Int × Int)) (A : List Int) (ok : Bool) (w : World) (hL : Eds w s L) (hl : L.length ≤ 1048576) (hT : DbT w) (hA : (canB n L).getD [] = A) (ho : (canB n L).isSome = ok) :
    Calls Tryd.prog 15 #[.int .i64 n, .slice s L.length c] w fun e w' => Ans w A ok e w' := by
  subst hA; subst ho; exact implCanon_any n s c L w hL hl hT
theorem specGraphOk_is (n : Int) (s : Option Addr) (c : Nat) (L : List (Int × Int)) (g : Bool) (w : World) (hL : Eds w s L) (hl : L.length ≤ 1048576) (hg : gOk n L = g) :
    Calls Tryd.prog 19 #[.int .i64 n, .slice s L.length c] w fun e w' => e = .returned (.bool g) ∧ w' = w := by
  subst hg; exact specGraphOk_any n s c L w hL hl
end Go.Proofs.YtbgeobpdojmdaaaDoor
