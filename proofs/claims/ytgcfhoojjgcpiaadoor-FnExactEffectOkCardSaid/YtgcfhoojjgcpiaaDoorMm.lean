import Derived.Test.YtgcfhoojjgcpiaaDoorMl
namespace Go.Proofs.YtgcfhoojjgcpiaaDoor
open Go.RowKit Go.Maps Go.WideMaps
set_option linter.unusedVariables false
set_option linter.unusedSimpArgs false

/-- a list of declarations that came in. -/
def Dc (w : World) (s : Option Addr) (L : List (ByteArray × Int)) : Prop := Decls w s L ∧ Nms L ∧ L.length ≤ maxLen
theorem nms3 {A B C : List (ByteArray × Int)} (a : Nms A) (b : Nms B) (c : Nms C) : ∀ i, i < (A ++ B ++ C).length → (dAt (A ++ B ++ C) i).1.size ≤ maxLen := by
  intro i hi
  have := dAt_mem hi
  rw [List.mem_append, List.mem_append] at this
  rcases this with (h | h) | h
  · exact a _ h
  · exact b _ h
  · exact c _ h

end Go.Proofs.YtgcfhoojjgcpiaaDoor
