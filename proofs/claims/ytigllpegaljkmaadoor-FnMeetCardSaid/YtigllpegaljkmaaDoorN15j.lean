import Derived.Test.YtigllpegaljkmaaDoorN14j
namespace Go.Proofs.YtigllpegaljkmaaDoor
open Go.RowKit
set_option linter.unusedVariables false
set_option linter.unusedSimpArgs false

theorem Tryd.infoPr2 : (Tryd.prog.info? 78).map (·.size) = some 2 := by kernel_rfl
theorem Tryd.infoMv2 : (Tryd.prog.info? 62).map (·.size) = some 2 := by kernel_rfl
theorem load_two {w : World} {b : Nat} {x y : Value} (h : Blk w b #[x, y] 78) : (loadVar 78 ⟨b, 0, none⟩).run Tryd.prog w = .ok (.agg #[x, y]) w :=
  run_loadVar_row w b _ _ _ _ _ h Tryd.underlying78 rfl (by rw [Tryd.infoPr2]; rfl)
theorem load_mv {w : World} {b : Nat} {x y : Value} (h : Blk w b #[x, y] 62) : (loadVar 62 ⟨b, 0, none⟩).run Tryd.prog w = .ok (.agg #[x, y]) w :=
  run_loadVar_row w b _ _ _ _ _ h Tryd.underlying62 rfl (by rw [Tryd.infoMv2]; rfl)
theorem mem_take1 {L : List (Int × Int)} {m : Int × Int} {j : Nat} (h : j < L.length) : m ∈ L.take (j + 1) ↔ m ∈ L.take j ∨ m = L[j]?.getD (0, 0) := by
  rw [takeE_succ L j h, List.mem_append, List.mem_singleton]

end Go.Proofs.YtigllpegaljkmaaDoor
