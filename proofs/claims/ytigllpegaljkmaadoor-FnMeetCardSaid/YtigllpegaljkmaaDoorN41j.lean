import Derived.Test.YtigllpegaljkmaaDoorN40j
import Derived.Test.YtigllpegaljkmaaDoorN16j
namespace Go.Proofs.YtigllpegaljkmaaDoor
open Go.RowKit Go.Maps Go.WideMaps
set_option linter.unusedVariables false
set_option linter.unusedSimpArgs false
set_option maxRecDepth 100000

theorem makeWays (w : World) : (Instr.makeMap 80 none).run Tryd.prog w = .ok (.map (some w.heap.size)) (w.alloc (.map #[] 0)) := by kernel_rfl
/-- the map with the one way that is there at first: none, to where nothing has begun. -/
theorem WM.one {w : World} {b : Nat} (h : PM w b 0 (fun _ => none)) (n B : Nat) :
    ∃ w', (Instr.mapUpdate 80 (.map (some b)) (.agg #[.int .u16 0, .int .u16 0]) (.slice none 0 0)).run Tryd.prog w = .ok () w' ∧ WM w' B b [(List.replicate n 0, [])] ∧ w.mapTurned w' b := by
  obtain ⟨w', h1, h2, h3⟩ := h.put (by unfold maxLen; omega) (pkey_b (List.replicate n 0)) (.slice none 0 0)
  have e1 : (pkey (List.replicate n 0)).1 = 0 := nb_B0 n
  have e2 : (pkey (List.replicate n 0)).2 = 0 := nb_D0 n
  rw [e1, e2] at h1
  refine ⟨w', h1, ⟨_, h2, fun q hq => ?_, fun e he hall => ?_⟩, h3⟩
  · simp only [List.mem_singleton] at hq
    subst hq
    exact ⟨.slice none 0 0, by simp [pmSet], MRow.nil _ _⟩
  · have hne : ¬ e = pkey (List.replicate n 0) := fun q => hall _ (List.mem_singleton.2 rfl) q.symm
    simp [pmSet, hne]
theorem WM.made (w : World) : PM (w.alloc (.map #[] 0)) w.heap.size 0 (fun _ => none) := PM.fresh (World.ownsMap_made w Tryd.prog 78 anyElem)
end Go.Proofs.YtigllpegaljkmaaDoor
