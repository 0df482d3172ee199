import Derived.Test.YtpfamdpgcbpiaaaSi
import Derived.Deep.RegionHeld3
namespace Go.Proofs.Ytpfamdpgcbpiaaa
open Go.RowKit
set_option linter.unusedVariables false
set_option linter.unusedSimpArgs false

theorem OV.sameS {w w' : World} {B g n c : Nat} {L : List V4} (h : OV w B (.slice (some ⟨g, 0, none⟩) n c) L) (hs : g < w.heap.size → w'.heap[g]? = w.heap[g]?) : OV w' B (.slice (some ⟨g, 0, none⟩) n c) L :=
  h.same fun k hk hl => by
    simp only [Value.ownBlock, Option.some.injEq] at hk
    subst hk
    exact hs hl
/-- the mark behind the last one. -/
def mk (n m : Nat) : Int := 1 + 4 * (n : Int) + 4 * (m : Int)
theorem mk_pos (n m : Nat) : 0 ≤ mk n m := by unfold mk; omega
theorem ap_of {a b n m c d : Nat} (h : ¬ a = b) : Ap (.slice (some ⟨a, 0, none⟩) n c) (.slice (some ⟨b, 0, none⟩) m d) := fun g e1 e2 => by
  simp [Value.ownBlock] at e1 e2; omega
theorem ne_own {a k n c : Nat} (h : ¬ k = a) : ¬ (Value.slice (some ⟨a, 0, none⟩) n c).ownBlock = some k := fun e => by
  simp [Value.ownBlock] at e; omega
end Go.Proofs.Ytpfamdpgcbpiaaa
