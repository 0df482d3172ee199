import Derived.Test.YtpfamdpgcbpiaaaSh
namespace Go.Proofs.Ytpfamdpgcbpiaaa
open Go.RowKit
set_option linter.unusedVariables false
set_option linter.unusedSimpArgs false

theorem Blk.off {w : World} {n : Nat} {c : Array Value} {t : TypeId} (h : Blk w n c t) {B g m k : Nat} {L : List V4} (hv : OV w B (.slice (some ⟨g, 0, none⟩) m k) L) (hB : n < B) : ¬ n = g := by
  have := (hv.lt g rfl).1
  omega

end Go.Proofs.Ytpfamdpgcbpiaaa
