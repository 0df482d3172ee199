import Derived.Test.YtgcfhoojjgcpiaaQf
import Derived.Test.YtgcfhoojjgcpiaaTc
namespace Go.Proofs.Ytgcfhoojjgcpiaa
open Go.RowKit
set_option linter.unusedVariables false
set_option linter.unusedSimpArgs false

end Go.Proofs.Ytgcfhoojjgcpiaa
