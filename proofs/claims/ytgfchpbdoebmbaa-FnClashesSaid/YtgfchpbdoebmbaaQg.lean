import Derived.Test.YtgfchpbdoebmbaaQf
import Derived.Test.YtgfchpbdoebmbaaTc
namespace Go.Proofs.Ytgfchpbdoebmbaa
open Go.RowKit
set_option linter.unusedVariables false
set_option linter.unusedSimpArgs false

end Go.Proofs.Ytgfchpbdoebmbaa
