import Derived.Test.YtbgeobpdojmdaaaDoorG34
namespace Go.Proofs.YtbgeobpdojmdaaaDoor
open Go.RowKit
set_option linter.unusedVariables false
set_option linter.unusedSimpArgs false

end Go.Proofs.YtbgeobpdojmdaaaDoor
