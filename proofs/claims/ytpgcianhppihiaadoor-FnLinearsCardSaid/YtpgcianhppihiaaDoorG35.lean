import Derived.Test.YtpgcianhppihiaaDoorG34
namespace Go.Proofs.YtpgcianhppihiaaDoor
open Go.RowKit
set_option linter.unusedVariables false
set_option linter.unusedSimpArgs false

end Go.Proofs.YtpgcianhppihiaaDoor
