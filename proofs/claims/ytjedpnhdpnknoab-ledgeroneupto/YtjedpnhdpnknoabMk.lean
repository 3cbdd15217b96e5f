import Derived.Test.YtjedpnhdpnknoabMb
namespace Go.Proofs.Ytjedpnhdpnknoab
open Go.RowKit
set_option linter.unusedVariables false

end Go.Proofs.Ytjedpnhdpnknoab
