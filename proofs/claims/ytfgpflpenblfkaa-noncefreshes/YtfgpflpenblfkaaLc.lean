import Derived.Test.YtfgpflpenblfkaaLb
namespace Go.Proofs.Ytfgpflpenblfkaa
open Go.RowKit Go.Maps
set_option linter.unusedVariables false

end Go.Proofs.Ytfgpflpenblfkaa
