import Derived.Test.YtlnijfpflebfkabKl
namespace Go.Proofs.Ytlnijfpflebfkab
open Go.RowKit Go.Maps
set_option linter.unusedVariables false
set_option linter.unusedSimpArgs false

end Go.Proofs.Ytlnijfpflebfkab
