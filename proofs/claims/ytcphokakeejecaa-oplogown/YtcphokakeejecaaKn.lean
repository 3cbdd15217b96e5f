import Derived.Test.YtcphokakeejecaaKl
namespace Go.Proofs.Ytcphokakeejecaa
open Go.RowKit Go.Maps
set_option linter.unusedVariables false
set_option linter.unusedSimpArgs false

end Go.Proofs.Ytcphokakeejecaa
