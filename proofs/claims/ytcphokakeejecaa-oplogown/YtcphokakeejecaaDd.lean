import Derived.Test.YtcphokakeejecaaGCi
import Derived.Test.YtcphokakeejecaaGYa
namespace Go.Proofs.Ytcphokakeejecaa
open Go.RowKit Go.Maps
set_option linter.unusedVariables false
set_option linter.unusedSimpArgs false

end Go.Proofs.Ytcphokakeejecaa
