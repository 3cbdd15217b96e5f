import Derived.Test.YtolnkoneilipeaaGCi
import Derived.Test.YtolnkoneilipeaaGYa
namespace Go.Proofs.Ytolnkoneilipeaa
open Go.RowKit Go.Maps
open Classical
set_option linter.unusedVariables false
set_option linter.unusedSimpArgs false

end Go.Proofs.Ytolnkoneilipeaa
