import Derived.Test.YtjnnglapefhegaaGreatSw3
namespace Go.Proofs.YtjnnglapefhegaaGreat
open Go.RowKit Go.Maps
set_option linter.unusedVariables false
set_option linter.unusedSimpArgs false

end Go.Proofs.YtjnnglapefhegaaGreat
