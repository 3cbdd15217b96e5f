import Derived.Test.YthhghenaflnlfaaGv
namespace Go.Proofs.Ythhghenaflnlfaa
open Go.RowKit
set_option linter.unusedVariables false

end Go.Proofs.Ythhghenaflnlfaa
