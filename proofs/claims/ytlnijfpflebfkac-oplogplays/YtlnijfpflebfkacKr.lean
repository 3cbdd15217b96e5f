import Derived.Test.YtlnijfpflebfkacKp
import Derived.Test.YtlnijfpflebfkacKm
import Derived.Test.YtlnijfpflebfkacDo
namespace Go.Proofs.Ytlnijfpflebfkac
open Go.RowKit Go.Maps
set_option linter.unusedVariables false
set_option linter.unusedSimpArgs false

end Go.Proofs.Ytlnijfpflebfkac
