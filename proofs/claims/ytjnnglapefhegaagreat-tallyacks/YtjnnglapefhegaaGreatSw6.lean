import Derived.Test.YtjnnglapefhegaaGreatSw5
namespace Go.Proofs.YtjnnglapefhegaaGreat
open Go.RowKit Go.Maps
set_option linter.unusedVariables false
set_option linter.unusedSimpArgs false

theorem An.ifdraw (x : An) (w : World) : (invoke (.fn (.method "amnesia/tally.draw") #[]) #[.iface 117 x.val]).run Tryz.prog w = .ok (.enter 123 #[x.val]) w := by kernel_rfl
end Go.Proofs.YtjnnglapefhegaaGreat
