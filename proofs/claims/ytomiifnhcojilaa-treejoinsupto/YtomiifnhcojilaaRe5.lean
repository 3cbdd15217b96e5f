import Derived.Test.YtomiifnhcojilaaRe4
import Derived.Test.YtomiifnhcojilaaGRf
namespace Go.Proofs.Ytomiifnhcojilaa
open Go.RowKit Go.Maps
open Classical
set_option linter.unusedVariables false

theorem joins_came20 (A0 B0 : List En) (a : Option Addr) (n0 c : Nat) (a2 : Option Addr) (m0 c2 : Nat) (Q : List Hs) (a3 : Option Addr) (k c3 : Nat) (mine : Bool) (w : World) (hA0 : SlY yE w a n0 c A0) (hB0 : SlY yE w a2 m0 c2 B0) (hP : SlY yH w a3 k c3 Q) (hk : Q.length ≤ 1048576) (hvA0 : ∀ x ∈ A0, x.o.v.size ≤ 140737488350000) (hvB0 : ∀ x ∈ B0, x.o.v.size ≤ 140737488350000) :
    Calls Try.prog 9 #[.slice a n0 c, .slice a2 m0 c2, .slice a3 k c3, .bool mine] w fun e w' => e = .returned (.bool true) ∧ Below w.heap.size w w' :=
  joins20 A0 B0 a n0 c a2 m0 c2 Q a3 k c3 mine w hA0 hB0 hP (by have := hP.len; omega) hvA0 hvB0

end Go.Proofs.Ytomiifnhcojilaa
