import Derived.Test.YtomiifnhcojilaaS18
namespace Go.Proofs.Ytomiifnhcojilaa
open Go.RowKit Go.Maps
open Classical
set_option linter.unusedVariables false
set_option linter.unusedSimpArgs false

def prStep (p : Nat) (l : List Nat) : List Nat := if l.all (fun x => !decide (p % x = 0)) then l ++ [p] else l
def prS : Nat → List Nat
  | 0 => []
  | k + 1 => prStep (k + 2) (prS k)
def prL : List Nat := [2, 3, 5, 7, 11, 13, 17, 19, 23, 29, 31, 37, 41, 43, 47, 53, 59, 61, 67, 71, 73, 79, 83, 89, 97, 101, 103, 107, 109, 113, 127, 131, 137, 139, 149, 151, 157, 163, 167, 173, 179, 181, 191, 193, 197, 199, 211, 223, 227, 229, 233, 239, 241, 251, 257, 263, 269, 271, 277, 281, 283, 293, 307, 311]
theorem prS_310 : prS 310 = prL := by kernel_rfl
theorem prS_309 : (prS 309).length = 63 := by kernel_rfl
theorem tab_k : prL.map (fun p => ((rootF p : Nat) : Int)) = kT9 := by kernel_rfl

end Go.Proofs.Ytomiifnhcojilaa
