import Derived.Test.YtdgelllmngdpkaaDy
import Derived.Test.YtdgelllmngdpkaaDy2
import Derived.Test.YtdgelllmngdpkaaDy3
import Derived.Test.YtdgelllmngdpkaaDy4
import Derived.Test.YtdgelllmngdpkaaDy5
import Derived.Test.YtdgelllmngdpkaaDy6
import Derived.Test.YtdgelllmngdpkaaDy7
import Derived.Test.YtdgelllmngdpkaaDy8
import Derived.Test.YtdgelllmngdpkaaDy9
namespace Go.Proofs.Ytdgelllmngdpkaa
open Go.RowKit
set_option linter.unusedVariables false

/-- does, of whatever operation. -/
theorem does_any (b t c p q m s d x y z B : Nat) (L : List (Int × Int)) (al : Option Addr) (cl : Nat) (R rp : Int) (np : Nat) (rq : Int) (nq : Nat) (S : Int) (k : Nat) (vx vy : Value) (ax : Option Addr) (cs : Nat) (K : Int) (who : Bool) (N : Int) (hN : 0 ≤ N ∧ N ≤ 18446744073709551615) (w : World) (h : SS w b t c p q m s d x y z B L al cl R rp np rq nq S k vx vy ax cs) :
    Calls Try.prog 10 #[.pointer (some ⟨t, 0, none⟩), .agg #[.int .i64 K, .bool who, .int .u64 N]] w fun e w' => e = .returned (.bool true) ∧ Left w b t c p q m s d x y z B L al cl w' := by
  by_cases k0 : K = 0
  · subst k0; cases who; exact does0f _ _ _ _ _ _ _ _ _ _ _ _ _ _ _ _ _ _ _ _ _ _ _ _ _ _ N hN w h; exact does0t _ _ _ _ _ _ _ _ _ _ _ _ _ _ _ _ _ _ _ _ _ _ _ _ _ _ N hN w h
  by_cases k1 : K = 1
  · subst k1; cases who; exact does1f _ _ _ _ _ _ _ _ _ _ _ _ _ _ _ _ _ _ _ _ _ _ _ _ _ _ N hN w h; exact does1t _ _ _ _ _ _ _ _ _ _ _ _ _ _ _ _ _ _ _ _ _ _ _ _ _ _ N hN w h
  by_cases k2 : K = 2
  · subst k2; cases who; exact does2f _ _ _ _ _ _ _ _ _ _ _ _ _ _ _ _ _ _ _ _ _ _ _ _ _ _ N hN w h; exact does2t _ _ _ _ _ _ _ _ _ _ _ _ _ _ _ _ _ _ _ _ _ _ _ _ _ _ N hN w h
  by_cases k3 : K = 3
  · subst k3; cases who; exact does3f _ _ _ _ _ _ _ _ _ _ _ _ _ _ _ _ _ _ _ _ _ _ _ _ _ _ N hN w h; exact does3t _ _ _ _ _ _ _ _ _ _ _ _ _ _ _ _ _ _ _ _ _ _ _ _ _ _ N hN w h
  by_cases k4 : K = 4
  · subst k4; cases who; exact does4f _ _ _ _ _ _ _ _ _ _ _ _ _ _ _ _ _ _ _ _ _ _ _ _ _ _ N hN w h; exact does4t _ _ _ _ _ _ _ _ _ _ _ _ _ _ _ _ _ _ _ _ _ _ _ _ _ _ N hN w h
  by_cases k5 : K = 5
  · subst k5; cases who; exact does5f _ _ _ _ _ _ _ _ _ _ _ _ _ _ _ _ _ _ _ _ _ _ _ _ _ _ N hN w h; exact does5t _ _ _ _ _ _ _ _ _ _ _ _ _ _ _ _ _ _ _ _ _ _ _ _ _ _ N hN w h
  by_cases k6 : K = 6
  · subst k6
    by_cases hk : k < L.length
    · cases who; exact does6af _ _ _ _ _ _ _ _ _ _ _ _ _ _ _ _ _ _ _ _ _ _ _ _ _ _ hk N hN w h; exact does6at _ _ _ _ _ _ _ _ _ _ _ _ _ _ _ _ _ _ _ _ _ _ _ _ _ _ hk N hN w h
    · have hk : k = L.length := by have := h.kl; omega
      cases who; exact does6bf _ _ _ _ _ _ _ _ _ _ _ _ _ _ _ _ _ _ _ _ _ _ _ _ _ _ hk N hN w h; exact does6bt _ _ _ _ _ _ _ _ _ _ _ _ _ _ _ _ _ _ _ _ _ _ _ _ _ _ hk N hN w h
  by_cases k7 : K = 7
  · subst k7; cases who; exact does7f _ _ _ _ _ _ _ _ _ _ _ _ _ _ _ _ _ _ _ _ _ _ _ _ _ _ N hN w h; exact does7t _ _ _ _ _ _ _ _ _ _ _ _ _ _ _ _ _ _ _ _ _ _ _ _ _ _ N hN w h
  cases who; exact does9f _ _ _ _ _ _ _ _ _ _ _ _ _ _ _ _ _ _ _ _ _ _ _ _ _ _ K ⟨k0, k1, k2, k3, k4, k5, k6, k7⟩ N hN w h; exact does9t _ _ _ _ _ _ _ _ _ _ _ _ _ _ _ _ _ _ _ _ _ _ _ _ _ _ K ⟨k0, k1, k2, k3, k4, k5, k6, k7⟩ N hN w h

end Go.Proofs.Ytdgelllmngdpkaa
