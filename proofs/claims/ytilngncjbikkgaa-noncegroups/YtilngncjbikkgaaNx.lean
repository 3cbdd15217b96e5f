import Derived.Test.YtilngncjbikkgaaNw
namespace Go.Proofs.Ytilngncjbikkgaa
open Go.RowKit
set_option linter.unusedVariables false

theorem wipe_any (p c : Nat) (rd md : Int) (w : World) (h : Prs w p c rd md) :
    Calls Try.prog 30 #[.pointer (some ⟨p, 0, none⟩)] w fun e w' => e = .returned (.tuple #[]) ∧ Prs w' p c 0 0 ∧ Upd (· = p) w w' := by
  have hh := hide h
  obtain ⟨hlt, p0, p1, p2, pf1, pf2, hne, m0, m1⟩ := h
  go_enter Try.func30, Try.ntmps30
  go_wp2
  go_end0
  exact ⟨rfl, hh.out.write 0 0 (by omega) (by omega), ((Upd.refl (· = p) w).setCell (.inl rfl) _).setCell (.inl rfl) _⟩

end Go.Proofs.Ytilngncjbikkgaa
