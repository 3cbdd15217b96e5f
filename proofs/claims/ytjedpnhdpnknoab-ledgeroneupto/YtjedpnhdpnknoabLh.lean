import Derived.Test.YtjedpnhdpnknoabLg
namespace Go.Proofs.Ytjedpnhdpnknoab
open Go.RowKit Go.Maps
set_option linter.unusedVariables false

theorem size_zero {a : ByteArray} (h : a.size = 0) : a = ByteArray.empty := by
  obtain ⟨⟨x⟩⟩ := a
  cases x with
  | nil => rfl
  | cons y r => simp [ByteArray.size] at h
end Go.Proofs.Ytjedpnhdpnknoab
