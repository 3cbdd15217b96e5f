import Derived.Test.YtomiifnhcojilaaHo
namespace Go.Proofs.Ytomiifnhcojilaa.Wi
open Go.RowKit
set_option linter.unusedVariables false

/-- What a proof's frame tells of a slice of bytes that came in. -/
def Came (w : World) (a : Option Addr) (len cap : Nat) (zs : List Int) : Prop :=
  (a = none ∧ len = 0 ∧ cap = 0 ∧ zs = []) ∨ ∃ x, a = some x ∧ len ≤ cap ∧ cap ≤ maxLen ∧ zs.length = cap ∧ (∀ i, i < zs.length → w.cell? (x.add i) = some (.int .u8 (zs.getD i 0))) ∧ ∀ n ∈ zs, (Lit.int .u8 n).wf = true
/-- The same, with the form's own reach. -/
def CameS (w : World) (a : Option Addr) (len cap : Nat) (zs : List Int) : Prop :=
  (a = none ∧ len = 0 ∧ cap = 0 ∧ zs = []) ∨ ∃ x, a = some x ∧ len ≤ cap ∧ cap ≤ 140737488351232 ∧ zs.length = cap ∧ (∀ i, i < zs.length → w.cell? (x.add i) = some (.int .u8 (zs.getD i 0))) ∧ ∀ n ∈ zs, (Lit.int .u8 n).wf = true
theorem Hs.ofS {w : World} {a : Option Addr} {len cap : Nat} {zs : List Int} (h : CameS w a len cap zs) : Hs w a len cap (zs.take len) ∧ len ≤ 140737488351232 ∧ cap ≤ 140737488351232 := by
  rcases h with h | ⟨x, h0, h1, h2, h3, h4, h5⟩
  · exact ⟨(Hs.of (Or.inl h)).1, by omega, by omega⟩
  · exact ⟨(Hs.of (Or.inr ⟨x, h0, h1, by unfold maxLen; omega, h3, h4, h5⟩)).1, by omega, h2⟩
theorem Hs.cut {w : World} {a : Option Addr} {n c : Nat} {l : List Int} (h : Hs w a n c l) (k : Nat) (hk : k ≤ n) : Hs w a k c (l.take k) :=
  ⟨by rw [List.length_take, h.len]; omega, Nat.le_trans hk h.cap, fun x hx => (h.row x hx).take k, fun hx => by (have := h.nil hx; rw [this.1]; exact ⟨by simp, this.2⟩), fun z hz => h.byte z (List.mem_of_mem_take hz)⟩
theorem Own.base {B B' : Nat} {w : World} {v : Value} {l : List Int} (h : Own B w v l) (hB : B' ≤ B) : Own B' w v l := by
  refine ⟨h.1, ?_⟩
  rcases h.2 with h2 | ⟨g, c, cur, h1, h2, r⟩
  · exact Or.inl h2
  · exact Or.inr ⟨g, c, cur, h1, Nat.le_trans hB h2, r⟩
theorem Own.stored {B : Nat} {w : World} {g n c : Nat} {l : List Int} (h : Own B w (.slice (some ⟨g, 0, none⟩) n c) l) (k : Nat) (z : Int) : Own B (w.setCell ⟨g, k, none⟩ (.int .u8 z)) (.slice (some ⟨g, 0, none⟩) n c) (l.set k z) := by
  have hn : n = l.length := by
    rcases h.2 with ⟨h1, _⟩ | ⟨_, _, _, h1, _⟩
    · cases h1
    · cases h1; rfl
  subst hn
  have := (World.ownsRow.stored h k (.int .u8 z)).1
  unfold Own
  rw [List.length_set, show bs (l.set k z) = (bs l).set k (.int .u8 z) from by simp [bs, List.map_set]]
  exact this
theorem Own.soft {B : Nat} {w : World} {g n c : Nat} {l : List Int} (h : Own B w (.slice (some ⟨g, 0, none⟩) n c) l) (k : Nat) : w.frozen? ⟨g, k, none⟩ = false := by
  rcases h.2 with ⟨h1, _⟩ | ⟨_, _, cur, h1, _, h2, _⟩
  · cases h1
  · cases h1
    simp [World.frozen?, h2]
theorem u32_wf {a : Int} (h : (Lit.int .u32 a).wf = true) : 0 ≤ a ∧ a < 4294967296 := by
  simp [Lit.wf, IntKind.min, IntKind.max, IntKind.bits, IntKind.signed] at h
  omega
theorem i64_wf {a : Int} (h : (Lit.int .i64 a).wf = true) : -9223372036854775808 ≤ a ∧ a ≤ 9223372036854775807 := by
  simp [Lit.wf, IntKind.min, IntKind.max, IntKind.bits, IntKind.signed] at h
  omega

end Go.Proofs.Ytomiifnhcojilaa.Wi
