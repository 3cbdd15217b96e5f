import Derived.Test.YtomiifnhcojilaaOp
namespace Go.Proofs.Ytomiifnhcojilaa.Wi
open Go.RowKit
set_option linter.unusedVariables false

theorem Hs.flat {w : World} {x : Addr} {n c : Nat} {l : List Int} (h : Hs w (some x) n c l) (hn : 0 < n) : ∃ b o, x = ⟨b, o, none⟩ := by
  have h0 := h.row x rfl 0 (by rw [h.len]; exact hn)
  obtain ⟨b, o, s⟩ := x
  have := World.cell?_spot h0
  exact ⟨b, o, by cases s <;> simp_all [Addr.add]⟩
theorem conv_row (w : World) (b o n c : Nat) (l : List Int) (hl : l.length = n) (hr : Row w ⟨b, o, none⟩ l) :
    (convert 73 9 (.slice (some ⟨b, o, none⟩) n c)).run Try.prog w = .ok (.string (strOfNums l)) w :=
  run_convert_bytes_arg w 73 5 Try.underlying73 Try.underlying5 b o n c l hl (fun i hi => by have := hr i (by omega); rwa [Addr.add_lit] at this) 9 Try.underlying9
theorem sb_nums (l : List Int) (h : ∀ z ∈ l, 0 ≤ z ∧ z < 256) : sb (strOfNums l) = l := by
  unfold sb
  rw [strOfNums_data, List.map_map]
  conv => rhs; rw [← List.map_id l]
  apply List.map_congr_left
  intro z hz
  have := h z hz
  simp [UInt8.toNat_ofNat']
  omega
theorem nums_list (l : List Int) : (strOfNums l).toList = l.map fun n => UInt8.ofNat n.toNat := by
  rw [ByteArray.toList_eq, strOfNums_data]
theorem magic_test (l : List Int) (hb : ∀ z ∈ l, 0 ≤ z ∧ z < 256) : ((strOfNums (l.take 4)).toList == [97, 109, 110, 49]) = decide (l.take 4 = M.magic) := by
  rw [nums_list]
  by_cases h : l.take 4 = M.magic
  · rw [h]; decide
  · rw [decide_eq_false h, beq_eq_false_iff_ne]
    intro he
    apply h
    have h2 := congrArg (List.map fun b : UInt8 => (b.toNat : Int)) he
    rw [List.map_map] at h2
    have h3 : (l.take 4).map ((fun b : UInt8 => (b.toNat : Int)) ∘ fun n : Int => UInt8.ofNat n.toNat) = l.take 4 := by
      conv => rhs; rw [← List.map_id (l.take 4)]
      apply List.map_congr_left
      intro z hz
      have := hb z (List.mem_of_mem_take hz)
      simp [UInt8.toNat_ofNat']
      omega
    rw [h3] at h2
    exact h2
theorem Row.drop {w : World} {b o : Nat} {l : List Int} (h : Row w ⟨b, o, none⟩ l) (k : Nat) : Row w ⟨b, o + k, none⟩ (l.drop k) := by
  intro i hi
  have h2 : k + i < l.length := by simp at hi; omega
  have := h (k + i) h2
  rw [Addr.add_lit] at this ⊢
  rw [Nat.add_assoc, this]
  simp [List.getD]
/-- What is wrong of a length and a length that is told. -/
def coErr (n T : Nat) : Int := if n < T + 12 then 10 else if T + 12 < n then 15 else 0
theorem coErr_short {n T : Nat} (h : n < T + 12) : coErr n T = 10 := by unfold coErr; rw [if_pos h]
theorem coErr_tail {n T : Nat} (h : T + 12 < n) : coErr n T = 15 := by unfold coErr; rw [if_neg (by omega), if_pos h]
theorem coErr_ok {n T : Nat} (h1 : ¬ n < T + 12) (h2 : ¬ T + 12 < n) : coErr n T = 0 := by unfold coErr; rw [if_neg h1, if_neg h2]
/-- The length that a frame tells. -/
def told (l : List Int) : Nat := M.rb ((l.drop 4).take 4)
end Go.Proofs.Ytomiifnhcojilaa.Wi
