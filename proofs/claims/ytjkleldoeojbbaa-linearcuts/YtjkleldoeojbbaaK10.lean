import Derived.Test.YtjkleldoeojbbaaK9
namespace Go.Proofs.Ytjkleldoeojbbaa
open Go.RowKit Go.Maps
open Classical
set_option linter.unusedVariables false
set_option linter.unusedSimpArgs false

def zc8 : List Value := [.int .i64 0, .string ⟨#[]⟩, .int .i64 0, .string ⟨#[]⟩, .int .i64 0, .string ⟨#[]⟩, .int .i64 0, .string ⟨#[]⟩, .int .i64 0, .string ⟨#[]⟩, .int .i64 0, .string ⟨#[]⟩, .int .i64 0, .string ⟨#[]⟩, .int .i64 0, .string ⟨#[]⟩]
def p18 (D : List Bool) (n : Int) : List Value := D.map .bool ++ .int .i64 n :: zc8
def D0 : List Bool := [false, false, false, false, false, false, false, false]
theorem alPt (w : World) : (Instr.alloc 167 true (.tuple #[])).run Try.prog w = .ok (.pointer (some ⟨w.heap.size, 0, none⟩)) (w.alloc (.cells (p18 D0 0).toArray 167)) := by kernel_rfl
theorem bxB8 (cs : List Value) (w : World) : (Instr.box 164 (.agg cs.toArray)).run Try.prog w = .ok (.pointer (some ⟨w.heap.size, 0, none⟩)) (w.alloc (.cells cs.toArray 164)) := rfl
theorem bdPt (b0 b1 b2 b3 b4 b5 b6 b7 : Bool) (n : Int) (w : World) : (Instr.build 167 #[(0, .agg (List.map Value.bool [b0, b1, b2, b3, b4, b5, b6, b7]).toArray), (1, .int .i64 n)]).run Try.prog w = .ok (.agg (p18 [b0, b1, b2, b3, b4, b5, b6, b7] n).toArray) w := by
  unfold p18 zc8
  simp only [List.map_cons, List.map_nil, List.cons_append, List.nil_append]
  go_simp
theorem one25 (D : List Bool) (n : Int) : (p18 D n).toArray.all (·.oneCell') = true := by
  rw [Array.all_eq_true_iff_forall_mem]
  intro u hu
  simp only [p18, zc8, List.mem_toArray, List.mem_append, List.mem_map, List.mem_cons, List.not_mem_nil, or_false] at hu
  rcases hu with ⟨b, _, rfl⟩ | rfl | rfl | rfl | rfl | rfl | rfl | rfl | rfl | rfl | rfl | rfl | rfl | rfl | rfl | rfl | rfl | rfl <;> rfl
theorem ptC_one (D : List Bool) (L : List Cl) : (ptC D L).toArray.all (·.oneCell') = true := by
  rw [Array.all_eq_true_iff_forall_mem]
  intro u hu
  simp only [ptC, czs, List.mem_toArray, List.mem_append, List.mem_map, List.mem_cons, List.not_mem_nil, or_false] at hu
  rcases hu with ⟨b, _, rfl⟩ | rfl | rfl | rfl | rfl | rfl | rfl | rfl | rfl | rfl | rfl | rfl | rfl | rfl | rfl | rfl | rfl | rfl <;> rfl
theorem info25 : (Try.prog.info? 167).map (·.size) = some 25 := by kernel_rfl
theorem info8 : (Try.prog.info? 164).map (·.size) = some 8 := by kernel_rfl
theorem faPt (q : Nat) (w : World) : (Instr.fieldAt 167 (.pointer (some ⟨q, 0, none⟩)) 2).run Try.prog w = .ok (.pointer (some ⟨q, 9, none⟩)) w := by go_simp
theorem slPt (q : Nat) (w : World) : (Instr.sliceAt 165 (.pointer (some ⟨q, 9, none⟩)) none none none).run Try.prog w = .ok (.slice (some ⟨q, 9, none⟩) 8 8) w := by go_simp
theorem czs_ccs {L : List Cl} (h : L.length ≤ 8) : ccs L ++ zc8.drop (L.length * 2) = czs L := by
  match L, h with
  | [], _ => rfl
  | [a], _ => rfl
  | [a, b], _ => rfl
  | [a, b, c], _ => rfl
  | [a, b, c, d], _ => rfl
  | [a, b, c, d, e], _ => rfl
  | [a, b, c, d, e, f], _ => rfl
  | [a, b, c, d, e, f, g], _ => rfl
  | [a, b, c, d, e, f, g, i], _ => rfl
  | _ :: _ :: _ :: _ :: _ :: _ :: _ :: _ :: _ :: _, h => simp at h

end Go.Proofs.Ytjkleldoeojbbaa
