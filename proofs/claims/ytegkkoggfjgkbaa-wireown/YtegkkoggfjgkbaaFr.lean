import Derived.Test.YtegkkoggfjgkbaaOpn
namespace Go.Proofs.Ytegkkoggfjgkbaa.Wi
open Go.RowKit
set_option linter.unusedVariables false

theorem be4 (n : Nat) : M.be n 4 = [M.beAt n 0, M.beAt n 1, M.beAt n 2, M.beAt n 3] := rfl
theorem le4 (n : Nat) : M.le n 4 = [M.leAt n 0, M.leAt n 1, M.leAt n 2, M.leAt n 3] := rfl
theorem rb_be (n : Nat) (h : n < 4294967296) : M.rb (M.be n 4) = n := by
  rw [be4]
  simp only [M.rb, List.foldl_cons, List.foldl_nil, M.beAt, Int.toNat_natCast, Nat.shiftRight_eq_div_pow]
  simp
  omega
theorem rl_le (n : Nat) (h : n < 4294967296) : M.rl (M.le n 4) = n := by
  rw [le4]
  simp only [M.rl, M.leAt, Int.toNat_natCast, Nat.shiftRight_eq_div_pow]
  simp
  omega
theorem four (l : List Int) (h : l.length = 4) : ∃ a b c d, l = [a, b, c, d] := by
  match l, h with
  | [a, b, c, d], _ => exact ⟨a, b, c, d, rfl⟩
theorem be_rb (l : List Int) (h : l.length = 4) (hb : ∀ z ∈ l, 0 ≤ z ∧ z < 256) : M.be (M.rb l) 4 = l := by
  obtain ⟨a, b, c, d, rfl⟩ := four l h
  have h1 := hb a (by simp); have h2 := hb b (by simp); have h3 := hb c (by simp); have h4 := hb d (by simp)
  rw [be4]
  simp only [M.rb, List.foldl_cons, List.foldl_nil, M.beAt, Nat.shiftRight_eq_div_pow, List.cons.injEq, and_true]
  simp
  omega
theorem le_rl (l : List Int) (h : l.length = 4) (hb : ∀ z ∈ l, 0 ≤ z ∧ z < 256) : M.le (M.rl l) 4 = l := by
  obtain ⟨a, b, c, d, rfl⟩ := four l h
  have h1 := hb a (by simp); have h2 := hb b (by simp); have h3 := hb c (by simp); have h4 := hb d (by simp)
  rw [le4]
  simp only [M.rl, M.leAt, Nat.shiftRight_eq_div_pow, List.cons.injEq, and_true]
  simp
  omega

theorem frame_take4 (l : List Int) : (M.frame l).take 4 = M.magic := by
  unfold M.frame M.bare
  rw [List.append_assoc, List.append_assoc]
  exact List.take_left' rfl
theorem frame_told (l : List Int) (h : l.length < 4294967296) : told (M.frame l) = l.length := by
  unfold told M.frame M.bare
  rw [List.append_assoc, List.append_assoc, List.drop_left' (show M.magic.length = 4 from rfl), List.take_left' (M.be_length _ _), rb_be _ h]
theorem frame_out (l : List Int) (h : l.length ≤ 32756) : outErr (M.frame l) = 0 := by
  unfold outErr
  rw [M.frame_length, if_neg (by omega), if_neg (by omega), if_pos (frame_take4 l), frame_told l (by omega)]
  exact coErr_ok (by omega) (by omega)
theorem frame_head (l : List Int) : (M.frame l).take (l.length + 8) = M.bare l := List.take_left' (M.bare_length l)
theorem frame_tail (l : List Int) : (M.frame l).drop (l.length + 8) = M.le (M.sum (M.bare l)) 4 := List.drop_left' (M.bare_length l)
theorem frame_err (l : List Int) (h : l.length ≤ 32756) (hb : ∀ z ∈ l, 0 ≤ z ∧ z < 256) : opErr (M.frame l) = 0 := by
  refine opErr_ok (frame_out l h) ?_
  rw [M.frame_length, show l.length + 12 - 4 = l.length + 8 from by omega, frame_head, frame_tail, rl_le _ (M.sum_lt _ (fun z hz => (M.bare_byte l hb z hz).2))]
theorem frame_body (l : List Int) (h : l.length ≤ 32756) (hb : ∀ z ∈ l, 0 ≤ z ∧ z < 256) : opBody (M.frame l) = l := by
  rw [opBody_ok (frame_err l h hb), M.frame_length, show l.length + 12 - 12 = l.length from by omega]
  unfold M.frame M.bare
  rw [List.append_assoc, List.drop_left' (by simp [M.magic, M.be_length]), List.take_left' rfl]
theorem open_frame (f : List Int) (hb : ∀ z ∈ f, 0 ≤ z ∧ z < 256) (h : opErr f = 0) : M.frame (opBody f) = f ∧ (opBody f).length ≤ 32756 := by
  have hout : outErr f = 0 := by
    by_cases h1 : outErr f = 0
    · exact h1
    · rw [opErr_out h1] at h; exact absurd h h1
  have hsum : M.sum (f.take (f.length - 4)) = M.rl (f.drop (f.length - 4)) := by
    by_cases h1 : M.sum (f.take (f.length - 4)) = M.rl (f.drop (f.length - 4))
    · exact h1
    · rw [opErr_sum hout h1] at h; cases h
  obtain ⟨r1, r2, r3, r4⟩ := outErr_range hout
  have hB := opBody_ok h
  have hlen : (opBody f).length = told f := by rw [hB]; simp; omega
  have hbare : M.bare (opBody f) = f.take (f.length - 4) := by
    unfold M.bare
    rw [hlen, ← r3]
    have e1 : M.be (told f) 4 = (f.drop 4).take 4 := be_rb _ (by simp; omega) (fun z hz => hb z (List.mem_of_mem_drop (List.mem_of_mem_take hz)))
    rw [e1, hB]
    have e2 : f.take 4 ++ (f.drop 4).take 4 = f.take 8 := by rw [← List.take_add]
    rw [e2, show f.length - 4 = 8 + (f.length - 12) from by omega, List.take_add]
  refine ⟨?_, by omega⟩
  unfold M.frame
  rw [hbare, hsum, le_rl _ (by simp; omega) (fun z hz => hb z (List.mem_of_mem_drop hz)), List.take_append_drop]
theorem opBody_byte (f : List Int) (hb : ∀ z ∈ f, 0 ≤ z ∧ z < 256) : ∀ z ∈ opBody f, 0 ≤ z ∧ z < 256 := by
  unfold opBody
  split
  · exact fun z hz => hb z (List.mem_of_mem_drop (List.mem_of_mem_take hz))
  · intro z hz; cases hz

end Go.Proofs.Ytegkkoggfjgkbaa.Wi
