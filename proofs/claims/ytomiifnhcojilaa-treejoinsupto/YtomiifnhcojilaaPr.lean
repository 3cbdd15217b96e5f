import Derived.Test.YtomiifnhcojilaaGWs
import Derived.Test.YtomiifnhcojilaaGFm
import Derived.Test.YtomiifnhcojilaaTt
namespace Go.Proofs.Ytomiifnhcojilaa.Wi
open Go.RowKit
set_option linter.unusedVariables false

theorem allBytes_drop (P : List Pt) (k : Nat) (h : k < P.length) : (allBytes P).drop (allBytes (P.take k)).length = P[k].bytes ++ allBytes (P.drop (k + 1)) := by
  have e : allBytes P = allBytes (P.take k) ++ (P[k].bytes ++ allBytes (P.drop (k + 1))) := by
    have h2 : P = P.take k ++ (P[k] :: P.drop (k + 1)) := by rw [← List.drop_eq_getElem_cons h, List.take_append_drop]
    refine (congrArg allBytes h2).trans ?_
    unfold allBytes
    rw [List.flatMap_append, List.flatMap_cons]
  rw [e, List.drop_left]
theorem allBytes_take (P : List Pt) (k : Nat) (h : k < P.length) : (allBytes (P.take (k + 1))).length = (allBytes (P.take k)).length + P[k].bytes.length := by
  rw [take_snoc P k h, allBytes_snoc, List.length_append]
theorem tc_read (x : Nat) (m : Int) (hx : x ≤ 9223372036854775807) (hm : (x : Int) ≤ m) (rest : List Int) : tcErr m (M.form x ++ rest) = 0 ∧ tcVal m (M.form x ++ rest) = x ∧ tcSize m (M.form x ++ rest) = (M.form x).length := by
  obtain ⟨h1, h2, h3⟩ := tn_read x (by omega) rest
  have he : tcErr m (M.form x ++ rest) = 0 := by
    unfold tcErr
    rw [if_neg (by omega), if_neg (by simp [h1]), h2, if_neg (by omega)]
  refine ⟨he, ?_, ?_⟩
  · unfold tcVal; rw [if_pos he, h2]
  · unfold tcSize; rw [if_pos he, h3]
theorem tt_read (L : List Int) (m : Int) (hx : L.length ≤ 9223372036854775807) (hm : (L.length : Int) ≤ m) (rest : List Int) : ttErr m (M.form L.length ++ L ++ rest) = 0 ∧ ttList m (M.form L.length ++ L ++ rest) = L ∧ ttSize m (M.form L.length ++ L ++ rest) = (M.form L.length ++ L).length := by
  obtain ⟨h1, h2, h3⟩ := tc_read L.length m hx hm (L ++ rest)
  rw [List.append_assoc]
  have he : ttErr m (M.form L.length ++ (L ++ rest)) = 0 := by
    unfold ttErr
    rw [if_neg (by simp [h1]), h2, h3, if_neg (by simp only [List.length_append]; omega)]
  refine ⟨he, ?_, ?_⟩
  · unfold ttList
    rw [if_pos he, h2, h3, List.drop_left, List.take_left]
  · unfold ttSize
    rw [if_pos he, h2, h3, List.length_append]
theorem str_sb (s : ByteArray) : strOfNums (sb s) = s := by
  unfold strOfNums sb
  rw [List.map_map]
  have e : (s.data.toList.map ((fun n : Int => UInt8.ofNat n.toNat) ∘ fun b => (b.toNat : Int))) = s.data.toList := by
    refine (List.map_congr_left (fun b _ => ?_)).trans (List.map_id _)
    simp
  rw [e]
theorem pt_byte (p : Pt) (hf : p.fits) (hs : p.s.size < 2 ^ 64) : ∀ z ∈ p.bytes, 0 ≤ z ∧ z < 256 := by
  obtain ⟨h1, h2, h3, h4, h5, h6⟩ := hf
  unfold Pt.bytes ptBytes
  split
  · exact M.form_byte _ (by omega)
  · split
    · exact M.form_byte _ (by omega)
    · intro z hz
      rcases List.mem_append.1 hz with hz | hz
      · exact M.form_byte _ hs z hz
      · exact sb_byte _ z hz
theorem allBytes_byte (P : List Pt) (h : ∀ p ∈ P, p.fits ∧ p.s.size < 2 ^ 64) : ∀ z ∈ allBytes P, 0 ≤ z ∧ z < 256 := by
  intro z hz
  obtain ⟨p, hp, hz⟩ := List.mem_flatMap.1 hz
  exact pt_byte p (h p hp).1 (h p hp).2 z hz
#print axioms tt_read

end Go.Proofs.Ytomiifnhcojilaa.Wi
