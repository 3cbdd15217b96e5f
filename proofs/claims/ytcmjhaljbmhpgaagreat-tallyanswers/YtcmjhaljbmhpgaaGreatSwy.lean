import Derived.Test.YtcmjhaljbmhpgaaGreatSwl
import Derived.Test.YtcmjhaljbmhpgaaGreatSwc
import Derived.Test.YtcmjhaljbmhpgaaGreatSw9
namespace Go.Proofs.YtcmjhaljbmhpgaaGreat
open Go.RowKit Go.Maps
open Classical
set_option linter.unusedVariables false
set_option linter.unusedSimpArgs false

/-- A vote without where its log lies. -/
def An.nrm (x : An) : An := { x with s := ⟨none, 0, x.s.D⟩ }
theorem An.Like.nrm {x y : An} (h : An.Like x y) : y.nrm = x.nrm := by
  obtain ⟨h1, h2, h3, h4, h5, h6⟩ := h
  unfold An.nrm
  rw [h1, h2, h3, h4, h5, h6]
theorem An.Like.of {x y : An} (h : y.nrm = x.nrm) : An.Like x y := by
  unfold An.nrm at h
  injection h with h1 h2 h3 h4 h5 h6
  injection h6 with _ _ h7
  exact ⟨h1, h2, h3, h4, h5, h7⟩
/-- The same of lists. -/
def An.Likes (L R : List An) : Prop := R.map An.nrm = L.map An.nrm
theorem An.Likes.of {L R : List An} (hl : R.length = L.length) (h : ∀ (i : Nat) (x y : An), L[i]? = some x → R[i]? = some y → An.Like x y) : An.Likes L R := by
  unfold An.Likes
  apply List.ext_getElem?
  intro i
  rw [List.getElem?_map, List.getElem?_map]
  by_cases hi : i < L.length
  · have h1 := List.getElem?_eq_getElem hi
    have h2 := List.getElem?_eq_getElem (l := R) (i := i) (by omega)
    rw [h1, h2, Option.map_some, Option.map_some, (h i _ _ h1 h2).nrm]
  · rw [List.getElem?_eq_none (by omega), List.getElem?_eq_none (by omega)]
theorem An.Likes.at_ {L R : List An} (h : An.Likes L R) (i : Nat) (x y : An) (hx : L[i]? = some x) (hy : R[i]? = some y) : An.Like x y := by
  have := congrArg (fun l => l[i]?) h
  simp only [List.getElem?_map, hx, hy, Option.map_some] at this
  exact .of (Option.some.inj this)
theorem An.Likes.len {L R : List An} (h : An.Likes L R) : R.length = L.length := by
  have := congrArg List.length h
  simpa using this
theorem An.Likes.trans {A B C : List An} (h : An.Likes A B) (k : An.Likes B C) : An.Likes A C := Eq.trans k h
theorem An.Likes.symm {A B : List An} (h : An.Likes A B) : An.Likes B A := Eq.symm h
theorem An.Likes.refl (A : List An) : An.Likes A A := rfl
theorem An.Tolds.likes {B : Nat} {w : World} {L R : List An} (h : An.Tolds B w L R) : An.Likes L R := .of h.1 (fun i x y hx hy => (h.2 i x y hx hy).like)
theorem An.Cop.likes {B : Nat} {w : World} {L R : List An} (h : An.Cop B w L R) : An.Likes L R := .of h.1 (fun i x y hx hy => (h.2 i x y hx hy).1)
theorem An.Ln.likes {La : List (SV En)} {L R : List An} (h : An.Ln La L R) : An.Likes L R := .of h.1 (fun i x y hx hy => (h.2 i x y hx hy).1)
theorem An.Tolds.In {B : Nat} {w : World} {L R : List An} (h : An.Tolds B w L R) : ∀ y ∈ R, y.In w := fun y hy => by
  obtain ⟨i, hi, rfl⟩ := List.mem_iff_getElem.1 hy
  have hi2 : i < L.length := by rw [← h.1]; exact hi
  exact (h.2 i _ _ (List.getElem?_eq_getElem hi2) (List.getElem?_eq_getElem hi)).In
theorem An.put_nrm (L : List An) (x : An) : (An.put L x).map An.nrm = An.put (L.map An.nrm) x.nrm := by
  unfold An.put
  rw [List.findIdx?_map]
  have e : ((fun y : An => decide (y.n = x.nrm.n)) ∘ An.nrm) = (fun y : An => decide (y.n = x.n)) := rfl
  rw [e]
  cases hf : L.findIdx? (fun y => decide (y.n = x.n)) with
  | none =>
    dsimp only
    unfold An.ins An.at_
    rw [List.findIdx?_map]
    have e2 : ((fun y : An => decide (x.nrm.n < y.n)) ∘ An.nrm) = (fun y : An => decide (x.n < y.n)) := rfl
    rw [e2, List.length_map, List.map_append, List.map_cons, List.map_take, List.map_drop]
  | some i =>
    obtain ⟨hi, _⟩ := List.findIdx?_eq_some_iff_getElem.1 hf
    dsimp only
    have e3 : (L.map An.nrm).getD i x.nrm = (L.getD i x).nrm := by
      rw [List.getD_eq_getElem?_getD, List.getD_eq_getElem?_getD, List.getElem?_map, List.getElem?_eq_getElem hi]
      rfl
    have e4 : An.rep x.nrm (L.getD i x).nrm = An.rep x (L.getD i x) := rfl
    rw [e3, e4]
    split
    · rw [List.map_set]
    · rfl
theorem An.Likes.put {L R : List An} {x y : An} (h : An.Likes L R) (hx : An.Like x y) : An.Likes (An.put L x) (An.put R y) := by
  unfold An.Likes at h ⊢
  rw [An.put_nrm, An.put_nrm, h, hx.nrm]
theorem An.Likes.prn {L R : List An} (D : List (Int × Int)) (h : An.Likes L R) : An.Likes (An.prn L D) (An.prn R D) := by
  unfold An.Likes at h ⊢
  have e : ∀ A : List An, (An.prn A D).map An.nrm = (A.map An.nrm).filter (fun x => !ovr D x.n x.h x.l) := fun A => by rw [List.filter_map]; rfl
  rw [e, e, h]
theorem An.ckl_nrm (c : Cg) (self : Int) : ∀ (L : List An) (l : Int), An.ckl c self l (L.map An.nrm) = An.ckl c self l L
  | [], l => rfl
  | x :: r, l => by
    rw [List.map_cons, An.ckl, An.ckl, An.ckl_nrm c self r]
    rfl
theorem An.Likes.ck {L R : List An} (c : Cg) (self : Int) (h : An.Likes L R) : An.ck c self R = An.ck c self L := by
  unfold An.Likes at h
  unfold An.ck
  rw [← An.ckl_nrm c self R, ← An.ckl_nrm c self L, h]

end Go.Proofs.YtcmjhaljbmhpgaaGreat
