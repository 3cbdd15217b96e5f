import Derived.Test.YtcmjhaljbmhpgaaGreatSbl
import Derived.Test.YtcmjhaljbmhpgaaGreatSbc
import Derived.Test.YtcmjhaljbmhpgaaGreatGSb
namespace Go.Proofs.YtcmjhaljbmhpgaaGreat
open Go.RowKit Go.Maps
open Classical
set_option linter.unusedVariables false
set_option linter.unusedSimpArgs false

/-- A vote without where its log lies. -/
def Bl.nrm (x : Bl) : Bl := { x with s := ⟨none, 0, x.s.D⟩ }
theorem Bl.Like.nrm {x y : Bl} (h : Bl.Like x y) : y.nrm = x.nrm := by
  obtain ⟨h1, h2, h3, h4, h5, h6⟩ := h
  unfold Bl.nrm
  rw [h1, h2, h3, h4, h5, h6]
theorem Bl.Like.of {x y : Bl} (h : y.nrm = x.nrm) : Bl.Like x y := by
  unfold Bl.nrm at h
  injection h with h1 h2 h3 h4 h5 h6
  injection h6 with _ _ h7
  exact ⟨h1, h2, h3, h4, h5, h7⟩
/-- The same of lists. -/
def Bl.Likes (L R : List Bl) : Prop := R.map Bl.nrm = L.map Bl.nrm
theorem Bl.Likes.of {L R : List Bl} (hl : R.length = L.length) (h : ∀ (i : Nat) (x y : Bl), L[i]? = some x → R[i]? = some y → Bl.Like x y) : Bl.Likes L R := by
  unfold Bl.Likes
  apply List.ext_getElem?
  intro i
  rw [List.getElem?_map, List.getElem?_map]
  by_cases hi : i < L.length
  · have h1 := List.getElem?_eq_getElem hi
    have h2 := List.getElem?_eq_getElem (l := R) (i := i) (by omega)
    rw [h1, h2, Option.map_some, Option.map_some, (h i _ _ h1 h2).nrm]
  · rw [List.getElem?_eq_none (by omega), List.getElem?_eq_none (by omega)]
theorem Bl.Likes.at_ {L R : List Bl} (h : Bl.Likes L R) (i : Nat) (x y : Bl) (hx : L[i]? = some x) (hy : R[i]? = some y) : Bl.Like x y := by
  have := congrArg (fun l => l[i]?) h
  simp only [List.getElem?_map, hx, hy, Option.map_some] at this
  exact .of (Option.some.inj this)
theorem Bl.Likes.len {L R : List Bl} (h : Bl.Likes L R) : R.length = L.length := by
  have := congrArg List.length h
  simpa using this
theorem Bl.Likes.trans {A B C : List Bl} (h : Bl.Likes A B) (k : Bl.Likes B C) : Bl.Likes A C := Eq.trans k h
theorem Bl.Likes.symm {A B : List Bl} (h : Bl.Likes A B) : Bl.Likes B A := Eq.symm h
theorem Bl.Likes.refl (A : List Bl) : Bl.Likes A A := rfl
theorem Bl.Tolds.likes {B : Nat} {w : World} {L R : List Bl} (h : Bl.Tolds B w L R) : Bl.Likes L R := .of h.1 (fun i x y hx hy => (h.2 i x y hx hy).like)
theorem Bl.Cop.likes {B : Nat} {w : World} {L R : List Bl} (h : Bl.Cop B w L R) : Bl.Likes L R := .of h.1 (fun i x y hx hy => (h.2 i x y hx hy).1)
theorem Bl.Ln.likes {La : List (SV En)} {L R : List Bl} (h : Bl.Ln La L R) : Bl.Likes L R := .of h.1 (fun i x y hx hy => (h.2 i x y hx hy).1)
theorem Bl.Tolds.In {B : Nat} {w : World} {L R : List Bl} (h : Bl.Tolds B w L R) : ∀ y ∈ R, y.In w := fun y hy => by
  obtain ⟨i, hi, rfl⟩ := List.mem_iff_getElem.1 hy
  have hi2 : i < L.length := by rw [← h.1]; exact hi
  exact (h.2 i _ _ (List.getElem?_eq_getElem hi2) (List.getElem?_eq_getElem hi)).In
theorem Bl.put_nrm (L : List Bl) (x : Bl) : (Bl.put L x).map Bl.nrm = Bl.put (L.map Bl.nrm) x.nrm := by
  unfold Bl.put
  rw [List.findIdx?_map]
  have e : ((fun y : Bl => decide (y.n = x.nrm.n)) ∘ Bl.nrm) = (fun y : Bl => decide (y.n = x.n)) := rfl
  rw [e]
  cases hf : L.findIdx? (fun y => decide (y.n = x.n)) with
  | none =>
    dsimp only
    unfold Bl.ins Bl.at_
    rw [List.findIdx?_map]
    have e2 : ((fun y : Bl => decide (x.nrm.n < y.n)) ∘ Bl.nrm) = (fun y : Bl => decide (x.n < y.n)) := rfl
    rw [e2, List.length_map, List.map_append, List.map_cons, List.map_take, List.map_drop]
  | some i =>
    obtain ⟨hi, _⟩ := List.findIdx?_eq_some_iff_getElem.1 hf
    dsimp only
    have e3 : (L.map Bl.nrm).getD i x.nrm = (L.getD i x).nrm := by
      rw [List.getD_eq_getElem?_getD, List.getD_eq_getElem?_getD, List.getElem?_map, List.getElem?_eq_getElem hi]
      rfl
    have e4 : Bl.rep x.nrm (L.getD i x).nrm = Bl.rep x (L.getD i x) := rfl
    rw [e3, e4]
    split
    · rw [List.map_set]
    · rfl
theorem Bl.Likes.put {L R : List Bl} {x y : Bl} (h : Bl.Likes L R) (hx : Bl.Like x y) : Bl.Likes (Bl.put L x) (Bl.put R y) := by
  unfold Bl.Likes at h ⊢
  rw [Bl.put_nrm, Bl.put_nrm, h, hx.nrm]
theorem Bl.Likes.prn {L R : List Bl} (D : List (Int × Int)) (h : Bl.Likes L R) : Bl.Likes (Bl.prn L D) (Bl.prn R D) := by
  unfold Bl.Likes at h ⊢
  have e : ∀ A : List Bl, (Bl.prn A D).map Bl.nrm = (A.map Bl.nrm).filter (fun x => !ovr D x.n x.h x.l) := fun A => by rw [List.filter_map]; rfl
  rw [e, e, h]
theorem Bl.ckl_nrm (c : Cg) (self : Int) : ∀ (L : List Bl) (l : Int), Bl.ckl c self l (L.map Bl.nrm) = Bl.ckl c self l L
  | [], l => rfl
  | x :: r, l => by
    rw [List.map_cons, Bl.ckl, Bl.ckl, Bl.ckl_nrm c self r]
    rfl
theorem Bl.Likes.ck {L R : List Bl} (c : Cg) (self : Int) (h : Bl.Likes L R) : Bl.ck c self R = Bl.ck c self L := by
  unfold Bl.Likes at h
  unfold Bl.ck
  rw [← Bl.ckl_nrm c self R, ← Bl.ckl_nrm c self L, h]

end Go.Proofs.YtcmjhaljbmhpgaaGreat
