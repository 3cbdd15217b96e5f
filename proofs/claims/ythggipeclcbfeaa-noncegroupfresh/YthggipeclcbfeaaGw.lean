import Derived.Test.YthggipeclcbfeaaGy
import Derived.Test.YthggipeclcbfeaaFz
import Derived.Lib.AppendStr
namespace Go.Proofs.Ythggipeclcbfeaa
open Go.RowKit
set_option linter.unusedVariables false
set_option linter.unusedSimpArgs false

/-- Stamps, as Fresh's texts have them. -/
def tos : List (Int × Int × Int) → List Fr.St
  | [] => []
  | d :: r => ⟨d.1, d.2.1, d.2.2⟩ :: tos r
theorem tos_len : ∀ L, (tos L).length = L.length
  | [] => rfl
  | d :: r => by simp only [tos, List.length_cons, tos_len r]
theorem tos_app : ∀ L M, tos (L ++ M) = tos L ++ tos M
  | [], M => rfl
  | d :: r, M => by simp only [tos, List.cons_append, tos_app r M]
theorem tos_fl : ∀ L, Fr.fl Fr.yT (tos L) = tcs L
  | [] => rfl
  | d :: r => by
    rw [tos, Fr.fl, tos_fl r]
    rfl
theorem OwnS.y {B : Nat} {w : World} {v : Value} {L : List (Int × Int × Int)} (h : OwnS B w v L) : Fr.OwnY Fr.yT B w v (tos L) := by
  unfold Fr.OwnY
  rw [tos_len, tos_fl]
  exact h
theorem gx_snoc (e : Fr.St) (he : 0 ≤ e.v) (n : Int) : ∀ L : List Fr.St, Fr.gx (L ++ [e]) n = if e.n = n then max (Fr.gx L n) e.v else Fr.gx L n
  | [] => by
    simp only [List.nil_append, Fr.gx]
    split <;> omega
  | d :: r => by
    have := gx_snoc e he n r
    simp only [List.cons_append, Fr.gx, this]
    split <;> split <;> omega
theorem frA_snoc (e : Fr.St) : ∀ (L past : List Fr.St) (i : Nat), Fr.frA past L i = (true, 0) → Fr.frA past (L ++ [e]) i = if e.v ≤ Fr.gx (past ++ L) e.n then (false, ((i + L.length : Nat) : Int)) else (true, 0)
  | [], past, i, h => by
    simp only [List.nil_append, Fr.frA, List.append_nil, List.length_nil, Nat.add_zero]
  | d :: r, past, i, h => by
    rw [List.cons_append, Fr.frA]
    rw [Fr.frA] at h
    by_cases c : d.v ≤ Fr.gx past d.n
    · rw [if_pos c] at h; cases h
    · rw [if_neg c] at h ⊢
      rw [frA_snoc e r _ _ h, List.append_assoc, List.singleton_append, List.length_cons, show i + 1 + r.length = i + (r.length + 1) by omega]
theorem fr_snoc (e : Fr.St) (L : List Fr.St) (h : Fr.fr L = (true, 0)) : Fr.fr (L ++ [e]) = if e.v ≤ Fr.gx L e.n then (false, (L.length : Int)) else (true, 0) := by
  have := frA_snoc e L [] 0 h
  rw [List.nil_append, Nat.zero_add] at this
  exact this
/-- How many of the stamps are of that replica. -/
def cnt : List (Int × Int × Int) → Int → Nat
  | [], _ => 0
  | d :: r, k => (if d.1 = k then 1 else 0) + cnt r k
theorem cnt_app : ∀ (L M : List (Int × Int × Int)) (k : Int), cnt (L ++ M) k = cnt L k + cnt M k
  | [], M, k => by simp [cnt]
  | d :: r, M, k => by simp only [List.cons_append, cnt, cnt_app r M k]; omega
theorem cnt_take {L : List (Int × Int × Int)} {i : Nat} {d : Int × Int × Int} (h : L[i]? = some d) (k : Int) : cnt (L.take (i + 1)) k = cnt (L.take i) k + if d.1 = k then 1 else 0 := by
  rw [List.take_add_one, h, cnt_app]
  simp [cnt]
theorem cnt_le : ∀ (L : List (Int × Int × Int)) (k : Int), cnt L k ≤ L.length
  | [], k => by simp [cnt]
  | d :: r, k => by
    have := cnt_le r k
    simp only [cnt, List.length_cons]
    split <;> omega
/-- What holds of a group's memory behind i acts. -/
structure GI (a R : Int) (i n : Nat) (rd md : Nat → Int) (W : List Bool) (C : List Int) (L : List (Int × Int × Int)) : Prop where
  a0 : 1 ≤ a ∧ a ≤ 4611686018427387904
  r0 : a ≤ R
  r1 : R ≤ a + (i : Int) * 1073741824
  ii : i ≤ 3010
  wl : W.length = n
  cl : C.length = n
  rr : ∀ k, k < n → 0 ≤ rd k ∧ rd k ≤ R ∧ 0 ≤ md k ∧ md k ≤ i
  ll : L.length ≤ i
  fits : ∀ e ∈ tos L, e.fits
  fr : Fr.fr (tos L) = (true, 0)
  gw : ∀ k : Nat, W[k]? = some true → rd k = 0 ∧ Fr.gx (tos L) k ≤ Fr.nv R 65535
  gn : ∀ k : Nat, W[k]? = some false → Fr.gx (tos L) k ≤ Fr.nv (rd k) (md k)
  cc : ∀ k : Nat, k < n → C[k]? = some (cnt L (k : Int) : Int)
theorem GI.new (a : Int) (n : Nat) (h : 1 ≤ a ∧ a ≤ 4611686018427387904) : GI a a 0 n (fun _ => 0) (fun _ => 0) (List.replicate n false) (List.replicate n 0) [] where
  a0 := h
  r0 := Int.le_refl _
  r1 := by omega
  ii := by omega
  wl := by simp
  cl := by simp
  rr := fun k _ => by omega
  ll := Nat.le_refl _
  fits := fun e he => by cases he
  fr := rfl
  gw := fun k hk => by simp [List.getElem?_replicate] at hk
  gn := fun k _ => by simp [tos, Fr.gx, Fr.nv]
  cc := fun k hk => by simp [List.getElem?_replicate, hk, cnt]
section
variable {a R : Int} {i n : Nat} {rd md : Nat → Int} {W : List Bool} {C : List Int} {L : List (Int × Int × Int)}
theorem GI.pass (h : GI a R i n rd md W C L) (b : Int) (b0 : 0 ≤ b) (b1 : b ≤ 1073741824) (hi : i < 3010) : GI a (R + b) (i + 1) n rd md W C L := by
  have r0 := h.r0
  have r1 := h.r1
  refine ⟨h.a0, by omega, by omega, by omega, h.wl, h.cl, fun k hk => ?_, by have := h.ll; omega, h.fits, h.fr, fun k hk => ?_, h.gn, h.cc⟩
  · have := h.rr k hk; omega
  · have := h.gw k hk
    unfold Fr.nv at *
    omega
theorem GI.wipe (h : GI a R i n rd md W C L) (k : Nat) (hk : k < n) : GI a R i n (fun j => if j = k then 0 else rd j) (fun j => if j = k then 0 else md j) (W.set k true) C L := by
  have r0 := h.r0
  have a0 := h.a0
  have wl := h.wl
  have ii := h.ii
  have hg : Fr.gx (tos L) k ≤ Fr.nv R 65535 := by
    have hr := h.rr k hk
    obtain ⟨b, hb⟩ : ∃ b, W[k]? = some b := ⟨_, List.getElem?_eq_getElem (by omega)⟩
    cases b
    · have := h.gn k hb; unfold Fr.nv at *; omega
    · exact (h.gw k hb).2
  refine ⟨h.a0, h.r0, h.r1, h.ii, by rw [List.length_set]; exact h.wl, h.cl, fun j hj => ?_, h.ll, h.fits, h.fr, fun j hj => ?_, fun j hj => ?_, h.cc⟩
  · have := h.rr j hj
    by_cases e : j = k
    · simp only [if_pos e]; omega
    · simp only [if_neg e]; exact this
  · by_cases e : j = k
    · subst e; simp only [if_pos rfl]; exact ⟨rfl, hg⟩
    · rw [List.getElem?_set_ne (fun q => e q.symm)] at hj
      simp only [if_neg e]; exact h.gw j hj
  · by_cases e : j = k
    · subst e; rw [List.getElem?_set_self (by omega)] at hj; cases hj
    · rw [List.getElem?_set_ne (fun q => e q.symm)] at hj
      simp only [if_neg e]; exact h.gn j hj
theorem GI.more (h : GI a R i n rd md W C L) (hi : i < 3010) : GI a R (i + 1) n rd md W C L := by
  have := h.pass 0 (by omega) (by omega) hi
  rwa [Int.add_zero] at this
/-- A draw that is greater than all that its replica had drawn. -/
theorem GI.draw (h : GI a R i n rd md W C L) (k : Nat) (hk : k < n) (h7 : n ≤ 7) (m : Int) (m0 : 0 ≤ m) (m1 : m ≤ i) (hi : i < 3010) (hg : Fr.gx (tos L) k < Fr.nv R (m + 1)) : GI a R (i + 1) n (fun j => if j = k then R else rd j) (fun j => if j = k then m + 1 else md j) (W.set k false) (C.set k ((cnt L (k : Int) : Int) + 1)) (L ++ [((k : Int), R, m + 1)]) := by
  have r0 := h.r0
  have r1 := h.r1
  have a0 := h.a0
  have wl := h.wl
  have cl := h.cl
  have ll := h.ll
  have et : tos (L ++ [((k : Int), R, m + 1)]) = tos L ++ [⟨(k : Int), R, m + 1⟩] := tos_app _ _
  have ev : (⟨(k : Int), R, m + 1⟩ : Fr.St).v = Fr.nv R (m + 1) := rfl
  have v0 : 0 ≤ Fr.nv R (m + 1) := by unfold Fr.nv; omega
  refine ⟨h.a0, h.r0, by omega, by omega, by rw [List.length_set]; exact h.wl, by rw [List.length_set]; exact h.cl, fun j hj => ?_, by simp; omega, ?_, ?_, fun j hj => ?_, fun j hj => ?_, fun j hj => ?_⟩
  · have := h.rr j hj
    by_cases e : j = k
    · simp only [if_pos e]; omega
    · simp only [if_neg e]; omega
  · intro e he
    rw [et, List.mem_append, List.mem_singleton] at he
    rcases he with he | he
    · exact h.fits e he
    · subst he
      exact ⟨Fr.wf_i64 (by show _ ≤ (k : Int) ∧ (k : Int) ≤ _; omega), by show 0 ≤ R ∧ R < _; omega, by show 0 ≤ m + 1 ∧ m + 1 < _; omega⟩
  · rw [et, fr_snoc _ _ h.fr, ev, if_neg (by show ¬ _ ≤ Fr.gx (tos L) k; omega)]
  · by_cases e : j = k
    · subst e; rw [List.getElem?_set_self (by omega)] at hj; cases hj
    · rw [List.getElem?_set_ne (fun q => e q.symm)] at hj
      have ek : ¬ (k : Int) = (j : Int) := by omega
      rw [et, gx_snoc _ (by rw [ev]; exact v0)]
      simp only [if_neg e, if_neg ek]; exact h.gw j hj
  · by_cases e : j = k
    · subst e
      rw [et, gx_snoc _ (by rw [ev]; exact v0)]
      simp only [↓reduceIte, ev]
      omega
    · rw [List.getElem?_set_ne (fun q => e q.symm)] at hj
      have ek : ¬ (k : Int) = (j : Int) := by omega
      rw [et, gx_snoc _ (by rw [ev]; exact v0)]
      simp only [if_neg e, if_neg ek]; exact h.gn j hj
  · rw [cnt_app]
    by_cases e : j = k
    · subst e
      rw [List.getElem?_set_self (by omega)]
      simp [cnt]
    · rw [List.getElem?_set_ne (fun q => e q.symm), h.cc j hj]
      have : ¬ (k : Int) = (j : Int) := by omega
      simp [cnt, this]
end
end Go.Proofs.Ythggipeclcbfeaa
