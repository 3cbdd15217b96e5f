import Derived.Test.YtpkcoejjclmocaaLn
namespace Go.Proofs.Ytpkcoejjclmocaa
open Go.Shelf Go.RowKit Go.Lib Go.Sort
set_option linter.unusedVariables false

theorem putC_heap {w : World} {g n : Nat} {os : Array Obj} {cur : Array Value} {e : TypeId} {fr : Nat × Nat} (d : Array Value) (hb : w.heap[g]? = some (.cells cur e fr)) :
    (grow (putRow id (Sort.ahead w n) g 0 d) os).heap[g]? = some (.cells (putCells id 0 d cur) e fr) := by
  have hg : g < w.heap.size := (Array.getElem?_eq_some_iff.1 hb).1
  rw [heap_grow_old _ _ (by simpa using hg)]
  simp [putRow, mapBlock, Sort.ahead, Array.getElem?_modify, hb, onCells]
theorem putC_grown {w : World} {g n : Nat} {os : Array Obj} (d : Array Value) : w.grownBy (grow (putRow id (Sort.ahead w n) g 0 d) os) (some g) := by
  refine ⟨rfl, rfl, rfl, by simp, fun k hk hne => ?_⟩
  rw [heap_grow_old _ _ (by simpa using hk)]
  have : g ≠ k := fun e => hne (by rw [e])
  simp [putRow, mapBlock, Sort.ahead, Array.getElem?_modify, this]
theorem putC_take (cur d : Array Value) (h : d.size ≤ cur.size) : (putCells id 0 d cur).toList.take d.size = d.toList := by
  apply List.ext_getElem?
  intro j
  by_cases hj : j < d.size
  · rw [List.getElem?_take_of_lt hj, Array.getElem?_toList]
    simp [putCells, hj, show j < cur.size by omega]
  · rw [List.getElem?_take_eq_none (by omega), List.getElem?_eq_none (by simp; omega)]
theorem own_sorted {B : Nat} {w : World} {g c n : Nat} {os : Array Obj} {l l' : List Cl} (hl : l'.length = l.length) (h : OwnC B w (.slice (some ⟨g, 0, none⟩) l.length c) l) :
    OwnC B (sortWorldK cE 2 w g 0 n l'.toArray os) (.slice (some ⟨g, 0, none⟩) l'.length c) l' := by
  rcases h.2 with ⟨e1, _⟩ | ⟨g', cap, cur, e1, hbase, hb, h1, h2, h3, h4⟩
  · cases e1
  · injection e1 with e1 e2 e3
    injection e1 with e1
    injection e1 with e1
    subst e1 e3
    refine ⟨by rw [ccs_length], .inr ⟨g, c, putCells id 0 (flatK cE 2 l'.toArray) cur, rfl, hbase, putC_heap _ hb, by rw [hl]; exact h1, h2, by simp [putCells, h3], ?_⟩⟩
    have := putC_take cur (flatK cE 2 l'.toArray) (by simp; rw [h3]; exact Nat.mul_le_mul_right 2 (by omega))
    rw [flat_ccs] at this
    simpa using this
set_option maxHeartbeats 1000000 in
theorem sort_cells (B : Nat) (w : World) (g c : Nat) (l : List Cl) (h : OwnC B w (.slice (some ⟨g, 0, none⟩) l.length c) l) (hl : l.length ≤ 1024) :
    Calls Try.prog 80 #[.slice (some ⟨g, 0, none⟩) l.length c, .func (.func 81) #[] #[]] w fun e w' => e = .returned (.tuple #[]) ∧ ∃ l' : List Cl, l'.Perm l ∧ l'.Pairwise (fun p q => p.1 ≤ q.1) ∧ OwnC B w' (.slice (some ⟨g, 0, none⟩) l.length c) l' ∧ w.grownBy w' (some g) := by
  have eg : ∀ args w, (callFunc 81 args).run Try.prog w = .ok (.enter 81 args) w := enters_of Try.func81 (by kernel_rfl) rfl
  obtain ⟨a, c', e1, _, _, _, hx⟩ := h.form
  injection e1 with e1
  obtain ⟨g', e2, _, hg⟩ := hx _ e1.symm
  injection e2 with e2
  subst e2
  have hcon := AnyQ.slices_SortFunc Try.sortC 2 isAggCell sizeCell cE (fun _ => rfl) (fun x v hv => by simp [cE] at hv; rcases hv with rfl | rfl <;> rfl) cf swoC 81 #[] g 0 c l.toArray w eg (cmpLaysC g 0 _ w) (holds_cells h) hg (by simp; omega)
  change Calls Try.prog 80 _ _ _ at hcon
  rw [List.size_toArray] at hcon
  refine hcon.mono ?_
  rintro e w' ⟨rfl, d', n, os, ⟨hp1, _, hp3⟩, hs, rfl⟩
  obtain ⟨l'⟩ := d'
  have hll : l'.length = l.length := by simpa using hp1
  refine ⟨rfl, l', ?_, ?_, ?_, putC_grown _⟩
  · have e1 : (l'.toArray.extract 0 l.length).toList = l' := by simp [← hll]
    have e2 : (l.toArray.extract 0 l.length).toList = l := by simp
    have := hp3
    rw [e1, e2] at this
    exact this
  · rw [List.pairwise_iff_getElem]
    intro i j hi hj hij
    have := hs i j (Nat.zero_le _) hij (by omega)
    rw [ltC] at this
    simp [hi, hj] at this
    omega
  · have := own_sorted (n := n) (os := os) hll h
    rw [hll] at this
    exact this
/-- Two rising lists with the same members are one. -/
theorem up_ext : ∀ {l₁ l₂ : List Cl}, l₁.Pairwise (fun p q => p.1 < q.1) → l₂.Pairwise (fun p q => p.1 < q.1) → (∀ p, p ∈ l₁ ↔ p ∈ l₂) → l₁ = l₂
  | [], [], _, _, _ => rfl
  | [], b :: s, _, _, h => by have := (h b).2 (by simp); simp at this
  | a :: r, [], _, _, h => by have := (h a).1 (by simp); simp at this
  | a :: r, b :: s, h1, h2, h => by
    obtain ⟨a1, a2⟩ := List.pairwise_cons.1 h1
    obtain ⟨b1, b2⟩ := List.pairwise_cons.1 h2
    have hab : a = b := by
      rcases List.mem_cons.1 ((h a).1 (by simp)) with e | e
      · exact e
      · rcases List.mem_cons.1 ((h b).2 (by simp)) with e' | e'
        · exact e'.symm
        · have := a1 b e'; have := b1 a e; omega
    subst hab
    rw [up_ext a2 b2 (fun p => ⟨fun hp => ?_, fun hp => ?_⟩)]
    · rcases List.mem_cons.1 ((h p).1 (by simp [hp])) with e | e
      · subst e; have := a1 _ hp; omega
      · exact e
    · rcases List.mem_cons.1 ((h p).2 (by simp [hp])) with e | e
      · subst e; have := b1 _ hp; omega
      · exact e
theorem up_of_le : ∀ {l : List Cl}, l.Pairwise (fun p q => p.1 ≤ q.1) → (l.map (·.1)).Nodup → l.Pairwise (fun p q => p.1 < q.1)
  | [], _, _ => List.Pairwise.nil
  | a :: r, h, hn => by
    obtain ⟨a1, a2⟩ := List.pairwise_cons.1 h
    rw [List.map_cons, List.nodup_cons] at hn
    refine List.pairwise_cons.2 ⟨fun q hq => ?_, up_of_le a2 hn.2⟩
    have := a1 q hq
    have hne : a.1 ≠ q.1 := fun e => hn.1 (by rw [e]; exact List.mem_map_of_mem hq)
    omega
theorem sorted_eq {L l l' : List Cl} (hL : L.Pairwise (fun p q => p.1 < q.1)) (hp : l'.Perm l) (hs : l'.Pairwise (fun p q => p.1 ≤ q.1)) (hn : (l.map (·.1)).Nodup) (hm : ∀ p, p ∈ l ↔ p ∈ L) : l' = L := by
  refine up_ext (up_of_le hs ?_) hL (fun p => (hp.mem_iff).trans (hm p))
  exact (hp.map (·.1)).nodup_iff.2 hn

end Go.Proofs.Ytpkcoejjclmocaa
