import Derived.Test.YtolnkoneilipeaaKc
namespace Go.Proofs.Ytolnkoneilipeaa
open Go.RowKit Go.Maps
open Classical
set_option linter.unusedVariables false
set_option linter.unusedSimpArgs false

theorem SlY.empty {α : Type} (Y : Lay α) (w : World) (a : Option Addr) : SlY Y w a 0 0 [] := ⟨rfl, Nat.le_refl _, by unfold maxLen; omega, fun _ => ⟨rfl, rfl⟩, fun x _ => .inl rfl⟩
/-- A piece that is cut out. -/
theorem SlY.cut {α : Type} {Y : Lay α} {w : World} {q o n c : Nat} {l : List α} (hq : q < w.heap.size) (hl : LieY Y w q o l) (hn : l.length = n) (s m p : Nat) (hs : s < m) (hm : m ≤ n) (hp : m - s ≤ p) (hp2 : p ≤ maxLen) : SlY Y w (some ⟨q, o + s * Y.k, none⟩) (m - s) p ((l.take m).drop s) :=
  ⟨by rw [List.length_drop, List.length_take]; omega, hp, hp2, (fun e => by cases e), fun x hx => by
    cases hx
    refine .inr ⟨q, _, rfl, hq, fun i y hy j u hu => ?_⟩
    rw [List.getElem?_drop, List.getElem?_take] at hy
    split at hy
    · have := hl _ _ hy j u hu
      rw [show o + s * Y.k + i * Y.k + j = o + (s + i) * Y.k + j by rw [Nat.add_mul]; omega]
      exact this
    · cases hy⟩
set_option maxRecDepth 100000 in
set_option maxHeartbeats 1000000 in
theorem lay_one (D : List En) (a : Option Addr) (n c : Nat) (w : World) (h : SlY yE w a n c D) (hb : n * 48 ≤ 140737488355328) (T : TypeId) :
    Calls Try.prog 16 #[.slice (some ⟨w.heap.size, 0, none⟩) 1 1] (w.alloc (.cells #[.slice a n c] T)) fun e w' => e = .returned (.slice (some ⟨w.heap.size + 1, 0, none⟩) n n) ∧ OwnY yE (w.heap.size + 1) w' (.slice (some ⟨w.heap.size + 1, 0, none⟩) n n) D ∧ Below (w.heap.size + 1) (w.alloc (.cells #[.slice a n c] T)) w' := by
  have hln := h.len
  have hx : tot [(⟨a, c, D⟩ : SV En)] = n := by simp [tot, hln]
  have hy : flat [(⟨a, c, D⟩ : SV En)] = D := by simp [flat]
  have := lay_any [⟨a, c, D⟩] (some ⟨w.heap.size, 0, none⟩) 1 1 (w.alloc (.cells #[.slice a n c] T)) (by
    have := sl_box (Y := zE) w ⟨a, c, D⟩ T
    simp only [zE, yS, hln] at this
    exact this) (fun x hx => by
      simp at hx
      subst hx
      dsimp only
      rw [hln]
      exact h.later ((Below.refl _ _).alloc (Nat.le_refl _) _)) (by rw [hx]; omega)
  rw [hx, hy, World.size_alloc] at this
  exact this
/-- What Each has made. -/
structure Ea (w : World) (s n : Nat) (D : List En) (g k f : Nat) (w' : World) : Prop where
  gb : w.heap.size ≤ g ∧ w.heap.size ≤ k ∧ w.heap.size ≤ f
  lt : g < w'.heap.size ∧ k < w'.heap.size ∧ f < w'.heap.size
  kc : w'.cell? ⟨k, 0, none⟩ = some (.slice (some ⟨g, 0, none⟩) (n - s) (n - s))
  fc : w'.cell? ⟨f, 0, none⟩ = some (.int .i64 ((s : Int) + 1))
  row : OwnY yE w.heap.size w' (.slice (some ⟨g, 0, none⟩) (n - s) (n - s)) (D.drop s)
  bel : Below w.heap.size w w'
set_option maxRecDepth 100000 in
set_option maxHeartbeats 1000000 in
/-- Each: a function over entries of its own. -/
theorem eachO_any (D : List En) (a : Option Addr) (n c : Nat) (fr : Int) (s : Nat) (hs : s ≤ n) (hmm : min (max fr 1) ((n : Int) + 1) = (s : Int) + 1) (w : World) (h : SlY yE w a n c D) (hb : n * 48 ≤ 140737488355328) :
    Calls Try.prog 9 #[.slice a n c, .int .i64 fr] w fun e w' => ∃ g k f, e = .returned (.func (.func 17) #[] #[.pointer (some ⟨k, 0, none⟩), .pointer (some ⟨f, 0, none⟩)]) ∧ Ea w s n D g k f w' := by
  have hmx := h.max
  have hcp := h.cap
  have hln := h.len
  unfold maxLen at hmx
  obtain ⟨WF, hWF⟩ : ∃ WF, w.alloc (Obj.cells #[Value.int IntKind.i64 ((s : Int) + 1)] 3) = WF := ⟨_, rfl⟩
  have zF : WF.heap.size = w.heap.size + 1 := by rw [← hWF]; simp
  have bF : Below w.heap.size w WF := by rw [← hWF]; exact (Below.refl _ _).alloc (Nat.le_refl _) _
  have cF : WF.cell? ⟨w.heap.size, 0, none⟩ = some (.int .i64 ((s : Int) + 1)) := by rw [← hWF]; exact World.cell?_alloc_at _ _ _ _ rfl
  have HF := hide hWF
  have fin : ∀ (w2 : World), OwnY yE (WF.heap.size + 1) w2 (.slice (some ⟨WF.heap.size + 1, 0, none⟩) (n - s) (n - s)) (D.drop s) → Below WF.heap.size WF w2 → WF.heap.size + 1 < w2.heap.size → Ea w s n D (WF.heap.size + 1) w2.heap.size w.heap.size (w2.alloc (Obj.cells #[.slice (some ⟨WF.heap.size + 1, 0, none⟩) (n - s) (n - s)] 31)) := fun w2 o2 b2 z2 => by
    refine ⟨by omega, by simp; omega, World.cell?_alloc_at _ _ _ _ rfl, ?_, (o2.low (by omega)).alloc _, ?_⟩
    · rw [World.cell?_alloc_past _ _ _ (by show w.heap.size < w2.heap.size; omega)]
      exact (b2.cell (p := ⟨w.heap.size, 0, none⟩) (by show w.heap.size < _; omega)).trans cF
    · exact (bF.trans (b2.mono (by omega))).alloc (by omega) _
  have HI := hide fin
  have HZ := hide zF
  clear hWF fin zF
  by_cases hn : s = n
  · subst hn
    have hd : D.drop s = [] := List.drop_of_length_le (by omega)
    have HE : Hid (∀ x, SlY yE WF x 0 0 []) := fun x => SlY.empty yE WF x
    have H0 : Hid (s - s = 0) := Nat.sub_self s
    have HJ : Hid (∀ (w2 : World), OwnY yE (WF.heap.size + 1) w2 (.slice (some ⟨WF.heap.size + 1, 0, none⟩) 0 0) [] → Below WF.heap.size WF w2 → WF.heap.size + 1 < w2.heap.size → Ea w s s D (WF.heap.size + 1) w2.heap.size w.heap.size (w2.alloc (Obj.cells #[.slice (some ⟨WF.heap.size + 1, 0, none⟩) 0 0] 31))) := by
      have := HI.out
      rw [hd, H0.out] at this
      exact this
    clear hd HI
    have CC := hide (fun (x : Option Addr) (T : TypeId) => lay_one [] x 0 0 WF (HE.out x) (by omega) T)
    cases a with
    | none =>
      obtain ⟨rfl, rfl⟩ := h.nil rfl
      clear h hln
      have hm0 : min (max fr 1) 1 = 1 := by omega
      have HF1 : Hid (w.alloc (Obj.cells #[Value.int IntKind.i64 1] 3) = WF) := HF.out
      clear hmm HF
      go_enter Try.func9, Try.ntmps9
      go_wp2_with fail
      rw [HF1.out, ← HZ.out]
      refine (CC.out none _).mono ?_
      rintro e w2 ⟨rfl, o2, b2⟩
      have z2 := (o2.blk _ rfl).2
      have b3 : Below WF.heap.size WF w2 := ((Below.refl _ _).alloc (Nat.le_refl _) _).trans (b2.mono (Nat.le_succ _))
      clear CC HF1 HZ
      go_wp2
      go_ret
      exact ⟨_, _, _, rfl, HJ.out w2 o2 b3 z2⟩
    | some x =>
      clear h hln
      go_enter Try.func9, Try.ntmps9
      go_wp2_with fail
      rw [HF.out, ← HZ.out]
      refine (CC.out (some x) _).mono ?_
      rintro e w2 ⟨rfl, o2, b2⟩
      have z2 := (o2.blk _ rfl).2
      have b3 : Below WF.heap.size WF w2 := ((Below.refl _ _).alloc (Nat.le_refl _) _).trans (b2.mono (Nat.le_succ _))
      clear CC HF HZ
      go_wp2
      go_ret
      exact ⟨_, _, _, rfl, HJ.out w2 o2 b3 z2⟩
  · obtain ⟨q, o, rfl, hq, hl⟩ := h.place (by rintro rfl; simp at hln; omega)
    have h1 : s < n := by omega
    have hS : SlY yE w (some ⟨q, o + s * 5, none⟩) (n - s) (n - s) (D.drop s) := by
      have := SlY.cut (c := c) hq hl hln s n (n - s) h1 (Nat.le_refl _) (Nat.le_refl _) (by unfold maxLen; omega)
      rw [List.take_of_length_le (by omega)] at this
      exact this
    have CC := hide (lay_one (D.drop s) (some ⟨q, o + s * 5, none⟩) (n - s) (n - s) WF (hS.later bF) (by omega) 31)
    clear h hS hl hln
    go_enter Try.func9, Try.ntmps9
    go_wp2_with fail
    rw [HF.out, ← HZ.out]
    refine CC.out.mono ?_
    rintro e w2 ⟨rfl, o2, b2⟩
    have z2 := (o2.blk _ rfl).2
    have b3 : Below WF.heap.size WF w2 := ((Below.refl _ _).alloc (Nat.le_refl _) _).trans (b2.mono (Nat.le_succ _))
    clear CC HF HZ
    go_wp2
    go_ret
    exact ⟨_, _, _, rfl, HI.out w2 o2 b3 z2⟩
/-- Of all places. -/
theorem eachO_one (D : List En) (a : Option Addr) (n c : Nat) (w : World) (h : SlY yE w a n c D) (hb : n * 48 ≤ 140737488355328) :
    Calls Try.prog 9 #[.slice a n c, .int .i64 1] w fun e w' => ∃ g k f, e = .returned (.func (.func 17) #[] #[.pointer (some ⟨k, 0, none⟩), .pointer (some ⟨f, 0, none⟩)]) ∧ Ea w 0 n D g k f w' :=
  eachO_any D a n c 1 0 (Nat.zero_le _) (by show min (max 1 1) _ = (0 : Int) + 1; omega) w h hb

end Go.Proofs.Ytolnkoneilipeaa
