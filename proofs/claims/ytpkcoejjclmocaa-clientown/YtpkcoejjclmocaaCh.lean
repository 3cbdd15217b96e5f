import Derived.Test.YtpkcoejjclmocaaCg
namespace Go.Proofs.Ytpkcoejjclmocaa
open Go.RowKit Go.Maps
set_option linter.unusedVariables false
set_option linter.unusedSimpArgs false

theorem LieY.drop {α : Type} {Y : Lay α} {w : World} {q o : Nat} {l : List α} (h : LieY Y w q o l) (f : Nat) : LieY Y w q (o + f * Y.k) (l.drop f) := fun i x hx j u hu => by
  rw [List.getElem?_drop] at hx
  have := h _ _ hx j u hu
  rw [Nat.add_mul] at this
  rw [Nat.add_assoc o, ]
  exact this
def btw (L : List En) (f t : Int) : List Rw := if ckB L f t = 0 then ((rws L t.toNat).take t.toNat).drop f.toNat else []
set_option maxRecDepth 100000 in
set_option maxHeartbeats 1000000 in
theorem between_any (L : List En) (a : Option Addr) (c : Nat) (f t : Int) (w : World) (h : SlY yE w a L.length c L) (hf : ∀ e ∈ L, e.fits) :
    Calls Try.prog 18 #[.slice a L.length c, .int .i64 f, .int .i64 t] w fun e w' => ∃ a' n' c', e = .returned (.tuple #[.slice a' n' c', .int .i64 (ckB L f t)]) ∧ SlY yR w' a' n' c' (btw L f t) ∧ (∀ x, a' = some x → w.heap.size ≤ x.block) ∧ Below w.heap.size w w' := by
  have ck := check2_any L a c f t w h hf
  have hmx := h.max
  have hcp := h.cap
  unfold maxLen at hmx
  have H := hide h
  have HF := hide hf
  clear h hf
  by_cases hx : ckB L f t = 0
  · obtain ⟨h1, h2, h3, h4⟩ := ckB_zero hx
    have hT : Hid (btw L f t = ((rws L t.toNat).take t.toNat).drop f.toNat) := by show _ = _; simp [btw, hx]
    have hl : L.length ≤ 256 := by have := (lg_zero h1).1; omega
    rw [hx] at ck ⊢
    obtain ⟨n, rfl⟩ : ∃ n : Nat, t = (n : Int) := ⟨t.toNat, by omega⟩
    obtain ⟨m, rfl⟩ : ∃ m : Nat, f = (m : Int) := ⟨f.toNat, by omega⟩
    rw [Int.toNat_natCast, Int.toNat_natCast] at hT
    have hn : n ≤ L.length := by omega
    have hmn : m ≤ n := by omega
    clear hx h1 h3 h4 h2
    by_cases he : m = n
    · have he' := he.symm
      subst he'
      go_enter Try.func18, Try.ntmps18
      go_wp2_with (first
        | (go_at_call 27; refine ck.mono ?_; rintro e w1 ⟨rfl, b1⟩; have cr := rows_any (L.take n) a c n w1 (by have := (H.out.later b1).take n hn; rw [List.length_take, Nat.min_eq_left hn]; exact this) (fun e he => HF.out e (List.mem_of_mem_take he)) (by simp; omega) (by simp; omega); rw [List.length_take, Nat.min_eq_left hn, rws_take] at cr)
        | (go_at_call 39; refine cr.mono ?_; rintro e w2 ⟨g, rfl, o2, b2⟩; clear cr; have z1 := b1.size; have hg := o2.lenN.2; have OS := hide (o2.sl' kR); have HG := hide hg; have BB := hide (b1.trans (b2.mono z1)); clear o2 b1 b2 hg))
      go_ret2
      refine ⟨_, _, _, rfl, ⟨?_, Nat.le_refl _, by unfold maxLen; omega, (fun e => by cases e), fun x hx => .inl ?_⟩, fun x hx => ?_, BB.out⟩
      · rw [hT.out, List.length_drop, List.length_take]; omega
      · rw [hT.out, List.drop_of_length_le (by rw [List.length_take]; omega)]
      · cases hx; have := HG.out.1; show w.heap.size ≤ g; omega
    · have hlt : m < n := by omega
      go_enter Try.func18, Try.ntmps18
      go_wp2_with (first
        | (go_at_call 27; refine ck.mono ?_; rintro e w1 ⟨rfl, b1⟩; have cr := rows_any (L.take n) a c n w1 (by have := (H.out.later b1).take n hn; rw [List.length_take, Nat.min_eq_left hn]; exact this) (fun e he => HF.out e (List.mem_of_mem_take he)) (by simp; omega) (by simp; omega); rw [List.length_take, Nat.min_eq_left hn, rws_take] at cr)
        | (go_at_call 39; refine cr.mono ?_; rintro e w2 ⟨g, rfl, o2, b2⟩; clear cr; have z1 := b1.size; have hg := o2.lenN.2; have OS := hide (o2.sl' kR); have HG := hide hg; have BB := hide (b1.trans (b2.mono z1)); clear o2 b1 b2 hg))
      go_ret2
      have hln : ((rws L n).take n).length = n := by rw [List.length_take, rws_length]; omega
      refine ⟨_, _, _, rfl, ⟨?_, Nat.le_refl _, by unfold maxLen; omega, (fun e => by cases e), fun x hx => .inr ?_⟩, fun x hx => ?_, BB.out⟩
      · rw [hT.out, List.length_drop, hln]
      · cases hx
        obtain ⟨q, o, e, hq, hl⟩ := OS.out.place (by intro e; rw [e] at hln; simp at hln; omega)
        cases e
        refine ⟨g, m * 7, rfl, hq, ?_⟩
        rw [hT.out]
        have := hl.drop m
        rw [Nat.zero_add] at this
        exact this
      · cases hx; have := HG.out.1; show w.heap.size ≤ g; omega
  · have hT : Hid (btw L f t = []) := by show _ = _; simp [btw, hx]
    generalize ckB L f t = x at *
    go_enter Try.func18, Try.ntmps18
    go_wp2_with (go_at_call 27; refine ck.mono ?_; rintro e w1 ⟨rfl, b1⟩)
    go_ret2
    exact ⟨_, _, _, rfl, by rw [hT.out]; exact (OwnY.nil yR 0 _).sl' kR, (fun x hx => by cases hx), b1⟩

end Go.Proofs.Ytpkcoejjclmocaa
