import Derived.Test.YtegfbebhgihcaaaNk0
namespace Go.Proofs.Ytegfbebhgihcaaa
open Go.RowKit Go.Maps
set_option linter.unusedVariables false
set_option linter.unusedSimpArgs false

set_option maxRecDepth 100000 in
/-- 'append' to a slice without room: a new row. -/
theorem run_appF {α : Type} {Y : Lay α} (K : Y.Ok) (h4 : Y.by_ ≤ 4096) (w : World) (ty : TypeId) (x : Addr) (L news : List α) (hL : SlY Y w (some x) L.length L.length L) (ad : Option Addr) (m c : Nat) (hh : SlY Y w ad m c news) (hm : 0 < m) (h63 : L.length + m ≤ maxLen) (hb : (L.length + m) * Y.by_ ≤ 168884986026393) :
    ∃ cap w', (Builtin.append_ #[Y.ST, Y.ST] ty #[.slice (some x) L.length L.length, .slice ad m c]).run Try.prog w = .ok (.slice (some ⟨w.heap.size, 0, none⟩) (L.length + m) cap) w' ∧ OwnY Y w.heap.size w' (.slice (some ⟨w.heap.size, 0, none⟩) (L.length + m) cap) (L ++ news) ∧ Below w.heap.size w w' := by
  obtain ⟨zv, hinfo, hzc⟩ := K.info
  obtain ⟨i0, hi, hz0, hz1, hz2⟩ := info_parts hinfo
  have hzs : zv.cells.size = Y.k := by rw [hzc, List.size_toArray, K.len]
  have hn := hh.len
  obtain ⟨q, o, rfl, hq, hl⟩ := hh.place (by intro e; rw [e] at hn; simp at hn; omega)
  have hnews : ∀ j u, (fl Y news)[j]? = some u → w.cell? ((⟨q, o, none⟩ : Addr).add j) = some u := fun j u hu => by rw [Addr.add_lit]; exact hl.flat K j u hu
  have holds : ∀ j u, (fl Y L)[j]? = some u → w.cell? (x.add j) = some u := fun j u hu => by
    rcases hL.at_ x rfl with e | ⟨q, o, rfl, _, hl⟩
    · subst e; cases hu
    · rw [Addr.add_lit]; exact hl.flat K j u hu
  have hr := run_append_grow (P := Try.prog) w Y.ST ty Y.T i0 zv K.und hi hz0 x L.length L.length (fl Y L) (by rw [hz1]; exact fl_length K L) holds ⟨q, o, none⟩ m c (fl Y news) (by rw [hz1, fl_length K, hn]) hnews (by omega) (by unfold maxLen at h63; omega) (quarter_fits (by omega) (by rw [hz2]; exact h4) (by rw [hz2]; exact hb))
  refine ⟨_, _, hr, ?_, ((Below.refl _ _).drew).alloc (by simp) _⟩
  have hge := grownCap_ge w (L.length + m) L.length Y.T
  have hcm : grownCap w (L.length + m) L.length Y.T ≤ maxLen := grownCap_le_maxLen w (L.length + m) L.length Y.T h63
  have hlen : (fl Y L ++ fl Y news).length = (L.length + m) * Y.k := by rw [List.length_append, fl_length K, fl_length K, hn, Nat.add_mul]
  refine ⟨by rw [fl_length K], .inr ⟨w.heap.size, _, _, by rw [List.length_append, hn], Nat.le_refl _, heap_alloc_new w.drew _, by rw [List.length_append, hn]; exact hge, hcm, ?_, ?_⟩⟩
  · simp only [Array.size_append, List.size_toArray, size_zeroCells, hzs, fl_length K, hn, ← Nat.add_mul]
    congr 1
    omega
  · simp only [Array.toList_append, List.append_assoc]
    rw [List.length_append, hn, fl_append, ← hlen]
    rw [← List.append_assoc]
    exact List.take_left
/-- The pool: a row of the net's own, or a piece without room. -/
def Pl (w : World) (v : Value) (P : List Pk) : Prop := OwnY yP 0 w v P ∨ ∃ x, v = .slice (some x) P.length P.length ∧ SlY yP w (some x) P.length P.length P
theorem Pl.sl {w : World} {v : Value} {P : List Pk} (h : Pl w v P) : ∃ a c, v = .slice a P.length c ∧ SlY yP w a P.length c P := by
  rcases h with h | ⟨x, rfl, h⟩
  · obtain ⟨a, c, rfl, h1, _⟩ := h.sl kP
    exact ⟨a, c, rfl, h1⟩
  · exact ⟨some x, P.length, rfl, h⟩
theorem Pl.upd {S : Nat → Prop} {w w' : World} {v : Value} {P : List Pk} (h : Pl w v P) (u : Upd S w w') (hs : ∀ k, v.ownBlock = some k → ¬ S k) : Pl w' v P := by
  rcases h with h | ⟨x, rfl, h⟩
  · exact .inl (h.upd1 u hs)
  · refine .inr ⟨x, rfl, h.upd u (fun y hy _ => ?_)⟩
    cases hy
    exact hs x.block rfl
theorem run_appPl (w : World) (ty : TypeId) (v : Value) (P : List Pk) (hP : Pl w v P) (ad : Option Addr) (m c : Nat) (news : List Pk) (hh : SlY yP w ad m c news) (h63 : (P.length + m) * 32 ≤ 168884986026393) :
    ∃ v' w', (Builtin.append_ #[81, 81] ty #[v, .slice ad m c]).run Try.prog w = .ok v' w' ∧ Pl w' v' (P ++ news) ∧ w.grownBy w' v.ownBlock ∧ (v'.ownBlock = v.ownBlock ∨ ∃ k, v'.ownBlock = some k ∧ w.heap.size ≤ k) := by
  rcases hP with h | ⟨x, rfl, h⟩
  · obtain ⟨v', w', h1, h2, h3, h4⟩ := run_appY2 kP (by decide) w ty 0 P v ad m c news hh h (Nat.zero_le _) (by unfold maxLen; omega) h63
    exact ⟨v', w', h1, .inl h2, h3, h4⟩
  · by_cases hm : m = 0
    · subst hm
      obtain rfl := List.eq_nil_of_length_eq_zero hh.len
      refine ⟨.slice (some x) P.length P.length, w, ?_, .inr ⟨x, by rw [List.append_nil], by rw [List.append_nil]; exact h⟩, World.grownBy.refl _ _, .inl rfl⟩
      obtain ⟨zv, hinfo, hzc⟩ := kP.info
      obtain ⟨i0, hi, hz0, hz1, hz2⟩ := info_parts hinfo
      have hi' : Try.prog.info? 105 = some i0 := hi
      cases ad with
      | none => simp [Builtin.append_, run_underlying Try.underlying81, sizeOf, typeInfo, hi', Builtin.lenOf, Builtin.firstCells, loadCells, loadCellsFrom, storeCells]
      | some y => simp [Builtin.append_, run_underlying Try.underlying81, sizeOf, typeInfo, hi', Builtin.lenOf, Builtin.firstCells, loadCells, loadCellsFrom, storeCells]
    · obtain ⟨cap, w', h1, h2, h3⟩ := run_appF kP (by decide) w ty x P news h ad m c hh (by omega) (by unfold maxLen; omega) h63
      exact ⟨_, w', h1, .inl (h2.low (Nat.zero_le _)), ⟨h3.os, h3.tape, h3.output, h3.size, fun k hk _ => h3.block k hk⟩, .inr ⟨_, rfl, Nat.le_refl _⟩⟩

end Go.Proofs.Ytegfbebhgihcaaa
