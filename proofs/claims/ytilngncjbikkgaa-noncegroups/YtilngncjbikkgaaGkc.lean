import Derived.Test.YtilngncjbikkgaaGkb
namespace Go.Proofs.Ytilngncjbikkgaa
open Go.RowKit
set_option linter.unusedVariables false
set_option linter.unusedSimpArgs false

theorem step_newmixed {ops : Array Oper} {o : Oper} {a : Act} {w : World} {K : Act → World → Prop} {Q : Exit → Act → World → Prop} {E : Prop} (hg : o.guard = none) (x : Operand)
    (ho : o.op = .call { callee := .value (.func 25), args := #[x], argTypes := #[22] }) (s : Int) (hx : a.eval x = .int .u64 s)
    (hK : K (a.put o.dst (.pointer (some ⟨w.heap.size, 0, none⟩))) (w.alloc (.cells #[.int .u64 s] 89))) :
    if Region.wanted o (yielded ops a.tmps) = true then Oper.wp Try.prog o a w K Q else E := by
  have hw : Region.wanted o (yielded ops a.tmps) = true := by simp [Region.wanted, hg]
  rw [if_pos hw]
  have hr : (execOp a.eval o).run Try.prog w = .ok (.enter 25 #[.int .u64 s]) w := by
    unfold execOp
    simp only [ho, resolve, invoke, Sem.run_bind, List.map_toArray, List.map_cons, List.map_nil, hx]
    rfl
  unfold Oper.wp
  rw [hr, Oper.upon_enter]
  refine (newmixed_any s w).mono ?_
  rintro e w' ⟨rfl, rfl⟩
  exact hK
/-- The state that the source of a number begins with. -/
def sd0 (sd : Int) (j : Nat) : Int := (sd + (j : Int)) % 18446744073709551616
/-- A group of mixed sources in the making. -/
structure GKm (w : World) (B g i : Nat) (m : Nat → Nat) (vs : Value) (sd : Int) : Prop where
  lt : g < w.heap.size
  c0 : w.cell? ⟨g, 0, none⟩ = some vs
  c1 : w.cell? ⟨g, 1, none⟩ = some (.slice none 0 0)
  c2 : w.cell? ⟨g, 2, none⟩ = some (.pointer none)
  f0 : w.frozen? ⟨g, 0, none⟩ = false
  f1 : w.frozen? ⟨g, 1, none⟩ = false
  pz : ∀ j, j < 7 → w.cell? ⟨g, 3 + j, none⟩ = some (.pointer none)
  own : OwnI B w vs (ifs 79 m i)
  P : ∀ j, j < i → Mix w (m j) (sd0 sd j)
  inj : ∀ j k, j < i → k < i → m j = m k → j = k
  lo : ∀ j, j < i → B ≤ m j ∧ m j < w.heap.size
  ps : ∀ j k, j < i → vs.ownBlock = some k → k ≠ m j
  gB : g < B
  hB : B ≤ w.heap.size
theorem gkm_next {wr w5 : World} {B g i : Nat} {m : Nat → Nat} {vs : Value} {sd : Int} (h : GKm wr B g i m vs sd) (ss : Int) (hss : sd0 sd i = ss) (sg cap : Nat) (q1 : OwnI B w5 (.slice (some ⟨sg, 0, none⟩) ((ifs 79 m i).length + 1) cap) (ifs 79 m i ++ [.iface 79 (.pointer (some ⟨wr.heap.size, 0, none⟩))])) (u5 : Upd (fun k => vs.ownBlock = some k) (wr.alloc (.cells #[.int .u64 ss] 89)) w5) (q3 : some sg = vs.ownBlock ∨ wr.heap.size + 1 ≤ sg) :
    GKm (w5.setCell ⟨g, 0, none⟩ (.slice (some ⟨sg, 0, none⟩) ((ifs 79 m i).length + 1) cap)) B g (i + 1) (fun j => if j = i then wr.heap.size else m j) (.slice (some ⟨sg, 0, none⟩) ((ifs 79 m i).length + 1) cap) sd := by
  subst hss
  have ow := World.ownsRow.lt h.own
  have lt := h.lt
  have hB := h.hB
  have gB := h.gB
  have z5 := u5.size
  rw [World.size_alloc] at z5
  have ng : ∀ k, vs.ownBlock = some k → k ≠ g := fun k hk => by have := (ow k hk).1; omega
  have u7 : Upd (· = g) w5 (w5.setCell ⟨g, 0, none⟩ (.slice (some ⟨sg, 0, none⟩) ((ifs 79 m i).length + 1) cap)) := upd_one _ _ _ _
  have z7 : (w5.setCell ⟨g, 0, none⟩ (.slice (some ⟨sg, 0, none⟩) ((ifs 79 m i).length + 1) cap)).heap.size = w5.heap.size := by simp [World.setCell]
  have u4 : Upd (fun k => vs.ownBlock = some k) wr w5 := ((Upd.refl _ wr).alloc _).trans u5
  have c5 : ∀ j u, wr.cell? ⟨g, j, none⟩ = some u → w5.cell? ⟨g, j, none⟩ = some u := fun j u hu => (u4.cell (p := ⟨g, j, none⟩) lt (fun e => ng g e rfl)).trans hu
  have f5 : ∀ j, wr.frozen? ⟨g, j, none⟩ = false → w5.frozen? ⟨g, j, none⟩ = false := fun j hu => (u4.frozen (p := ⟨g, j, none⟩) lt (fun e => ng g e rfl)).trans hu
  have sgB := (World.ownsRow.lt q1 sg rfl)
  have hs0 : 0 ≤ sd0 sd i ∧ sd0 sd i ≤ 18446744073709551615 := by unfold sd0; omega
  refine ⟨by rw [z7]; omega, sc_eq (c5 0 _ h.c0), sc_ne (c5 1 _ h.c1) (by omega), sc_ne (c5 2 _ h.c2) (by omega), sc_fr (f5 0 h.f0), sc_fr (f5 1 h.f1), fun j h1 => sc_ne (c5 _ _ (h.pz j h1)) (by omega), ?_, fun j hj => ?_, fun j k hj hk e => ?_, fun j hj => ?_, fun j k hj hk => ?_, gB, by rw [z7]; omega⟩
  · have e : ifs 79 (fun j => if j = i then wr.heap.size else m j) (i + 1) = ifs 79 m i ++ [.iface 79 (.pointer (some ⟨wr.heap.size, 0, none⟩))] := by
      rw [← ifs_next, ifs_same 79 m _ i (fun j hj => if_neg (by omega)), if_pos rfl]
    rw [e]
    exact q1.upd u7 (fun k hk => by cases hk; show ¬ sg = g; omega)
  · by_cases e : j = i
    · subst e; rw [if_pos rfl]
      exact ((Mix.new (sd0 sd j) wr hs0.1 hs0.2).upd u5 (fun e => by have := (ow _ e).2; omega)).upd u7 (by show ¬ wr.heap.size = g; omega)
    · rw [if_neg e]
      have := h.lo j (by omega)
      exact ((h.P j (by omega)).upd u4 (fun e2 => h.ps j _ (by omega) e2 rfl)).upd u7 (by show ¬ m j = g; omega)
  · by_cases e1 : j = i <;> by_cases e2 : k = i
    · omega
    · rw [if_pos e1, if_neg e2] at e; have := h.lo k (by omega); omega
    · rw [if_neg e1, if_pos e2] at e; have := h.lo j (by omega); omega
    · rw [if_neg e1, if_neg e2] at e; exact h.inj j k (by omega) (by omega) e
  · by_cases e : j = i
    · rw [if_pos e, z7]; omega
    · rw [if_neg e, z7]; have := h.lo j (by omega); omega
  · have hk : sg = k := by cases hk; rfl
    subst hk
    by_cases e : j = i
    · rw [if_pos e]
      rcases q3 with q3 | q3
      · have := (ow sg q3.symm).2; omega
      · omega
    · rw [if_neg e]
      have := h.lo j (by omega)
      rcases q3 with q3 | q3
      · exact h.ps j sg (by omega) q3.symm
      · omega
theorem mixed_upd {wr w5 : World} {M C : Obj} {v : Value} (hg : (((wr.alloc M).alloc C).drew).grownBy w5 v.ownBlock) : Upd (fun k => v.ownBlock = some k) (wr.alloc M) w5 :=
  ⟨hg.os, hg.tape, hg.output, by have := hg.size; simp at this ⊢; omega, fun k hk hs => (hg.block k (by simp at hk ⊢; omega) (fun e => hs e.symm)).trans (Below.heap_alloc (wr.alloc M) C k (by simpa using hk))⟩

end Go.Proofs.Ytilngncjbikkgaa
