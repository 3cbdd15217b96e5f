import Derived.Test.YtcchnaldanibgaaUb
import Derived.Test.YtcchnaldanibgaaVz
namespace Go.Proofs.Ytcchnaldanibgaa
open Go.RowKit
set_option linter.unusedVariables false
set_option linter.unusedSimpArgs false

theorem rowsWV_apart {B B' : Nat} {w : World} {v v' : Value} {D : List Voi} {L : List Vec} {k : Nat} (h : OwnW B w v D) (h' : OwnV B' w v' L) (e : v.ownBlock = some k) (e' : v'.ownBlock = some k) : False := by
  rcases h.2 with ⟨rfl, _⟩ | ⟨g, cap, cur, rfl, _, hg, _⟩
  · cases e
  · rcases h'.2 with ⟨rfl, _⟩ | ⟨g', cap', cur', rfl, _, hg', _⟩
    · cases e'
    · cases e
      cases e'
      rw [hg] at hg'
      cases hg'
theorem rowsWD_apart {B B' : Nat} {w : World} {v v' : Value} {D : List Voi} {L : List (Int × Int)} {k : Nat} (h : OwnW B w v D) (h' : OwnD B' w v' L) (e : v.ownBlock = some k) (e' : v'.ownBlock = some k) : False := by
  rcases h.2 with ⟨rfl, _⟩ | ⟨g, cap, cur, rfl, _, hg, _⟩
  · cases e
  · rcases h'.2 with ⟨rfl, _⟩ | ⟨g', cap', cur', rfl, _, hg', _⟩
    · cases e'
    · cases e
      cases e'
      rw [hg] at hg'
      cases hg'
theorem OwnD.grownW {B B' : Nat} {w w' : World} {v v2 : Value} {D : List (Int × Int)} {L : List Voi} (h : OwnD B w v D) (hv : OwnW B' w v2 L) (hg : w.grownBy w' v2.ownBlock) : OwnD B w' v D := by
  refine World.ownsRow.kept h hg ?_
  cases e : v.ownBlock with
  | none => exact .inl rfl
  | some k => exact .inr (fun e' => rowsWD_apart hv h e'.symm e)
theorem OwnV.grownW {B B' : Nat} {w w' : World} {v v2 : Value} {D : List Vec} {L : List Voi} (h : OwnV B w v D) (hv : OwnW B' w v2 L) (hg : w.grownBy w' v2.ownBlock) : OwnV B w' v D := by
  refine World.ownsRow.kept h hg ?_
  cases e : v.ownBlock with
  | none => exact .inl rfl
  | some k => exact .inr (fun e' => rowsWV_apart hv h e'.symm e)
theorem OwnW.blk {B : Nat} {w : World} {v : Value} {L : List Voi} (h : OwnW B w v L) : ∀ k, v.ownBlock = some k → B ≤ k ∧ k < w.heap.size := World.ownsRow.lt h
theorem OwnW.low {B B' : Nat} {w : World} {v : Value} {l : List Voi} (h : OwnW B w v l) (hb : B' ≤ B) : OwnW B' w v l := by
  obtain ⟨h1, h2⟩ := h
  refine ⟨h1, ?_⟩
  rcases h2 with h2 | ⟨g, cap, cur, e1, e2, r⟩
  · exact .inl h2
  · exact .inr ⟨g, cap, cur, e1, Nat.le_trans hb e2, r⟩
theorem OwnW.updB {B : Nat} {S : Nat → Prop} {w w' : World} {v : Value} {l : List Voi} (h : OwnW B w v l) (u : Upd S w w') (hs : ∀ k, v.ownBlock = some k → ¬ S k) : OwnW B w' v l := by
  obtain ⟨h1, h2⟩ := h
  refine ⟨h1, ?_⟩
  rcases h2 with h2 | ⟨g, cap, cur, e1, e2, e3, r⟩
  · exact .inl h2
  · refine .inr ⟨g, cap, cur, e1, e2, ?_, r⟩
    have hlt : g < w.heap.size := by
      rcases Nat.lt_or_ge g w.heap.size with h' | h'
      · exact h'
      · rw [Array.getElem?_eq_none h'] at e3; cases e3
    rw [u.block g hlt (hs g (by rw [e1]; rfl))]
    exact e3
/-- A row of voices grows. -/
theorem GX.growW {w w' : World} {b B B' : Nat} {v2 v3 u : Value} {L2 L3 : List Vec} {LX : List Voi} (G : GX w b B v2 v3 L2 L3) (hu : OwnW B' w u LX) (hB : B ≤ B') (g : w.grownBy w' u.ownBlock) : GX w' b B v2 v3 L2 L3 := by
  have hlt : b < w.heap.size := Nat.lt_of_lt_of_le G.lt G.ltB
  have hrow : u.ownBlock ≠ some b := fun e => by have := (hu.blk b e).1; have := G.lt; omega
  exact ⟨G.lt, Nat.le_trans G.ltB g.size, grown_cell g G.c0 hrow, grown_cell g G.c4 hrow, grown_cell g G.c6 hrow, grown_cell g G.c8 hrow, grown_cell g G.c2 hrow, grown_cell g G.c3 hrow, grown_frozen g hlt G.f2 hrow, grown_frozen g hlt G.f3 hrow,
    G.o2.grownW hu g, G.o3.grownW hu g, G.ne, fun x hx => (G.d2 x hx).grownW hu g, fun x hx => (G.d3 x hx).grownW hu g⟩
theorem Upd.comp {S T : Nat → Prop} {a b c : World} (h : Upd S a b) (k : Upd T b c) (hst : ∀ i, i < a.heap.size → T i → S i) : Upd S a c :=
  ⟨k.os.trans h.os, k.tape.trans h.tape, k.output.trans h.output, Nat.le_trans h.size k.size, fun i hi hs => (k.block i (Nat.lt_of_lt_of_le hi h.size) (fun ht => hs (hst i hi ht))).trans (h.block i hi hs)⟩
/-- A voice that was handed on. -/
structure ZV where
  node : Int
  z : ZE
def ZV.x (v : ZV) : Voi := ⟨v.node, v.z.x⟩
/-- What Given.Voices has made so far. -/
structure VSt (w wr : World) (b B : Nat) (v20 v30 : Value) (L : List Voi) (k : Nat) (u v2 v3 : Value) (Z0 : List ZE) (Z : List ZV) (L3 : List Vec) : Prop where
  same : Z.map (fun v => (v.node, v.z.D)) = (L.take k).map (fun m => (m.node, m.x.D))
  gx : GX wr b B v2 v3 ((Z0 ++ Z.map (·.z)).map ZE.m) L3
  was : ((Z0 ++ Z.map (·.z)).map ZE.m).map (·.D) = L3.map (·.D)
  own : OwnW w.heap.size wr u (Z.map ZV.x)
  upd : Upd (fun k => k = b ∨ v20.ownBlock = some k ∨ v30.ownBlock = some k) w wr
  n2 : v2.ownBlock = v20.ownBlock ∨ ∃ k, v2.ownBlock = some k ∧ w.heap.size ≤ k
  n3 : v3.ownBlock = v30.ownBlock ∨ ∃ k, v3.ownBlock = some k ∧ w.heap.size ≤ k
theorem VSt.len {w wr : World} {b B : Nat} {v20 v30 : Value} {L : List Voi} {k : Nat} {u v2 v3 : Value} {Z0 : List ZE} {Z : List ZV} {L3 : List Vec} (h : VSt w wr b B v20 v30 L k u v2 v3 Z0 Z L3) (hk : k ≤ L.length) : Z.length = k := by
  have := congrArg List.length h.same
  rw [List.length_map, List.length_map, List.length_take] at this
  omega
theorem VSt.len3 {w wr : World} {b B : Nat} {v20 v30 : Value} {L : List Voi} {k : Nat} {u v2 v3 : Value} {Z0 : List ZE} {Z : List ZV} {L3 : List Vec} (h : VSt w wr b B v20 v30 L k u v2 v3 Z0 Z L3) : L3.length = ((Z0 ++ Z.map (·.z)).map ZE.m).length := by
  have := congrArg List.length h.was
  rw [List.length_map] at this
  rw [this, List.length_map]
theorem VSt.push {w wr w1 w2 : World} {b B : Nat} {v20 v30 : Value} {L : List Voi} {k : Nat} {u v2 v3 u' v2' v3' : Value} {Z0 : List ZE} {Z : List ZV} {L3 : List Vec} {g c' g5 k5 : Nat} {y : Voi} {ob : Obj} (h : VSt w wr b B v20 v30 L k u v2 v3 Z0 Z L3) (hy : L[k]? = some y) (hB : B ≤ w.heap.size)
    (G1 : GX w1 b B v2' v3' ((Z0 ++ Z.map (·.z)).map ZE.m ++ [⟨some ⟨g, 0, none⟩, c', y.x.D ++ [(77, 88)]⟩]) (L3 ++ [⟨some ⟨g5, 0, none⟩, k5, y.x.D ++ [(77, 88)]⟩])) (U1 : Upd (fun k => k = b ∨ v2.ownBlock = some k ∨ v3.ownBlock = some k) wr w1)
    (N2 : v2'.ownBlock = v2.ownBlock ∨ ∃ k, v2'.ownBlock = some k ∧ wr.heap.size ≤ k) (N3 : v3'.ownBlock = v3.ownBlock ∨ ∃ k, v3'.ownBlock = some k ∧ wr.heap.size ≤ k)
    (oa : OwnW w.heap.size (w1.alloc ob) u (Z.map ZV.x)) (o2 : OwnW w.heap.size w2 u' (Z.map ZV.x ++ [⟨y.node, ⟨some ⟨g, 0, none⟩, c', y.x.D⟩⟩])) (g2 : (w1.alloc ob).grownBy w2 u.ownBlock) :
    VSt w w2 b B v20 v30 L (k + 1) u' v2' v3' Z0 (Z ++ [⟨y.node, ⟨g, c', y.x.D⟩⟩]) (L3 ++ [⟨some ⟨g5, 0, none⟩, k5, y.x.D ++ [(77, 88)]⟩]) := by
  have ba : Below w1.heap.size w1 (w1.alloc ob) := (Below.refl _ _).alloc (Nat.le_refl _) _
  have hsz := h.upd.size
  have hm : (Z0 ++ (Z ++ [(⟨y.node, ⟨g, c', y.x.D⟩⟩ : ZV)]).map (·.z)).map ZE.m = (Z0 ++ Z.map (·.z)).map ZE.m ++ [⟨some ⟨g, 0, none⟩, c', y.x.D ++ [(77, 88)]⟩] := by
    simp [ZE.m]
  refine ⟨?_, ?_, ?_, ?_, ?_, ?_, ?_⟩
  · rw [List.map_append, h.same, List.take_add_one, hy]
    simp
  · rw [hm]
    exact (G1.bel ba).growW oa hB g2
  · rw [hm]
    have e := h.was
    generalize (Z0 ++ Z.map (·.z)).map ZE.m = XX at e ⊢
    rw [List.map_append, List.map_append, e]
    rfl
  · rw [List.map_append]
    exact o2
  · have u1 := h.upd.comp U1 (fun i hi ht => by
      rcases ht with ht | ht | ht
      · exact .inl ht
      · rcases h.n2 with e | ⟨k', e, hk⟩
        · exact .inr (.inl (e.symm.trans ht))
        · rw [e] at ht; cases ht; omega
      · rcases h.n3 with e | ⟨k', e, hk⟩
        · exact .inr (.inr (e.symm.trans ht))
        · rw [e] at ht; cases ht; omega)
    refine (u1.alloc ob).comp (upd_grown g2 (S := fun k => u.ownBlock = some k) (fun k e => e)) (fun i hi ht => ?_)
    have := (oa.blk i ht).1
    omega
  · rcases N2 with e | ⟨k', e, hk⟩
    · rcases h.n2 with e2 | ⟨k2, e2, hk2⟩
      · exact .inl (e.trans e2)
      · exact .inr ⟨k2, e.trans e2, hk2⟩
    · exact .inr ⟨k', e, by omega⟩
  · rcases N3 with e | ⟨k', e, hk⟩
    · rcases h.n3 with e2 | ⟨k2, e2, hk2⟩
      · exact .inl (e.trans e2)
      · exact .inr ⟨k2, e.trans e2, hk2⟩
    · exact .inr ⟨k', e, by omega⟩
/-- A call of Given.Vector, in a region that draws its order. -/
theorem step_given {ops : Array Oper} {o : Oper} {a : Act} {w : World} {K : Act → World → Prop} {Q : Exit → Act → World → Prop} {E : Prop} (hg : o.guard = none) (p x : Operand)
    (ho : o.op = .call { callee := .value (.func 10), args := #[p, x], argTypes := #[85, 23] }) (b B : Nat) (v2 v3 : Value) (L2 L3 : List Vec) (ad : Option Addr) (n c : Nat) (D : List (Int × Int)) (hp : a.eval p = .pointer (some ⟨b, 0, none⟩)) (hx : a.eval x = .slice ad n c)
    (G : GX w b B v2 v3 L2 L3) (h : SlN w ad n c D) (hm : n * 16 ≤ 140737488351232) (hP : (L2.length + 1) * 24 ≤ 140737488355328) (hP3 : L3.length = L2.length)
    (hK : ∀ g c' v2' v3' g5 k5 w', SlN w' (some ⟨g, 0, none⟩) n c' D → w.heap.size ≤ g → GX w' b B v2' v3' (L2 ++ [⟨some ⟨g, 0, none⟩, c', D ++ [(77, 88)]⟩]) (L3 ++ [⟨some ⟨g5, 0, none⟩, k5, D ++ [(77, 88)]⟩]) → Upd (fun k => k = b ∨ v2.ownBlock = some k ∨ v3.ownBlock = some k) w w' → (v2'.ownBlock = v2.ownBlock ∨ ∃ k, v2'.ownBlock = some k ∧ w.heap.size ≤ k) → (v3'.ownBlock = v3.ownBlock ∨ ∃ k, v3'.ownBlock = some k ∧ w.heap.size ≤ k) → K (a.put o.dst (.slice (some ⟨g, 0, none⟩) n c')) w') :
    if Region.wanted o (yielded ops a.tmps) = true then Oper.wp Try.prog o a w K Q else E := by
  have hw : Region.wanted o (yielded ops a.tmps) = true := by simp [Region.wanted, hg]
  rw [if_pos hw]
  have hr : (execOp a.eval o).run Try.prog w = .ok (.enter 10 #[.pointer (some ⟨b, 0, none⟩), .slice ad n c]) w := by
    unfold execOp
    simp only [ho, resolve, invoke, Sem.run_bind, List.map_toArray, List.map_cons, List.map_nil, hp, hx]
    rfl
  unfold Oper.wp
  rw [hr, Oper.upon_enter]
  refine (given_vec b B v2 v3 L2 L3 ad n c D w G h hm hP hP3).mono ?_
  rintro e w' ⟨g, c', v2', v3', g5, k5, rfl, h1, h2, h3, h4, h5, h6⟩
  exact hK g c' v2' v3' g5 k5 w' h1 h2 h3 h4 h5 h6
theorem step_voice {ops : Array Oper} {o : Oper} {a : Act} {w : World} {K : Act → World → Prop} {Q : Exit → Act → World → Prop} {E : Prop} (hg : o.guard = none) (s x : Operand)
    (ho : o.op = .call { callee := .builtin .append, args := #[s, x], argTypes := #[54, 54] }) (B : Nat) (L : List Voi) (v : Value) (hs : a.eval s = v)
    (ad : Addr) (hx : a.eval x = .slice (some ad) 1 1) (m : Voi) (hc : w.cell? ad = some (.int .i64 m.node)) (hc1 : w.cell? (ad.add 1) = some (.slice m.x.a m.x.D.length m.x.c)) (hown : OwnW B w v L) (hB : B ≤ w.heap.size) (hb : (L.length + 1) * 32 ≤ 140737488355328)
    (hk : ∀ v' w', OwnW B w' v' (L ++ [m]) → w.grownBy w' v.ownBlock → K (a.put o.dst v') w') :
    if Region.wanted o (yielded ops a.tmps) = true then Oper.wp Try.prog o a w K Q else E := by
  have hw : Region.wanted o (yielded ops a.tmps) = true := by simp [Region.wanted, hg]
  rw [if_pos hw]
  obtain ⟨i0, hi, hz0, hz1, hz2⟩ := info_parts info_voice
  obtain ⟨v', w', hr, h2, h3, h4⟩ := run_append_own (P := Try.prog) w B 54 o.type 56 i0 (.agg #[.int .i64 0, .slice none 0 0]) 2 32 Try.underlying54 hi hz0 hz1 hz2 rfl (by decide) v L.length (wcs L) hown ad 1 1 [.int .i64 m.node, .slice m.x.a m.x.D.length m.x.c] rfl (by
    intro j u hu
    match j, hu with
    | 0, hu => simp at hu; subst hu; obtain ⟨b, o, s⟩ := ad; exact hc
    | 1, hu => simp at hu; subst hu; exact hc1
    | j + 2, hu => simp at hu) (by intro u hu; simp at hu; rcases hu with rfl | rfl <;> rfl) (by unfold maxLen; omega) hb hB
  unfold Oper.wp execOp
  simp only [ho, resolve, invoke, builtin, Sem.run_bind, Sem.run_pure, Result.andThen_ok, List.map_toArray, List.map_cons, List.map_nil, hs, hx, hr]
  refine hk v' w' ?_ h3
  have : wcs (L ++ [m]) = wcs L ++ [.int .i64 m.node, .slice m.x.a m.x.D.length m.x.c] := by rw [wcs_append]; rfl
  unfold OwnW
  rw [this, List.length_append]
  exact h2

end Go.Proofs.Ytcchnaldanibgaa
