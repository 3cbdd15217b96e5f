import Derived.Test.YtilngncjbikkgaaMx
import Derived.Deep.RegionHeld3
import Derived.Maps.AppendAt
namespace Go.Proofs.Ytilngncjbikkgaa
open Go.RowKit
set_option linter.unusedVariables false

/-- Stamps as cells. -/
def tcs : List (Int × Int × Int) → List Value
  | [] => []
  | d :: r => .int .i64 d.1 :: .int .u64 d.2.1 :: .int .u64 d.2.2 :: tcs r
theorem tcs_append : ∀ l m : List (Int × Int × Int), tcs (l ++ m) = tcs l ++ tcs m
  | [], m => rfl
  | d :: r, m => by simp only [tcs, List.cons_append, tcs_append r m]
theorem tcs_get : ∀ (l : List (Int × Int × Int)) (i : Nat) (d : Int × Int × Int), l[i]? = some d → (tcs l)[i * 3]? = some (.int .i64 d.1) ∧ (tcs l)[i * 3 + 1]? = some (.int .u64 d.2.1) ∧ (tcs l)[i * 3 + 2]? = some (.int .u64 d.2.2)
  | [], i, d, h => by simp at h
  | x :: r, 0, d, h => by simp at h; subst h; simp [tcs]
  | x :: r, i + 1, d, h => by
    have e0 : (i + 1) * 3 = i * 3 + 1 + 1 + 1 := by omega
    have e1 : (i + 1) * 3 + 1 = i * 3 + 1 + 1 + 1 + 1 := by omega
    have e2 : (i + 1) * 3 + 2 = i * 3 + 2 + 1 + 1 + 1 := by omega
    rw [e1, e2, e0]
    simp only [tcs, List.getElem?_cons_succ] at h ⊢
    exact tcs_get r i d h
/-- A slice of stamps of the call's own. -/
def OwnS (B : Nat) (w : World) (v : Value) (l : List (Int × Int × Int)) : Prop := w.ownsRow B 70 3 v l.length (tcs l)
theorem OwnS.nil (B : Nat) (w : World) : OwnS B w (.slice none 0 0) [] := World.ownsRow_nil w B 70 3
theorem OwnS.alloc {B : Nat} {w : World} {v : Value} {l : List (Int × Int × Int)} (h : OwnS B w v l) (o : Obj) : OwnS B (w.alloc o) v l := World.ownsRow.alloc h o
theorem OwnS.lt {B : Nat} {w : World} {v : Value} {l : List (Int × Int × Int)} (h : OwnS B w v l) : ∀ k, v.ownBlock = some k → B ≤ k ∧ k < w.heap.size := World.ownsRow.lt h
theorem OwnS.upd {B : Nat} {S : Nat → Prop} {w w' : World} {v : Value} {l : List (Int × Int × Int)} (h : OwnS B w v l) (u : Upd S w w') (hs : ∀ k, v.ownBlock = some k → ¬ S k) : OwnS B w' v l := by
  have hlt := h.lt
  obtain ⟨h1, h2⟩ := h
  refine ⟨h1, ?_⟩
  rcases h2 with h2 | ⟨g, cap, cur, e1, e2, e3, r⟩
  · exact .inl h2
  · refine .inr ⟨g, cap, cur, e1, e2, ?_, r⟩
    rw [u.block g (hlt g (by rw [e1]; rfl)).2 (hs g (by rw [e1]; rfl))]
    exact e3
theorem OwnS.form {B : Nat} {w : World} {v : Value} {l : List (Int × Int × Int)} (h : OwnS B w v l) : ∃ a c, v = .slice a l.length c ∧ l.length ≤ c ∧ c ≤ maxLen ∧ (a = none → l = [] ∧ c = 0) ∧ ∀ x, a = some x → ∃ g, x = ⟨g, 0, none⟩ ∧ B ≤ g ∧ g < w.heap.size := by
  have hlt := h.lt
  rcases h.2 with ⟨e1, e2⟩ | ⟨g, cap, cur, e1, e2, e3, e4, e5, _⟩
  · exact ⟨none, 0, by rw [e1, e2], by omega, by unfold maxLen; omega, fun _ => ⟨List.eq_nil_of_length_eq_zero e2, rfl⟩, fun x hx => by cases hx⟩
  · refine ⟨some ⟨g, 0, none⟩, cap, e1, e4, e5, (fun hx => by cases hx), fun x hx => ?_⟩
    cases hx
    exact ⟨g, rfl, hlt g (by rw [e1]; rfl)⟩
theorem OwnS.cell {B : Nat} {w : World} {g n c : Nat} {l : List (Int × Int × Int)} (h : OwnS B w (.slice (some ⟨g, 0, none⟩) n c) l) (i : Nat) (d : Int × Int × Int) (hd : l[i]? = some d) : w.cell? ⟨g, i * 3, none⟩ = some (.int .i64 d.1) ∧ w.cell? ⟨g, i * 3 + 1, none⟩ = some (.int .u64 d.2.1) ∧ w.cell? ⟨g, i * 3 + 2, none⟩ = some (.int .u64 d.2.2) := by
  obtain ⟨t0, t1, t2⟩ := tcs_get l i d hd
  have h0 := World.ownsRow.cells h (g := g) rfl _ _ t0
  have h1 := World.ownsRow.cells h (g := g) rfl _ _ t1
  have h2 := World.ownsRow.cells h (g := g) rfl _ _ t2
  rw [Addr.add_lit, Nat.zero_add] at h0 h1 h2
  exact ⟨h0, h1, h2⟩
theorem info_stamp : (Try.prog.info? 70).map (fun i => (i.zero, i.size, i.bytes)) = some (some (.agg #[.int .i64 0, .int .u64 0, .int .u64 0]), 3, 24) := by kernel_rfl
theorem info_parts' {P : Program} {t : TypeId} {z : Option Value} {s b : Nat} (h : (P.info? t).map (fun i => (i.zero, i.size, i.bytes)) = some (z, s, b)) : ∃ i, P.info? t = some i ∧ i.zero = z ∧ i.size = s ∧ i.bytes = b := by
  cases h2 : P.info? t with
  | none => rw [h2] at h; cases h
  | some i =>
    rw [h2] at h
    simp at h
    exact ⟨i, rfl, h.1, h.2.1, h.2.2⟩
/-- 'append' of one stamp. -/
theorem run_stamp (w : World) (ty : TypeId) (B : Nat) (l : List (Int × Int × Int)) (v : Value) (hown : OwnS B w v l) (ad : Addr) (n h l' : Int) (hc : w.cell? ad = some (.int .i64 n)) (hc1 : w.cell? (ad.add 1) = some (.int .u64 h)) (hc2 : w.cell? (ad.add 2) = some (.int .u64 l')) (hB : B ≤ w.heap.size) (hb : (l.length + 1) * 24 ≤ 140737488355328) :
    ∃ v' w', (Builtin.append_ #[41, 41] ty #[v, .slice (some ad) 1 1]).run Try.prog w = .ok v' w' ∧ OwnS B w' v' (l ++ [(n, h, l')]) ∧ w.grownBy w' v.ownBlock ∧ (v'.ownBlock = v.ownBlock ∨ v'.ownBlock = some w.heap.size) := by
  obtain ⟨i0, hi, hz0, hz1, hz2⟩ := info_parts' info_stamp
  obtain ⟨v', w', hr, h2, h3, h4, h5⟩ := run_append_own_at (P := Try.prog) w B 41 ty 70 i0 (.agg #[.int .i64 0, .int .u64 0, .int .u64 0]) 3 24 Try.underlying41 hi hz0 hz1 hz2 rfl (by decide) v l.length (tcs l) hown ad 1 1 [.int .i64 n, .int .u64 h, .int .u64 l'] rfl (by
    intro j y hy
    match j, hy with
    | 0, hy => simp at hy; subst hy; obtain ⟨b, o, s⟩ := ad; exact hc
    | 1, hy => simp at hy; subst hy; exact hc1
    | 2, hy => simp at hy; subst hy; exact hc2
    | j + 3, hy => simp at hy) (by intro y hy; simp at hy; rcases hy with rfl | rfl | rfl <;> rfl) (by unfold maxLen; omega) hb hB
  refine ⟨v', w', hr, ?_, h3, h5⟩
  have : tcs (l ++ [(n, h, l')]) = tcs l ++ [.int .i64 n, .int .u64 h, .int .u64 l'] := by rw [tcs_append]; rfl
  unfold OwnS
  rw [this, List.length_append]
  exact h2

/-- A group over a clock, at block g: its sources at block sg, its clock, its stamps. -/
structure Gr (w : World) (g sg n cap c : Nat) (vd : Value) : Prop where
  lt : g < w.heap.size
  slt : sg < w.heap.size
  c0 : w.cell? ⟨g, 0, none⟩ = some (.slice (some ⟨sg, 0, none⟩) n cap)
  c1 : w.cell? ⟨g, 1, none⟩ = some vd
  c2 : w.cell? ⟨g, 2, none⟩ = some (.pointer (some ⟨c, 0, none⟩))
  f1 : w.frozen? ⟨g, 1, none⟩ = false
  hcap : n ≤ cap
theorem Gr.upd {S : Nat → Prop} {w w' : World} {g sg n cap c : Nat} {vd : Value} (h : Gr w g sg n cap c vd) (u : Upd S w w') (hs : ¬ S g) : Gr w' g sg n cap c vd :=
  ⟨Nat.lt_of_lt_of_le h.lt u.size, Nat.lt_of_lt_of_le h.slt u.size, (u.cell h.lt hs).trans h.c0, (u.cell h.lt hs).trans h.c1, (u.cell h.lt hs).trans h.c2, (u.frozen h.lt hs).trans h.f1, h.hcap⟩
theorem Gr.write {w : World} {g sg n cap c : Nat} {vd : Value} (h : Gr w g sg n cap c vd) (v' : Value) : Gr (w.setCell ⟨g, 1, none⟩ v') g sg n cap c v' := by
  obtain ⟨h1, h2, h3, h4, h5, h6, h7⟩ := h
  refine ⟨?_, ?_, ?_, ?_, ?_, ?_, h7⟩
  all_goals go_simp
/-- The source of a replica. -/
def At (w : World) (sg node p : Nat) : Prop := w.cell? ⟨sg, node, none⟩ = some (.iface 52 (.pointer (some ⟨p, 0, none⟩)))
theorem At.upd {S : Nat → Prop} {w w' : World} {sg node p : Nat} (h : At w sg node p) (u : Upd S w w') (hl : sg < w.heap.size) (hs : ¬ S sg) : At w' sg node p := (u.cell (p := ⟨sg, node, none⟩) hl hs).trans h

theorem Tri0 (w : World) (a b c : Value) (t : TypeId) : (w.alloc (.cells #[a, b, c] t)).cell? ⟨w.heap.size, 0, none⟩ = some a := by simp
theorem Tri1 (w : World) (a b c : Value) (t : TypeId) : (w.alloc (.cells #[a, b, c] t)).cell? ⟨w.heap.size, 1, none⟩ = some b := by simp
theorem Tri2 (w : World) (a b c : Value) (t : TypeId) : (w.alloc (.cells #[a, b, c] t)).cell? ⟨w.heap.size, 2, none⟩ = some c := by simp
theorem Upd.drew {S : Nat → Prop} {a w : World} (h : Upd S a w) : Upd S a w.drew := ⟨h.os, h.tape, h.output, h.size, h.block⟩
theorem stamp_bel {B N : Nat} {w w' : World} {C : Obj} {v : Value} (z : B ≤ w.heap.size) (hlo : ∀ k, v.ownBlock = some k → B ≤ k ∧ k < N) (hg : (w.drew.alloc C).grownBy w' v.ownBlock) : Below B w w' :=
  (((Below.refl B w).drew).alloc z C).grown hg (by simp; omega) (fun k hk => (hlo k hk).1)
theorem stamp_upd {w w' : World} {C : Obj} {v : Value} (hg : (w.drew.alloc C).grownBy w' v.ownBlock) : Upd (fun k => v.ownBlock = some k) w w' :=
  ⟨hg.os, hg.tape, hg.output, by have := hg.size; simp at this; omega, fun k hk hs => (hg.block k (by simp; omega) (fun e => hs e.symm)).trans (Below.heap_alloc _ _ _ hk)⟩
theorem upd_one (w : World) (b k : Nat) (u : Value) : Upd (· = b) w (w.setCell ⟨b, k, none⟩ u) := (Upd.refl (· = b) w).setCell (.inl rfl) u
theorem step_stamp {ops : Array Oper} {o : Oper} {a : Act} {w : World} {K : Act → World → Prop} {Q : Exit → Act → World → Prop} {E : Prop} (hg : o.guard = none) (s x : Operand)
    (ho : o.op = .call { callee := .builtin .append, args := #[s, x], argTypes := #[41, 41] }) (B : Nat) (l : List (Int × Int × Int)) (v : Value) (hs : a.eval s = v) (ad : Addr) (hx : a.eval x = .slice (some ad) 1 1) (n h l' : Int)
    (hc : w.cell? ad = some (.int .i64 n)) (hc1 : w.cell? (ad.add 1) = some (.int .u64 h)) (hc2 : w.cell? (ad.add 2) = some (.int .u64 l')) (hown : OwnS B w v l) (hB : B ≤ w.heap.size) (hb : (l.length + 1) * 24 ≤ 140737488355328)
    (hk : ∀ v' w', OwnS B w' v' (l ++ [(n, h, l')]) → w.grownBy w' v.ownBlock → (v'.ownBlock = v.ownBlock ∨ v'.ownBlock = some w.heap.size) → K (a.put o.dst v') w') :
    if Region.wanted o (yielded ops a.tmps) = true then Oper.wp Try.prog o a w K Q else E := by
  have hw : Region.wanted o (yielded ops a.tmps) = true := by simp [Region.wanted, hg]
  rw [if_pos hw]
  obtain ⟨v', w', hr, h2, h3, h4⟩ := run_stamp w o.type B l v hown ad n h l' hc hc1 hc2 hB hb
  unfold Oper.wp execOp
  simp only [ho, resolve, invoke, builtin, Sem.run_bind, Sem.run_pure, Result.andThen_ok, List.map_toArray, List.map_cons, List.map_nil, hs, hx, hr]
  exact hk v' w' h2 h3 h4
theorem method_draw (p : Nat) (k : Nat) (w : World) : (method (k + 1) 52 (.pointer (some ⟨p, 0, none⟩)) "Draw").run Try.prog w = .ok (14, .pointer (some ⟨p, 0, none⟩)) w := by kernel_rfl

set_option maxRecDepth 100000 in
set_option maxHeartbeats 800000 in
theorem gdraw_ok (B g sg n cap node p c : Nat) (R rd md : Int) (vd : Value) (L : List (Int × Int × Int)) (w : World) (G : Gr w g sg n cap c vd) (hn : node < n) (hn7 : n ≤ 7) (A : At w sg node p) (P : Prs w p c rd md) (C : Clk w c R) (ho : OwnS B w vd L) (hk : made R rd md ≠ 65535) (hb : (L.length + 1) * 24 ≤ 140737488355328) (hgp : g ≠ p) (hsp : sg ≠ p) (gB : g < B) (sB : sg < B) (pB : p < B) (cB : c < B) (hB : B ≤ w.heap.size) :
    Calls Try.prog 21 #[.pointer (some ⟨g, 0, none⟩), .int .i64 node] w fun e w' => e = .returned (.tuple #[.agg #[.int .u64 R, .int .u64 (made R rd md + 1)], .int .i64 0]) ∧ Prs w' p c R (made R rd md + 1) ∧ ∃ vd', Gr w' g sg n cap c vd' ∧ OwnS B w' vd' (L ++ [((node : Int), R, made R rd md + 1)]) ∧ (vd'.ownBlock = vd.ownBlock ∨ ∃ k, vd'.ownBlock = some k ∧ w.heap.size ≤ k) ∧ Upd (fun k => k = p ∨ k = g ∨ vd.ownBlock = some k) w w' ∧ ∀ j u, 2 ≤ j → w.cell? ⟨g, j, none⟩ = some u → w'.cell? ⟨g, j, none⟩ = some u := by
  have U0 : ∀ o, Upd (fun _ => False) w (w.alloc o) := fun o => (Upd.refl _ w).alloc o
  have a0 := fun o => (G.upd (U0 o) id).c0
  have a1 := fun o => A.upd (U0 o) G.slt id
  unfold At at a1
  have hc := G.hcap
  have hm := fun k w => method_draw p k w
  go_enter Try.func21, Try.ntmps21
  go_wp2_with (go_at_call 29; go_in)
  refine (draw_ok p c R rd md _ (P.upd (U0 _) id) (C.upd (U0 _) id) hk).mono ?_
  rintro e w1 ⟨rfl, P1, u1⟩
  have lg := G.lt
  have ls := G.slt
  have lp := P.lt
  have G1 := (G.upd (U0 _) id).upd u1 hgp
  have r0 := (Dr.new w 0 0 58).upd u1 (by show ¬ w.heap.size = p; omega)
  have rf0 : w1.frozen? ⟨w.heap.size, 0, none⟩ = false := (u1.frozen (p := ⟨w.heap.size, 0, none⟩) (by simp) (by show ¬ w.heap.size = p; omega)).trans (by simp)
  have rf1 : w1.frozen? ⟨w.heap.size, 1, none⟩ = false := (u1.frozen (p := ⟨w.heap.size, 1, none⟩) (by simp) (by show ¬ w.heap.size = p; omega)).trans (by simp)
  have u01 : Upd (· = p) w w1 := ((Upd.refl (· = p) w).alloc _).trans u1
  have o1 := (ho.alloc (.cells #[.int .u64 0, .int .u64 0] 58)).upd u1 (fun k hk => by show ¬ k = p; have := (ho.lt k hk).1; omega)
  have l1 : w.heap.size < w1.heap.size := by have := u1.size; simp at this; omega
  have hlo := ho.lt
  clear U0 a0 a1 hm ho G A u1
  generalize hM : made R rd md + 1 = M at *
  have HM := hide hM
  clear hM
  go_wp2
  have U2 := (Upd.refl (fun _ => False) w1).alloc (.cells #[.int .u64 R, .int .u64 M] 58)
  have G2 := G1.upd U2 id
  have P2 := P1.upd U2 id
  have D2 := Dr.new w1 R M 58
  have r2 := r0.upd U2 id
  have q0 : (w1.alloc (.cells #[.int .u64 R, .int .u64 M] 58)).frozen? ⟨w.heap.size, 0, none⟩ = false := (U2.frozen (p := ⟨w.heap.size, 0, none⟩) l1 id).trans rf0
  have q1 : (w1.alloc (.cells #[.int .u64 R, .int .u64 M] 58)).frozen? ⟨w.heap.size, 1, none⟩ = false := (U2.frozen (p := ⟨w.heap.size, 1, none⟩) l1 id).trans rf1
  have o2 := o1.alloc (.cells #[.int .u64 R, .int .u64 M] 58)
  have u02 : Upd (· = p) w (w1.alloc (.cells #[.int .u64 R, .int .u64 M] 58)) := u01.alloc _
  have z2 := hide <| show B ≤ (w1.alloc (.cells #[.int .u64 R, .int .u64 M] 58)).heap.size from by simp; omega
  have l2 : w.heap.size < (w1.alloc (.cells #[.int .u64 R, .int .u64 M] 58)).heap.size := by simp; omega
  clear U2 G1 P1 r0 rf0 rf1 o1 u01
  generalize w1.alloc (.cells #[.int .u64 R, .int .u64 M] 58) = w2 at *
  obtain ⟨ld, d0, d1⟩ := D2
  obtain ⟨_, e0, e1⟩ := r2
  have gc1 := G2.c1
  have gf1 := G2.f1
  have gc2 : ∀ o, (w2.alloc o).cell? ⟨g, 1, none⟩ = some vd := fun o => (World.cell?_alloc_past _ _ _ G2.lt).trans gc1
  have ng : ¬ g = w2.heap.size := by have := G2.lt; omega
  have o3 := o2.upd (S := fun _ => False) (Upd.refl _ w2).drew (fun _ _ => id)
  go_region_law (refine step_stamp rfl (.tmp 35) (.tmp 39) rfl B L vd rfl ⟨w2.heap.size, 0, none⟩ rfl node R M (Tri0 w2.drew _ _ _ _) (Tri1 w2.drew _ _ _ _) (Tri2 w2.drew _ _ _ _) (o3.alloc _) (by have := z2.out; simp; omega) hb ?_; intro v3 w3 o4 g4 s4; have b3 := stamp_bel z2.out hlo g4; have u3 := stamp_upd g4; obtain ⟨va, vc, hv3, hvc1, hvc2, _, _⟩ := o4.form; subst hv3; have k1 := (b3.cell (p := ⟨g, 1, none⟩) gB).trans gc1; have k2 := (b3.frozen (p := ⟨g, 1, none⟩) gB).trans gf1)
  all_goals
    have nq' : ¬ vd.ownBlock = some w1.heap.size := fun e => by have := (hlo _ e).2; omega
    have nr' : ¬ vd.ownBlock = some w.heap.size := fun e => by have := (hlo _ e).2; omega
    have x0 := (u3.cell (p := ⟨w1.heap.size, 0, none⟩) ld nq').trans d0
    have x1 := (u3.cell (p := ⟨w1.heap.size, 1, none⟩) ld nq').trans d1
    have y0 := (u3.cell (p := ⟨w.heap.size, 0, none⟩) l2 nr').trans e0
    have y1 := (u3.cell (p := ⟨w.heap.size, 1, none⟩) l2 nr').trans e1
    have z0 := (u3.frozen (p := ⟨w.heap.size, 0, none⟩) l2 nr').trans q0
    have z1 := (u3.frozen (p := ⟨w.heap.size, 1, none⟩) l2 nr').trans q1
    have ga : ¬ w1.heap.size = g := by omega
    have gb : ¬ w.heap.size = g := by omega
    have gb' : ¬ g = w.heap.size := by omega
    go_wp2
    have o5 : OwnS B w3 (.slice va (L.length + 1) vc) (L ++ [((node : Int), R, M)]) := by
      have := o4
      simp only [List.length_append, List.length_cons, List.length_nil, Nat.zero_add] at this
      exact this
    have hs5 : (Value.slice va (L.length + 1) vc).ownBlock = vd.ownBlock ∨ (Value.slice va (L.length + 1) vc).ownBlock = some (w2.heap.size + 1) := by
      have := s4
      simp only [List.length_append, List.length_cons, List.length_nil, Nat.zero_add] at this
      rcases this with h | h
      · exact .inl h
      · exact .inr (by rw [h]; simp)
    have hne : ∀ k, (Value.slice va (L.length + 1) vc).ownBlock = some k → k ≠ w.heap.size := by
      intro k hk e
      rcases hs5 with h | h
      · have := (hlo k (by rw [← h]; exact hk)).2; omega
      · rw [h] at hk; cases hk; omega
    refine bodyPost_ret (v := .tuple #[.agg #[.int .u64 R, .int .u64 M], .int .i64 0]) (by simp [results, Try.results21, go_sem, y0, y1]) rfl ⟨by rw [HM.out], ?_, ?_⟩
    · rw [HM.out]
      refine Prs.past (Prs.past (Prs.past (P2.upd u3 (fun e => ?_)) hgp.symm _) ?_ _) ?_ _
      · have := (hlo p e).1; omega
      · have := P2.lt; omega
      · have := P2.lt; omega
    · refine ⟨.slice va (L.length + 1) vc, ?_, ?_, ?_, ?_, fun j u hj hu => ?_⟩
      · refine Gr.upd (S := (· = w.heap.size)) (Gr.upd (S := (· = w.heap.size)) (Gr.write (G2.upd u3 (fun e => ?_)) _) (upd_one _ _ _ _) gb') (upd_one _ _ _ _) gb'
        have := (hlo g e).1; omega
      · rw [HM.out]
        refine OwnS.upd (S := (· = w.heap.size)) (OwnS.upd (S := (· = w.heap.size)) (OwnS.upd (S := (· = g)) o5 (upd_one _ _ _ _) ?_) (upd_one _ _ _ _) hne) (upd_one _ _ _ _) hne
        intro k hk e
        have := (o5.lt k hk).1; omega
      · rcases hs5 with h | h
        · exact .inl h
        · exact .inr ⟨_, h, by omega⟩
      · refine Upd.setCell (Upd.setCell (Upd.setCell (p := ⟨g, 1, none⟩) ((u02.mono (fun k _ h => .inl h)).trans (u3.mono (fun k _ h => .inr (.inr h)))) (.inl (.inr (.inl rfl))) _) (.inr (Nat.le_refl _)) _) (.inr (Nat.le_refl _)) _
      · have hg3 : g < w3.heap.size := Nat.lt_of_lt_of_le G2.lt u3.size
        have h2 := (u02.cell (p := ⟨g, j, none⟩) lg (fun e => hgp e)).trans hu
        have h3 := (u3.cell (p := ⟨g, j, none⟩) G2.lt (fun e => by have := (hlo g e).1; omega)).trans h2
        have h4 : (w3.setCell ⟨g, 1, none⟩ (.slice va (L.length + 1) vc)).cell? ⟨g, j, none⟩ = some u := by
          have hn : (1 : Nat) ≠ j := by omega
          go_simp
        have h5 := ((upd_one (w3.setCell ⟨g, 1, none⟩ (.slice va (L.length + 1) vc)) w.heap.size 0 (.int .u64 R)).cell (p := ⟨g, j, none⟩) (by simpa [World.setCell] using hg3) gb').trans h4
        exact ((upd_one _ w.heap.size 1 (.int .u64 M)).cell (p := ⟨g, j, none⟩) (by simpa [World.setCell] using hg3) gb').trans h5

set_option maxRecDepth 100000 in
set_option maxHeartbeats 400000 in
theorem gdraw_end (g sg n cap node p c : Nat) (R rd md : Int) (vd : Value) (w : World) (G : Gr w g sg n cap c vd) (hn : node < n) (hn7 : n ≤ 7) (A : At w sg node p) (P : Prs w p c rd md) (C : Clk w c R) (hk : made R rd md = 65535) :
    Calls Try.prog 21 #[.pointer (some ⟨g, 0, none⟩), .int .i64 node] w fun e w' => e = .returned (.tuple #[.agg #[.int .u64 0, .int .u64 0], .int .i64 20]) ∧ Below w.heap.size w w' := by
  have U0 : ∀ o, Upd (fun _ => False) w (w.alloc o) := fun o => (Upd.refl _ w).alloc o
  have a0 := fun o => (G.upd (U0 o) id).c0
  have a1 := fun o => A.upd (U0 o) G.slt id
  unfold At at a1
  have hc := G.hcap
  have hm := fun k w => method_draw p k w
  go_enter Try.func21, Try.ntmps21
  go_wp2_with (go_at_call 29; go_in)
  refine (draw_end p c R rd md _ (P.upd (U0 _) id) (C.upd (U0 _) id) hk).mono ?_
  rintro e w1 ⟨rfl, b1⟩
  have bw : Below w.heap.size w w1 := ((Below.refl _ _).alloc (Nat.le_refl _) _).trans (b1.mono (by simp))
  have l1 : w.heap.size < w1.heap.size := by have := b1.size; simp at this; omega
  have y0 : w1.cell? ⟨w.heap.size, 0, none⟩ = some (.int .u64 0) := (b1.cell (p := ⟨w.heap.size, 0, none⟩) (by simp)).trans (by simp)
  have y1 : w1.cell? ⟨w.heap.size, 1, none⟩ = some (.int .u64 0) := (b1.cell (p := ⟨w.heap.size, 1, none⟩) (by simp)).trans (by simp)
  have z0 : w1.frozen? ⟨w.heap.size, 0, none⟩ = false := (b1.frozen (p := ⟨w.heap.size, 0, none⟩) (by simp)).trans (by simp)
  have z1 : w1.frozen? ⟨w.heap.size, 1, none⟩ = false := (b1.frozen (p := ⟨w.heap.size, 1, none⟩) (by simp)).trans (by simp)
  have y0' : ∀ o, (w1.alloc o).cell? ⟨w.heap.size, 0, none⟩ = some (.int .u64 0) := fun o => (World.cell?_alloc_past _ _ _ l1).trans y0
  have y1' : ∀ o, (w1.alloc o).cell? ⟨w.heap.size, 1, none⟩ = some (.int .u64 0) := fun o => (World.cell?_alloc_past _ _ _ l1).trans y1
  have z0' : ∀ o, (w1.alloc o).frozen? ⟨w.heap.size, 0, none⟩ = false := fun o => (((Upd.refl (fun _ => False) w1).alloc o).frozen (p := ⟨w.heap.size, 0, none⟩) l1 id).trans z0
  have z1' : ∀ o, (w1.alloc o).frozen? ⟨w.heap.size, 1, none⟩ = false := fun o => (((Upd.refl (fun _ => False) w1).alloc o).frozen (p := ⟨w.heap.size, 1, none⟩) l1 id).trans z1
  clear U0 a0 a1 hm G A b1
  go_wp2
  have t0 : ∀ o, (((w1.setCell ⟨w.heap.size, 0, none⟩ (.int .u64 0)).setCell ⟨w.heap.size, 1, none⟩ (.int .u64 0)).alloc o).cell? ⟨w.heap.size, 0, none⟩ = some (.int .u64 0) := fun o => (((Upd.refl (fun _ => False) _).alloc o).cell (p := ⟨w.heap.size, 0, none⟩) (by simpa [World.setCell] using l1) id).trans (by go_simp)
  have t1 : ∀ o, (((w1.setCell ⟨w.heap.size, 0, none⟩ (.int .u64 0)).setCell ⟨w.heap.size, 1, none⟩ (.int .u64 0)).alloc o).cell? ⟨w.heap.size, 1, none⟩ = some (.int .u64 0) := fun o => (((Upd.refl (fun _ => False) _).alloc o).cell (p := ⟨w.heap.size, 1, none⟩) (by simpa [World.setCell] using l1) id).trans (by go_simp)
  refine bodyPost_ret (v := .tuple #[.agg #[.int .u64 0, .int .u64 0], .int .i64 20]) (by simp [results, Try.results21, go_sem, t0, t1]) rfl ⟨rfl, ?_⟩
  have b2 := (bw.setCell (p := ⟨w.heap.size, 0, none⟩) (Nat.le_refl _) (.int .u64 0)).setCell (p := ⟨w.heap.size, 1, none⟩) (Nat.le_refl _) (.int .u64 0)
  exact b2.alloc b2.size _

end Go.Proofs.Ytilngncjbikkgaa
