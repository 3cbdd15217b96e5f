import Derived.Test.YtilngncjbikkgaaGp
import Derived.Test.YtilngncjbikkgaaNx
import Derived.Lib.AppendStr
import Derived.Deep.RegionLaw
namespace Go.Proofs.Ytilngncjbikkgaa
open Go.RowKit
set_option linter.unusedVariables false
set_option linter.unusedSimpArgs false

theorem info_src : (Try.prog.info? 85).map (fun i => (i.zero, i.size, i.bytes)) = some (some .nilIface, 1, 16) := by kernel_rfl
/-- The sources of a group over a clock, as values. -/
def ifs (T : TypeId) (p : Nat → Nat) (n : Nat) : List Value := (List.range n).map fun i => .iface T (.pointer (some ⟨p i, 0, none⟩))
theorem ifs_len (T : TypeId) (p : Nat → Nat) (n : Nat) : (ifs T p n).length = n := by simp [ifs]
theorem ifs_next (T : TypeId) (p : Nat → Nat) (n : Nat) : ifs T p n ++ [.iface T (.pointer (some ⟨p n, 0, none⟩))] = ifs T p (n + 1) := by simp [ifs, List.range_succ]
theorem ifs_at (T : TypeId) (p : Nat → Nat) (n i : Nat) (h : i < n) : (ifs T p n)[i]? = some (.iface T (.pointer (some ⟨p i, 0, none⟩))) := by simp [ifs, h]
theorem ifs_same (T : TypeId) (p q : Nat → Nat) (n : Nat) (h : ∀ i, i < n → q i = p i) : ifs T q n = ifs T p n := by
  unfold ifs
  apply List.map_congr_left
  intro i hi
  rw [h i (List.mem_range.1 hi)]
/-- A slice of sources of the call's own. -/
def OwnI (B : Nat) (w : World) (v : Value) (xs : List Value) : Prop := w.ownsRow B 85 1 v xs.length xs
theorem OwnI.upd {B : Nat} {S : Nat → Prop} {w w' : World} {v : Value} {l : List Value} (h : OwnI B w v l) (u : Upd S w w') (hs : ∀ k, v.ownBlock = some k → ¬ S k) : OwnI B w' v l := by
  have hlt := World.ownsRow.lt h
  obtain ⟨h1, h2⟩ := h
  refine ⟨h1, ?_⟩
  rcases h2 with h2 | ⟨g, cap, cur, e1, e2, e3, r⟩
  · exact .inl h2
  · refine .inr ⟨g, cap, cur, e1, e2, ?_, r⟩
    rw [u.block g (hlt g (by rw [e1]; rfl)).2 (hs g (by rw [e1]; rfl))]
    exact e3
/-- 'append' of one source. -/
theorem run_srcs (w : World) (ty : TypeId) (B : Nat) (l : List Value) (v : Value) (hown : OwnI B w v l) (ad : Addr) (u : Value) (hu : u.oneCell' = true) (hc : w.cell? ad = some u) (hB : B ≤ w.heap.size) (hl : l.length ≤ 7) :
    ∃ v' w', (Builtin.append_ #[71, 71] ty #[v, .slice (some ad) 1 1]).run Try.prog w = .ok v' w' ∧ OwnI B w' v' (l ++ [u]) ∧ w.grownBy w' v.ownBlock ∧ (v'.ownBlock = v.ownBlock ∨ v'.ownBlock = some w.heap.size) := by
  obtain ⟨i0, hi, hz0, hz1, hz2⟩ := info_parts' info_src
  obtain ⟨v', w', hr, h2, h3, h4, h5⟩ := run_append_own_at (P := Try.prog) w B 71 ty 85 i0 .nilIface 1 16 Try.underlying71 hi hz0 hz1 hz2 rfl (by decide) v l.length l hown ad 1 1 [u] rfl (by
    intro j y hy
    match j, hy with
    | 0, hy => simp at hy; subst hy; obtain ⟨b, o, s⟩ := ad; exact hc
    | j + 1, hy => simp at hy) (by intro y hy; simp at hy; rw [hy]; exact hu) (by unfold maxLen; omega) (by omega) hB
  refine ⟨v', w', hr, ?_, h3, h5⟩
  unfold OwnI
  rw [List.length_append]
  exact h2
theorem step_srcs {ops : Array Oper} {o : Oper} {a : Act} {w : World} {K : Act → World → Prop} {Q : Exit → Act → World → Prop} {E : Prop} (hg : o.guard = none) (s x : Operand)
    (ho : o.op = .call { callee := .builtin .append, args := #[s, x], argTypes := #[71, 71] }) (B : Nat) (l : List Value) (v : Value) (hs : a.eval s = v) (ad : Addr) (hx : a.eval x = .slice (some ad) 1 1) (u : Value) (hu : u.oneCell' = true) (hc : w.cell? ad = some u) (hown : OwnI B w v l) (hB : B ≤ w.heap.size) (hl : l.length ≤ 7)
    (h : ∀ sg cap w', OwnI B w' (.slice (some ⟨sg, 0, none⟩) (l.length + 1) cap) (l ++ [u]) → w.grownBy w' v.ownBlock → (some sg = v.ownBlock ∨ sg = w.heap.size) → l.length + 1 ≤ cap → K (a.put o.dst (.slice (some ⟨sg, 0, none⟩) (l.length + 1) cap)) w') :
    if Region.wanted o (yielded ops a.tmps) = true then Oper.wp Try.prog o a w K Q else E := by
  have hw : Region.wanted o (yielded ops a.tmps) = true := by simp [Region.wanted, hg]
  rw [if_pos hw]
  obtain ⟨v', w', hr, h2, h3, h4⟩ := run_srcs w o.type B l v hown ad u hu hc hB hl
  unfold Oper.wp execOp
  simp only [ho, resolve, invoke, builtin, Sem.run_bind, Sem.run_pure, Result.andThen_ok, List.map_toArray, List.map_cons, List.map_nil, hs, hx, hr]
  have h5 : (l ++ [u]).length = l.length + 1 := by simp
  rcases h2.2 with ⟨_, e⟩ | ⟨g, cap, cur, e1, r1, r2, r3, r4⟩
  · rw [h5] at e; omega
  · rw [h5] at e1 r3
    subst e1
    refine h g cap w' h2 h3 ?_ r3
    rcases h4 with h4 | h4
    · exact .inl h4
    · exact .inr (Option.some.inj h4)
/-- A group over a clock in the making: i of its replicas are there. -/
structure GK (w : World) (B g c i : Nat) (p : Nat → Nat) (vs : Value) (R : Int) : Prop where
  lt : g < w.heap.size
  c0 : w.cell? ⟨g, 0, none⟩ = some vs
  c1 : w.cell? ⟨g, 1, none⟩ = some (.slice none 0 0)
  c2 : w.cell? ⟨g, 2, none⟩ = some (.pointer (some ⟨c, 0, none⟩))
  f0 : w.frozen? ⟨g, 0, none⟩ = false
  f1 : w.frozen? ⟨g, 1, none⟩ = false
  pp : ∀ j, j < i → w.cell? ⟨g, 3 + j, none⟩ = some (.pointer (some ⟨p j, 0, none⟩))
  pz : ∀ j, i ≤ j → j < 7 → w.cell? ⟨g, 3 + j, none⟩ = some (.pointer none) ∧ w.frozen? ⟨g, 3 + j, none⟩ = false
  own : OwnI B w vs (ifs 52 p i)
  P : ∀ j, j < i → Prs w (p j) c 0 0
  C : Clk w c R
  inj : ∀ j k, j < i → k < i → p j = p k → j = k
  lo : ∀ j, j < i → B ≤ p j ∧ p j < w.heap.size
  ps : ∀ j k, j < i → vs.ownBlock = some k → k ≠ p j
  gB : g < B
  cB : c < B
  gc : c ≠ g
  hB : B ≤ w.heap.size
theorem sc_ne {w : World} {b i j : Nat} {u x : Value} (h : w.cell? ⟨b, i, none⟩ = some x) (hne : i ≠ j) : (w.setCell ⟨b, j, none⟩ u).cell? ⟨b, i, none⟩ = some x := by
  have hn : j ≠ i := fun e => hne e.symm
  go_simp
theorem sc_eq {w : World} {b i : Nat} {u x : Value} (h : w.cell? ⟨b, i, none⟩ = some x) : (w.setCell ⟨b, i, none⟩ u).cell? ⟨b, i, none⟩ = some u := by
  go_simp
theorem sc_fr {w : World} {b i j : Nat} {u : Value} (h : w.frozen? ⟨b, i, none⟩ = false) : (w.setCell ⟨b, j, none⟩ u).frozen? ⟨b, i, none⟩ = false := by go_simp
/-- A group in the making, one replica's Pairs made and laid into the array. -/
structure GS (wr w4 : World) (B g c i : Nat) (p : Nat → Nat) (vs : Value) (R : Int) : Prop where
  u : Upd (· = g) wr w4
  c0 : w4.cell? ⟨g, 0, none⟩ = some vs
  c1 : w4.cell? ⟨g, 1, none⟩ = some (.slice none 0 0)
  c2 : w4.cell? ⟨g, 2, none⟩ = some (.pointer (some ⟨c, 0, none⟩))
  f0 : w4.frozen? ⟨g, 0, none⟩ = false
  f1 : w4.frozen? ⟨g, 1, none⟩ = false
  pp : ∀ j, j < i → w4.cell? ⟨g, 3 + j, none⟩ = some (.pointer (some ⟨p j, 0, none⟩))
  ci : w4.cell? ⟨g, 3 + i, none⟩ = some (.pointer (some ⟨wr.heap.size, 0, none⟩))
  pz : ∀ j, i + 1 ≤ j → j < 7 → w4.cell? ⟨g, 3 + j, none⟩ = some (.pointer none) ∧ w4.frozen? ⟨g, 3 + j, none⟩ = false
  own : OwnI B w4 vs (ifs 52 p i)
  P : ∀ j, j < i → Prs w4 (p j) c 0 0
  Pi : Prs w4 wr.heap.size c 0 0
  C : Clk w4 c R
  lt : wr.heap.size < w4.heap.size
theorem gk_step (wr : World) (B g c i : Nat) (p : Nat → Nat) (vs : Value) (R : Int) (T : TypeId) (h : GK wr B g c i p vs R) (i7 : i < 7) : GS wr ((wr.setCell ⟨g, 3 + i, none⟩ (.pointer (some ⟨wr.heap.size, 0, none⟩))).alloc (.cells #[.pointer (some ⟨c, 0, none⟩), .int .u64 0, .int .u64 0] T)).drew B g c i p vs R := by
  obtain ⟨X, hX⟩ : ∃ X, wr.setCell ⟨g, 3 + i, none⟩ (.pointer (some ⟨wr.heap.size, 0, none⟩)) = X := ⟨_, rfl⟩
  have uX : Upd (· = g) wr X := by rw [← hX]; exact upd_one _ _ _ _
  have zX : X.heap.size = wr.heap.size := by rw [← hX]; simp [World.setCell]
  have x0 : X.cell? ⟨g, 0, none⟩ = some vs := by rw [← hX]; exact sc_ne h.c0 (by omega)
  have x1 : X.cell? ⟨g, 1, none⟩ = some (.slice none 0 0) := by rw [← hX]; exact sc_ne h.c1 (by omega)
  have x2 : X.cell? ⟨g, 2, none⟩ = some (.pointer (some ⟨c, 0, none⟩)) := by rw [← hX]; exact sc_ne h.c2 (by omega)
  have y0 : X.frozen? ⟨g, 0, none⟩ = false := by rw [← hX]; exact sc_fr h.f0
  have y1 : X.frozen? ⟨g, 1, none⟩ = false := by rw [← hX]; exact sc_fr h.f1
  have xp : ∀ j, j < i → X.cell? ⟨g, 3 + j, none⟩ = some (.pointer (some ⟨p j, 0, none⟩)) := fun j hj => by rw [← hX]; exact sc_ne (h.pp j hj) (by omega)
  have xi : X.cell? ⟨g, 3 + i, none⟩ = some (.pointer (some ⟨wr.heap.size, 0, none⟩)) := by rw [← hX]; exact sc_eq (h.pz i (Nat.le_refl _) i7).1
  have xz : ∀ j, i + 1 ≤ j → j < 7 → X.cell? ⟨g, 3 + j, none⟩ = some (.pointer none) ∧ X.frozen? ⟨g, 3 + j, none⟩ = false := fun j h1 h2 => by rw [← hX]; exact ⟨sc_ne (h.pz j (by omega) h2).1 (by omega), sc_fr (h.pz j (by omega) h2).2⟩
  rw [hX]
  clear hX
  have lg : g < X.heap.size := by rw [zX]; exact h.lt
  have cX := h.C.upd uX h.gc
  have P3 := Prs.new c X cX.lt
  rw [zX] at P3
  have U4 : ∀ o, Upd (fun _ => False) X (X.alloc o).drew := fun o => ((Upd.refl _ X).alloc o).drew
  have PX : ∀ j, j < i → Prs X (p j) c 0 0 := fun j hj => (h.P j hj).upd uX (by have := (h.lo j hj).1; have := h.gB; show ¬ p j = g; omega)
  refine ⟨(uX.alloc _).drew, ((U4 _).cell (p := ⟨g, 0, none⟩) lg id).trans x0, ((U4 _).cell (p := ⟨g, 1, none⟩) lg id).trans x1, ((U4 _).cell (p := ⟨g, 2, none⟩) lg id).trans x2, ((U4 _).frozen (p := ⟨g, 0, none⟩) lg id).trans y0, ((U4 _).frozen (p := ⟨g, 1, none⟩) lg id).trans y1, fun j hj => ((U4 _).cell (p := ⟨g, 3 + j, none⟩) lg id).trans (xp j hj), ((U4 _).cell (p := ⟨g, 3 + i, none⟩) lg id).trans xi, fun j h1 h2 => ⟨((U4 _).cell (p := ⟨g, 3 + j, none⟩) lg id).trans (xz j h1 h2).1, ((U4 _).frozen (p := ⟨g, 3 + j, none⟩) lg id).trans (xz j h1 h2).2⟩, ?_, fun j hj => (PX j hj).upd (U4 _) id, ?_, cX.upd (U4 _) id, by simp [zX]⟩
  · exact (h.own.upd uX (fun k hk => by have := (World.ownsRow.lt h.own k hk).1; have := h.gB; show ¬ k = g; omega)).upd (U4 _) (fun _ _ => id)
  · have e : T = 78 ∨ T ≠ 78 := Decidable.em _
    exact (Prs.mk (by simp [zX]) (by simp [← zX]) (by simp [← zX]) (by simp [← zX]) (by simp [← zX]) (by simp [← zX]) (by have := cX.lt; omega) (by omega) (by omega) : Prs (X.alloc (.cells #[.pointer (some ⟨c, 0, none⟩), .int .u64 0, .int .u64 0] T)) wr.heap.size c 0 0).upd (S := fun _ => False) (Upd.refl _ _).drew id
theorem gk_next {wr w4 w5 : World} {B g c i : Nat} {p : Nat → Nat} {vs : Value} {R : Int} (h : GK wr B g c i p vs R) (a : GS wr w4 B g c i p vs R) (sg cap : Nat) (q1 : OwnI B w5 (.slice (some ⟨sg, 0, none⟩) ((ifs 52 p i).length + 1) cap) (ifs 52 p i ++ [.iface 52 (.pointer (some ⟨wr.heap.size, 0, none⟩))])) (u5 : Upd (fun k => vs.ownBlock = some k) w4 w5) (q3 : some sg = vs.ownBlock ∨ w4.heap.size ≤ sg) :
    GK (w5.setCell ⟨g, 0, none⟩ (.slice (some ⟨sg, 0, none⟩) ((ifs 52 p i).length + 1) cap)) B g c (i + 1) (fun j => if j = i then wr.heap.size else p j) (.slice (some ⟨sg, 0, none⟩) ((ifs 52 p i).length + 1) cap) R := by
  have ow := World.ownsRow.lt h.own
  have lt := h.lt
  have hB := h.hB
  have gB := h.gB
  have l4 := a.lt
  have z5 := u5.size
  have ng : ∀ k, vs.ownBlock = some k → k ≠ g := fun k hk => by have := (ow k hk).1; omega
  have ngc : ∀ k, vs.ownBlock = some k → k ≠ c := fun k hk => by have := (ow k hk).1; have := h.cB; omega
  have u7 : Upd (· = g) w5 (w5.setCell ⟨g, 0, none⟩ (.slice (some ⟨sg, 0, none⟩) ((ifs 52 p i).length + 1) cap)) := upd_one _ _ _ _
  have z7 : (w5.setCell ⟨g, 0, none⟩ (.slice (some ⟨sg, 0, none⟩) ((ifs 52 p i).length + 1) cap)).heap.size = w5.heap.size := by simp [World.setCell]
  have lg4 : g < w4.heap.size := by omega
  have c5 : ∀ j u, w4.cell? ⟨g, j, none⟩ = some u → w5.cell? ⟨g, j, none⟩ = some u := fun j u hu => (u5.cell (p := ⟨g, j, none⟩) lg4 (fun e => ng g e rfl)).trans hu
  have f5 : ∀ j, w4.frozen? ⟨g, j, none⟩ = false → w5.frozen? ⟨g, j, none⟩ = false := fun j hu => (u5.frozen (p := ⟨g, j, none⟩) lg4 (fun e => ng g e rfl)).trans hu
  have sgB := (World.ownsRow.lt q1 sg rfl)
  refine ⟨by rw [z7]; omega, sc_eq (c5 0 _ a.c0), sc_ne (c5 1 _ a.c1) (by omega), sc_ne (c5 2 _ a.c2) (by omega), sc_fr (f5 0 a.f0), sc_fr (f5 1 a.f1), fun j hj => ?_, fun j h1 h2 => ⟨sc_ne (c5 _ _ (a.pz j h1 h2).1) (by omega), sc_fr (f5 _ (a.pz j h1 h2).2)⟩, ?_, fun j hj => ?_, (a.C.upd u5 (fun e => ngc c e rfl)).upd u7 h.gc, fun j k hj hk e => ?_, fun j hj => ?_, fun j k hj hk => ?_, gB, h.cB, h.gc, by rw [z7]; omega⟩
  · by_cases e : j = i
    · subst e; rw [if_pos rfl]; exact sc_ne (c5 _ _ a.ci) (by omega)
    · rw [if_neg e]; exact sc_ne (c5 _ _ (a.pp j (by omega))) (by omega)
  · have e : ifs 52 (fun j => if j = i then wr.heap.size else p j) (i + 1) = ifs 52 p i ++ [.iface 52 (.pointer (some ⟨wr.heap.size, 0, none⟩))] := by
      rw [← ifs_next, ifs_same 52 p _ i (fun j hj => if_neg (by omega)), if_pos rfl]
    rw [e]
    exact q1.upd u7 (fun k hk => by cases hk; show ¬ sg = g; omega)
  · by_cases e : j = i
    · subst e; rw [if_pos rfl]
      exact (a.Pi.upd u5 (fun e => by have := (ow _ e).2; omega)).upd u7 (by show ¬ wr.heap.size = g; omega)
    · rw [if_neg e]
      have := h.lo j (by omega)
      exact ((a.P j (by omega)).upd u5 (fun e2 => h.ps j _ (by omega) e2 rfl)).upd u7 (by show ¬ p j = g; omega)
  · by_cases e1 : j = i <;> by_cases e2 : k = i
    · omega
    · rw [if_pos e1, if_neg e2] at e; have := h.lo k (by omega); omega
    · rw [if_neg e1, if_pos e2] at e; have := h.lo j (by omega); omega
    · rw [if_neg e1, if_neg e2] at e; exact h.inj j k (by omega) (by omega) e
  · by_cases e : j = i
    · rw [if_pos e, z7]; omega
    · rw [if_neg e, z7]; have := h.lo j (by omega); omega
  · have hk : sg = k := by cases hk; rfl
    subst hk
    by_cases e : j = i
    · rw [if_pos e]
      rcases q3 with q3 | q3
      · have := (ow sg q3.symm).2; omega
      · omega
    · rw [if_neg e]
      have := h.lo j (by omega)
      rcases q3 with q3 | q3
      · exact h.ps j sg (by omega) q3.symm
      · omega
set_option maxRecDepth 100000 in
set_option maxHeartbeats 1000000 in
theorem clockgroup_any (n : Nat) (R : Int) (w : World) (hn : n ≤ 7) (h0 : 0 ≤ R) (h1 : R ≤ 18446744073709551615) :
    Calls Try.prog 8 #[.int .i64 (n : Int), .int .u64 R] w fun e w' => ∃ g c B p vs, e = .returned (.pointer (some ⟨g, 0, none⟩)) ∧ GK w' B g c n p vs R ∧ Below w.heap.size w w' ∧ w.heap.size ≤ g ∧ w.heap.size ≤ c := by
  go_enter Try.func8, Try.ntmps8
  go_wp2_with fail
  refine (newclock_any _ _).mono ?_
  rintro e w1 ⟨rfl, e1⟩
  have c1 : Clk w1 w.heap.size R := e1 ▸ Clk.new R w h0 h1
  have b1 : Below w.heap.size w w1 := e1 ▸ (Below.refl _ _).alloc (Nat.le_refl _) _
  clear e1
  have ng : ¬ w.heap.size = w1.heap.size := by have := c1.lt; omega
  go_wp2
  go_loopw [12] (fun v wr => ∃ (i : Nat) (p : Nat → Nat) (vs : Value), v = .int .i64 (i : Int) ∧ i ≤ n ∧ Hid (GK wr (w1.heap.size + 1) w1.heap.size w.heap.size i p vs R) ∧ Hid (Below w.heap.size w wr)) (fun v _ => n - (intOf v).toNat)
  case atStart =>
    refine ⟨0, fun _ => 0, .slice none 0 0, rfl, Nat.zero_le _, ⟨by simp, by simp, by simp, by simp, by simp, by simp, fun j hj => by omega, fun j _ hj => ?_, World.ownsRow_nil _ _ _ _, fun j hj => by omega, c1.upd (S := fun _ => False) ((Upd.refl _ _).alloc _) id, fun j k hj => by omega, fun j hj => by omega, fun j k hj => by omega, by omega, by have := c1.lt; omega, ng, by simp⟩, b1.alloc b1.size _⟩
    match j, hj with
    | 0, _ | 1, _ | 2, _ | 3, _ | 4, _ | 5, _ | 6, _ => exact ⟨by simp, by simp⟩
  case round =>
    obtain ⟨i, p, vs, rfl, hi, G, bl⟩ := hrel
    have lw := b1.size
    clear c1 b1
    by_cases hin : i < n
    · have k2 := G.out.c2
      obtain ⟨k3, f3⟩ := G.out.pz i (Nat.le_refl _) (by omega)
      have i7 : i < 7 := by omega
      have hlg := G.out.lt
      go_wp2
      go_region
      all_goals go_wp2
      have A4 := hide (gk_step wr (w1.heap.size + 1) w1.heap.size w.heap.size i p vs R 78 G.out i7)
      generalize hw4 : ((wr.setCell ⟨w1.heap.size, 3 + i, none⟩ (.pointer (some ⟨wr.heap.size, 0, none⟩))).alloc (.cells #[.pointer (some ⟨w.heap.size, 0, none⟩), .int .u64 0, .int .u64 0] 78)).drew = w4 at *
      clear hw4
      have lg4 : w1.heap.size < w4.heap.size := Nat.lt_of_lt_of_le hlg A4.out.u.size
      have x0 := A4.out.c0
      have x3 := A4.out.ci
      have y0 := A4.out.f0
      have x0' : ∀ o, (w4.alloc o).cell? ⟨w1.heap.size, 0, none⟩ = some vs := fun o => (World.cell?_alloc_past _ _ _ lg4).trans x0
      have hB4 : w1.heap.size + 1 ≤ (w4.drew.alloc (.cells #[.iface 52 (.pointer (some ⟨wr.heap.size, 0, none⟩))] 85)).heap.size := by simp; omega
      have OW := hide ((A4.out.own.upd (S := fun _ => False) ((Upd.refl _ w4).drew.alloc (.cells #[.iface 52 (.pointer (some ⟨wr.heap.size, 0, none⟩))] 85)) (fun _ _ => id)))
      have NG : Hid (∀ k, vs.ownBlock = some k → k ≠ w1.heap.size) := fun k hk => by have := (World.ownsRow.lt A4.out.own k hk).1; omega
      have lr := bl.out.size
      have bl4 : Hid (Below w.heap.size w w4) := bl.out.trans (A4.out.u.below lr (fun k hk => by have hk : k = w1.heap.size := hk; omega))
      clear k2 k3 f3 bl
      have i7z : (i : Int) < 7 := by omega
      have i0z : 0 ≤ (i : Int) := by omega
      go_wp2_with fail
      go_region_law (refine step_srcs rfl (.tmp 30) (.tmp 38) rfl (w1.heap.size + 1) (ifs 52 p i) vs rfl ⟨w4.heap.size, 0, none⟩ rfl (.iface 52 (.pointer (some ⟨wr.heap.size, 0, none⟩))) rfl (by simp) OW.out hB4 (by rw [ifs_len]; omega) ?_; intro sg cap w5 q1 q2 q3 q4; have u5 : Upd (fun k => vs.ownBlock = some k) w4 w5 := stamp_upd q2; have j0 := (u5.cell (p := ⟨w1.heap.size, 0, none⟩) lg4 (fun h => NG.out _ h rfl)).trans x0; have j1 := (u5.frozen (p := ⟨w1.heap.size, 0, none⟩) lg4 (fun h => NG.out _ h rfl)).trans y0)
      all_goals
        have GN := hide (gk_next G.out A4.out sg cap q1 u5 (q3.imp id (fun e => by rw [e]; simp)))
        have BN : Hid (Below w.heap.size w (w5.setCell ⟨w1.heap.size, 0, none⟩ (.slice (some ⟨sg, 0, none⟩) ((ifs 52 p i).length + 1) cap))) := (bl4.out.trans (u5.below bl4.out.size (fun k hk => by have := (World.ownsRow.lt A4.out.own k hk).1; omega))).setCell (p := ⟨w1.heap.size, 0, none⟩) lw _
        clear q1 q2 q3 u5 j0 j1 x0 x3 y0 x0' A4 G OW
        go_wp2
        go_round
        case rel => exact ⟨i + 1, _, _, by go_num, by omega, GN, BN⟩
        case measure => simp [intOf]; omega
    · obtain rfl : i = n := by omega
      go_wp2
      go_ret
      exact ⟨_, _, _, p, vs, rfl, G.out, bl.out, lw, Nat.le_refl _⟩

end Go.Proofs.Ytilngncjbikkgaa
