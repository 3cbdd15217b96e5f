import Derived.Test.YtifhdelkmhlcoaaGp
namespace Go.Proofs.Ytifhdelkmhlcoaa
open Go.RowKit
set_option linter.unusedVariables false

theorem info_src : (Try.prog.info? 96).map (fun i => (i.zero, i.size, i.bytes)) = some (some .nilIface, 1, 16) := by kernel_rfl
/-- 'append' of one source to none. -/
theorem run_src (w : World) (ty : TypeId) (ad : Addr) (u : Value) (hu : u.oneCell' = true) (hc : w.cell? ad = some u) :
    ∃ g c w', (Builtin.append_ #[101, 101] ty #[.slice none 0 0, .slice (some ad) 1 1]).run Try.prog w = .ok (.slice (some ⟨g, 0, none⟩) 1 c) w' ∧ w'.cell? ⟨g, 0, none⟩ = some u ∧ w.heap.size ≤ g ∧ g < w'.heap.size ∧ 1 ≤ c ∧ Below w.heap.size w w' := by
  obtain ⟨i0, hi, hz0, hz1, hz2⟩ := info_parts' info_src
  obtain ⟨v', w', h1, h2, h3, h4⟩ := run_append_own (P := Try.prog) w w.heap.size 101 ty 96 i0 .nilIface 1 16 Try.underlying101 hi hz0 hz1 hz2 rfl (by decide) (.slice none 0 0) 0 [] (World.ownsRow_nil w w.heap.size 96 1) ad 1 1 [u] rfl (by
    intro j y hy
    have hj : j = 0 := by
      have := (List.getElem?_eq_some_iff.1 hy).1
      simp at this
      omega
    subst hj
    simp at hy
    subst hy
    obtain ⟨b, o, s⟩ := ad
    exact hc) (by intro y hy; simp at hy; rw [hy]; exact hu) (by unfold maxLen; omega) (by omega) (Nat.le_refl _)
  have hb : Below w.heap.size w w' := (Below.refl _ _).grown h3 (Nat.le_refl _) (fun k hk => by cases hk)
  have hl := World.ownsRow.lt h2
  rcases h2.2 with ⟨_, e⟩ | ⟨g, c, cur, rfl, r1, r2, r3, r4, r5, r6⟩
  · cases e
  · refine ⟨g, c, w', h1, ?_, r1, (hl g rfl).2, r3, hb⟩
    have := World.ownsRow.cells h2 (g := g) rfl 0 u rfl
    exact this
theorem step_src {ops : Array Oper} {o : Oper} {a : Act} {w : World} {K : Act → World → Prop} {Q : Exit → Act → World → Prop} {E : Prop} (hg : o.guard = none) (s x : Operand)
    (ho : o.op = .call { callee := .builtin .append, args := #[s, x], argTypes := #[101, 101] }) (hs : a.eval s = .slice none 0 0) (ad : Addr) (hx : a.eval x = .slice (some ad) 1 1) (u : Value) (hu : u.oneCell' = true) (hc : w.cell? ad = some u)
    (h : ∀ g c w', w'.cell? ⟨g, 0, none⟩ = some u → w.heap.size ≤ g → g < w'.heap.size → 1 ≤ c → Below w.heap.size w w' → K (a.put o.dst (.slice (some ⟨g, 0, none⟩) 1 c)) w') :
    if Region.wanted o (yielded ops a.tmps) = true then Oper.wp Try.prog o a w K Q else E := by
  have hw : Region.wanted o (yielded ops a.tmps) = true := by simp [Region.wanted, hg]
  rw [if_pos hw]
  obtain ⟨g, c, w', hr, h2, h3, h4, h5, h6⟩ := run_src w o.type ad u hu hc
  unfold Oper.wp execOp
  simp only [ho, resolve, invoke, builtin, Sem.run_bind, Sem.run_pure, Result.andThen_ok, List.map_toArray, List.map_cons, List.map_nil, hs, hx, hr]
  exact h g c w' h2 h3 h4 h5 h6

theorem cell_new1 (w : World) (a : Value) (t : TypeId) : (w.alloc (.cells #[a] t)).cell? ⟨w.heap.size, 0, none⟩ = some a := by simp
theorem cell_old (w : World) (C : Obj) {b k : Nat} {u : Value} (hb : b < w.heap.size) (h : w.cell? ⟨b, k, none⟩ = some u) : (w.drew.alloc C).cell? ⟨b, k, none⟩ = some u :=
  (((Upd.refl (fun _ => False) w).drew.alloc C).cell (p := ⟨b, k, none⟩) hb id).trans h
theorem frozen_old (w : World) (C : Obj) {b k : Nat} (hb : b < w.heap.size) (h : w.frozen? ⟨b, k, none⟩ = false) : (w.drew.alloc C).frozen? ⟨b, k, none⟩ = false :=
  (((Upd.refl (fun _ => False) w).drew.alloc C).frozen (p := ⟨b, k, none⟩) hb id).trans h
/-- A group in the making. -/
structure G0 (w : World) (g c : Nat) (R : Int) : Prop where
  lt : g < w.heap.size
  c0 : w.cell? ⟨g, 0, none⟩ = some (.slice none 0 0)
  c1 : w.cell? ⟨g, 1, none⟩ = some (.slice none 0 0)
  c2 : w.cell? ⟨g, 2, none⟩ = some (.pointer (some ⟨c, 0, none⟩))
  c3 : w.cell? ⟨g, 3, none⟩ = some (.pointer none)
  f0 : w.frozen? ⟨g, 0, none⟩ = false
  f1 : w.frozen? ⟨g, 1, none⟩ = false
  f3 : w.frozen? ⟨g, 3, none⟩ = false
  clk : Clk w c R
/-- .. and made. -/
def G1 (w0 w : World) (g c : Nat) (R : Int) : Prop := ∃ sg cap p, Gr w g sg 1 cap c (.slice none 0 0) ∧ At w sg 0 p ∧ Prs w p c 0 0 ∧ Clk w c R ∧ g ≠ p ∧ sg ≠ p ∧ w0.heap.size ≤ p

set_option maxRecDepth 100000 in
set_option maxHeartbeats 800000 in
theorem clockgroup_one (R : Int) (w : World) (h0 : 0 ≤ R) (h1 : R ≤ 18446744073709551615) :
    Calls Try.prog 47 #[.int .i64 1, .int .u64 R] w fun e w' => ∃ g c, e = .returned (.pointer (some ⟨g, 0, none⟩)) ∧ G1 w w' g c R ∧ Below w.heap.size w w' ∧ w.heap.size ≤ g ∧ w.heap.size ≤ c := by
  go_enter Try.func47, Try.ntmps47
  go_wp2_with fail
  refine (newclock_any _ _).mono ?_
  rintro e w1 ⟨rfl, e1⟩
  have c1 : Clk w1 w.heap.size R := e1 ▸ Clk.new R w h0 h1
  have b1 : Below w.heap.size w w1 := e1 ▸ (Below.refl _ _).alloc (Nat.le_refl _) _
  clear e1
  go_wp2
  have ng : ¬ w.heap.size = w1.heap.size := by have := c1.lt; omega
  go_loopw [12] (fun i wr => Below w.heap.size w wr ∧ ((i = .int .i64 0 ∧ G0 wr w1.heap.size w.heap.size R) ∨ (i = .int .i64 1 ∧ G1 w wr w1.heap.size w.heap.size R))) (fun i _ => 1 - (intOf i).toNat)
  case atStart =>
    refine ⟨b1.alloc b1.size _, .inl ⟨rfl, ⟨by simp, by simp, by simp, by simp, by simp, by simp, by simp, by simp, c1.upd (S := fun _ => False) ((Upd.refl _ _).alloc _) id⟩⟩⟩
  case round =>
    obtain ⟨bl, hrel⟩ := hrel
    have lw := c1.lt
    clear c1 b1
    rcases hrel with ⟨rfl, G⟩ | ⟨rfl, G⟩
    · obtain ⟨lt, k0, k1, k2, k3, f0, f1, f3, clk⟩ := G
      go_wp2
      go_region
      all_goals go_wp2
      have hX : (wr.setCell ⟨w1.heap.size, 3, none⟩ (.pointer (some ⟨wr.heap.size, 0, none⟩))).heap.size = wr.heap.size := by simp [World.setCell]
      have uX : Upd (· = w1.heap.size) wr (wr.setCell ⟨w1.heap.size, 3, none⟩ (.pointer (some ⟨wr.heap.size, 0, none⟩))) := upd_one _ _ _ _
      have cX := clk.upd uX ng
      have x0 : (wr.setCell ⟨w1.heap.size, 3, none⟩ (.pointer (some ⟨wr.heap.size, 0, none⟩))).cell? ⟨w1.heap.size, 0, none⟩ = some (.slice none 0 0) := by go_simp
      have x1 : (wr.setCell ⟨w1.heap.size, 3, none⟩ (.pointer (some ⟨wr.heap.size, 0, none⟩))).cell? ⟨w1.heap.size, 1, none⟩ = some (.slice none 0 0) := by go_simp
      have x2 : (wr.setCell ⟨w1.heap.size, 3, none⟩ (.pointer (some ⟨wr.heap.size, 0, none⟩))).cell? ⟨w1.heap.size, 2, none⟩ = some (.pointer (some ⟨w.heap.size, 0, none⟩)) := by go_simp
      have x3 : (wr.setCell ⟨w1.heap.size, 3, none⟩ (.pointer (some ⟨wr.heap.size, 0, none⟩))).cell? ⟨w1.heap.size, 3, none⟩ = some (.pointer (some ⟨wr.heap.size, 0, none⟩)) := by go_simp
      have y0 : (wr.setCell ⟨w1.heap.size, 3, none⟩ (.pointer (some ⟨wr.heap.size, 0, none⟩))).frozen? ⟨w1.heap.size, 0, none⟩ = false := by go_simp
      have y1 : (wr.setCell ⟨w1.heap.size, 3, none⟩ (.pointer (some ⟨wr.heap.size, 0, none⟩))).frozen? ⟨w1.heap.size, 1, none⟩ = false := by go_simp
      have bX := bl.setCell (p := ⟨w1.heap.size, 3, none⟩) (by show w.heap.size ≤ w1.heap.size; omega) (.pointer (some ⟨wr.heap.size, 0, none⟩))
      have lr := Nat.le_trans (Nat.le_refl _) bl.size
      clear uX k0 k1 k2 k3 f0 f1 f3 clk bl
      generalize wr.setCell ⟨w1.heap.size, 3, none⟩ (.pointer (some ⟨wr.heap.size, 0, none⟩)) = X at *
      rw [← hX] at x3 lt lr ⊢
      clear hX
      have P3 := Prs.new _ X cX.lt
      have U3 : Upd (fun _ => False) X (X.alloc (.cells #[.pointer (some ⟨w.heap.size, 0, none⟩), .int .u64 0, .int .u64 0] 87)).drew := ((Upd.refl _ X).alloc _).drew
      have P4 := P3.upd (S := fun _ => False) (Upd.refl _ _).drew id
      have C4 := cX.upd U3 id
      have x0 := (U3.cell (p := ⟨w1.heap.size, 0, none⟩) lt id).trans x0
      have x1 := (U3.cell (p := ⟨w1.heap.size, 1, none⟩) lt id).trans x1
      have x2 := (U3.cell (p := ⟨w1.heap.size, 2, none⟩) lt id).trans x2
      have x3 := (U3.cell (p := ⟨w1.heap.size, 3, none⟩) lt id).trans x3
      have y0 := (U3.frozen (p := ⟨w1.heap.size, 0, none⟩) lt id).trans y0
      have y1 := (U3.frozen (p := ⟨w1.heap.size, 1, none⟩) lt id).trans y1
      have b4 := bX.trans (U3.below bX.size (fun _ h => h.elim))
      have l4 : X.heap.size < (X.alloc (.cells #[.pointer (some ⟨w.heap.size, 0, none⟩), .int .u64 0, .int .u64 0] 87)).drew.heap.size := by simp
      clear P3 U3 cX bX
      generalize (X.alloc (.cells #[.pointer (some ⟨w.heap.size, 0, none⟩), .int .u64 0, .int .u64 0] 87)).drew = w4 at *
      have lg4 : w1.heap.size < w4.heap.size := by omega
      have x0' : ∀ o, (w4.alloc o).cell? ⟨w1.heap.size, 0, none⟩ = some (.slice none 0 0) := fun o => (World.cell?_alloc_past _ _ _ lg4).trans x0
      go_region_law (refine step_src rfl (.tmp 30) (.tmp 38) rfl rfl ⟨w4.heap.size, 0, none⟩ rfl (.iface 43 (.pointer (some ⟨X.heap.size, 0, none⟩))) rfl (cell_new1 w4.drew _ _) ?_; intro sg cap w5 q1 q2 q3 q4 q5; have j0 := (q5.cell (p := ⟨w1.heap.size, 0, none⟩) (by simp; omega)).trans (cell_old w4 _ lg4 x0); have j1 := (q5.frozen (p := ⟨w1.heap.size, 0, none⟩) (by simp; omega)).trans (frozen_old w4 _ lg4 y0))
      all_goals
        have u5 : Upd (fun _ => False) w4 w5 := ((Upd.refl _ w4).drew.alloc _).trans (Upd.of_below q5)
        have hsg : w4.heap.size < sg := by simp at q2; omega
        have s5 := u5.size
        have k1 := (u5.cell (p := ⟨w1.heap.size, 1, none⟩) lg4 id).trans x1
        have k2 := (u5.cell (p := ⟨w1.heap.size, 2, none⟩) lg4 id).trans x2
        have m1 := (u5.frozen (p := ⟨w1.heap.size, 1, none⟩) lg4 id).trans y1
        have P5 := P4.upd u5 id
        have C5 := C4.upd u5 id
        have b5 := b4.trans (u5.below b4.size (fun _ h => h.elim))
        have nsg : ¬ sg = w1.heap.size := by omega
        have nX : ¬ X.heap.size = w1.heap.size := by omega
        have hsx : ¬ sg = X.heap.size := by omega
        have z5 : (w5.setCell ⟨w1.heap.size, 0, none⟩ (.slice (some ⟨sg, 0, none⟩) 1 cap)).heap.size = w5.heap.size := by simp [World.setCell]
        have GG : G1 w (w5.setCell ⟨w1.heap.size, 0, none⟩ (.slice (some ⟨sg, 0, none⟩) 1 cap)) w1.heap.size w.heap.size R := by
          refine ⟨sg, cap, X.heap.size, ⟨by rw [z5]; omega, by rw [z5]; omega, by go_simp, by go_simp, by go_simp, by go_simp, q4⟩, ?_, P5.past nX _, C5.past ng _, fun e => nX e.symm, hsx, lr⟩
          exact ((upd_one _ _ _ _).cell (p := ⟨sg, 0, none⟩) q3 nsg).trans q1
        have BB := b5.setCell (p := ⟨w1.heap.size, 0, none⟩) (by show w.heap.size ≤ w1.heap.size; omega) (.slice (some ⟨sg, 0, none⟩) 1 cap)
        clear P5 C5 u5 k1 k2 m1 j0 j1 q1 q5 b5 b4 x0 x1 x2 x3 y0 y1 x0' P4 C4
        go_wp2
        go_round
        case rel => exact ⟨BB, .inr ⟨by go_num, GG⟩⟩
        case measure => simp [intOf]
    · go_wp2
      go_ret
      exact ⟨_, _, rfl, G, bl, by have := bl.size; omega, Nat.le_refl _⟩

end Go.Proofs.Ytifhdelkmhlcoaa
