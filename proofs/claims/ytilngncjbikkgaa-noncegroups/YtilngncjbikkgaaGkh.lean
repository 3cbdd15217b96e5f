import Derived.Test.YtilngncjbikkgaaGkg
import Derived.Test.YtilngncjbikkgaaGkc
namespace Go.Proofs.Ytilngncjbikkgaa
open Go.RowKit
set_option linter.unusedVariables false
set_option linter.unusedSimpArgs false

theorem row_upd {B k n : Nat} {e : TypeId} {S : Nat → Prop} {w w' : World} {v : Value} {l : List Value} (h : w.ownsRow B e k v n l) (u : Upd S w w') (hs : ∀ b, v.ownBlock = some b → ¬ S b) : w'.ownsRow B e k v n l := by
  have hlt := World.ownsRow.lt h
  obtain ⟨h1, h2⟩ := h
  refine ⟨h1, ?_⟩
  rcases h2 with h2 | ⟨g, cap, cur, e1, e2, e3, r⟩
  · exact .inl h2
  · refine .inr ⟨g, cap, cur, e1, e2, ?_, r⟩
    rw [u.block g (hlt g (by rw [e1]; rfl)).2 (hs g (by rw [e1]; rfl))]
    exact e3
theorem row_free {B k n g : Nat} {e : TypeId} {w : World} {v : Value} {l : List Value} (h : w.ownsRow B e k v n l) (hg : v.ownBlock = some g) (j : Nat) : w.frozen? ⟨g, j, none⟩ = false := by
  rcases h.2 with ⟨rfl, _⟩ | ⟨g', cap, cur, rfl, _, hgg, _⟩
  · simp [Value.ownBlock] at hg
  · simp [Value.ownBlock] at hg
    subst hg
    simp [World.frozen?, hgg]
theorem row_ne {B B' k k' n n' g : Nat} {e e' : TypeId} {w : World} {v v' : Value} {l l' : List Value} (h : w.ownsRow B e k v n l) (h' : w.ownsRow B' e' k' v' n' l') (he : e ≠ e') (hg : v.ownBlock = some g) : v'.ownBlock ≠ some g := by
  intro hg'
  rcases h.2 with ⟨rfl, _⟩ | ⟨g1, cap, cur, rfl, _, hgg, _⟩
  · simp [Value.ownBlock] at hg
  · rcases h'.2 with ⟨rfl, _⟩ | ⟨g2, cap2, cur2, rfl, _, hgg2, _⟩
    · simp [Value.ownBlock] at hg'
    · simp [Value.ownBlock] at hg hg'
      subst hg hg'
      rw [hgg] at hgg2
      cases hgg2
      exact he rfl
/-- The cells of new Pairs; the states of new Mixed. -/
def qcs (g : Nat) : Nat → List Value
  | 0 => []
  | n + 1 => qcs g n ++ [.pointer (some ⟨g, 1, none⟩), .slice none 0 0]
def mcs (sd : Int) : Nat → List Value
  | 0 => []
  | n + 1 => mcs sd n ++ [.int .u64 (sd0 sd n)]
theorem qcs_len (g : Nat) : ∀ n, (qcs g n).length = n * 2
  | 0 => rfl
  | n + 1 => by simp only [qcs, List.length_append, qcs_len g n, List.length_cons, List.length_nil]; omega
theorem mcs_len (sd : Int) : ∀ n, (mcs sd n).length = n
  | 0 => rfl
  | n + 1 => by simp only [mcs, List.length_append, mcs_len sd n, List.length_cons, List.length_nil]
theorem qcs_at (g : Nat) : ∀ n i, i < 2 * n → (qcs g n)[i]? = some (if i % 2 = 0 then .pointer (some ⟨g, 1, none⟩) else .slice none 0 0)
  | 0, i, h => by omega
  | n + 1, i, h => by
    rw [qcs]
    by_cases hi : i < 2 * n
    · rw [List.getElem?_append_left (by rw [qcs_len]; omega)]
      exact qcs_at g n i hi
    · rw [List.getElem?_append_right (by rw [qcs_len]; omega), qcs_len]
      have : i = 2 * n ∨ i = 2 * n + 1 := by omega
      rcases this with rfl | rfl
      · rw [show 2 * n - n * 2 = 0 by omega, if_pos (by omega)]; rfl
      · rw [show 2 * n + 1 - n * 2 = 1 by omega, if_neg (by omega)]; rfl
theorem mcs_at (sd : Int) : ∀ n i, i < n → (mcs sd n)[i]? = some (.int .u64 (sd0 sd i))
  | 0, i, h => by omega
  | n + 1, i, h => by
    rw [mcs]
    by_cases hi : i < n
    · rw [List.getElem?_append_left (by rw [mcs_len]; omega)]
      exact mcs_at sd n i hi
    · obtain rfl : i = n := by omega
      rw [List.getElem?_append_right (by rw [mcs_len]; omega), mcs_len]
      simp
theorem info_rp : (Try.prog.info? 47).map (fun i => (i.zero, i.size, i.bytes)) = some (some (.agg #[.pointer none, .slice none 0 0]), 2, 32) := by kernel_rfl
theorem info_rm : (Try.prog.info? 49).map (fun i => (i.zero, i.size, i.bytes)) = some (some (.agg #[.int .u64 0]), 1, 8) := by kernel_rfl
theorem step_rp {ops : Array Oper} {o : Oper} {a : Act} {w : World} {K : Act → World → Prop} {Q : Exit → Act → World → Prop} {E : Prop} (hg : o.guard = none) (s x : Operand)
    (ho : o.op = .call { callee := .builtin .append, args := #[s, x], argTypes := #[39, 39] }) (B g n : Nat) (v : Value) (hs : a.eval s = v) (ad : Addr) (hx : a.eval x = .slice (some ad) 1 1)
    (hc : w.cell? ad = some (.pointer (some ⟨g, 1, none⟩))) (hc1 : w.cell? (ad.add 1) = some (.slice none 0 0)) (hown : w.ownsRow B 47 2 v n (qcs g n)) (hB : B ≤ w.heap.size) (hl : n ≤ 7)
    (h : ∀ pg cap w', w'.ownsRow B 47 2 (.slice (some ⟨pg, 0, none⟩) (n + 1) cap) (n + 1) (qcs g (n + 1)) → w.grownBy w' v.ownBlock → K (a.put o.dst (.slice (some ⟨pg, 0, none⟩) (n + 1) cap)) w') :
    if Region.wanted o (yielded ops a.tmps) = true then Oper.wp Try.prog o a w K Q else E := by
  have hw : Region.wanted o (yielded ops a.tmps) = true := by simp [Region.wanted, hg]
  rw [if_pos hw]
  obtain ⟨i0, hi, hz0, hz1, hz2⟩ := info_parts' info_rp
  obtain ⟨v', w', hr, h2, h3, h4, h5⟩ := run_append_own_at (P := Try.prog) w B 39 o.type 47 i0 (.agg #[.pointer none, .slice none 0 0]) 2 32 Try.underlying39 hi hz0 hz1 hz2 rfl (by decide) v n (qcs g n) hown ad 1 1 [.pointer (some ⟨g, 1, none⟩), .slice none 0 0] rfl (by
    intro j y hy
    match j, hy with
    | 0, hy => simp at hy; subst hy; obtain ⟨b, o, s⟩ := ad; exact hc
    | 1, hy => simp at hy; subst hy; exact hc1
    | j + 2, hy => simp at hy) (by intro y hy; simp at hy; rcases hy with rfl | rfl <;> rfl) (by unfold maxLen; omega) (by omega) hB
  unfold Oper.wp execOp
  simp only [ho, resolve, invoke, builtin, Sem.run_bind, Sem.run_pure, Result.andThen_ok, List.map_toArray, List.map_cons, List.map_nil, hs, hx, hr]
  rcases h2.2 with ⟨_, e⟩ | ⟨pg, cap, cur, e1, r1, r2, r3, r4⟩
  · omega
  · subst e1
    exact h pg cap w' h2 h3
theorem app_rm (w : World) {ops : Array Oper} {rest : List Oper} {o : Oper} {a : Act} {Q : Exit → Act → World → Prop} (hgd : o.guard = none) (s x : Operand)
    (ho : o.op = .call { callee := .builtin .append, args := #[s, x], argTypes := #[40, 40] }) (B n : Nat) (sd : Int) (v : Value) (hs : a.eval s = v)
    (ad : Addr) (hx : a.eval x = .slice (some ad) 1 1) (hown : w.ownsRow B 49 1 v n (mcs sd n)) (hc : w.cell? ad = some (.int .u64 (sd0 sd n))) (hB : B ≤ w.heap.size) (hb : n ≤ 7)
    (h : ∀ mg cap w', w'.ownsRow B 49 1 (.slice (some ⟨mg, 0, none⟩) (n + 1) cap) (n + 1) (mcs sd (n + 1)) → w.grownBy w' v.ownBlock → wpList Try.prog ops Q rest (a.put o.dst (.slice (some ⟨mg, 0, none⟩) (n + 1) cap)) w') : wpList Try.prog ops Q (o :: rest) a w := by
  obtain ⟨i0, hi, hz0, hz1, hz2⟩ := info_parts' info_rm
  refine wpList_append_own _ hgd s x 40 ho B 49 i0 (.agg #[.int .u64 0]) 1 8 Try.underlying40 hi hz0 hz1 hz2 rfl (by decide) v n (mcs sd n) hs hown ad 1 1 [.int .u64 (sd0 sd n)] hx rfl (by
    intro j y hy
    match j, hy with
    | 0, hy => simp at hy; subst hy; obtain ⟨b, o, s⟩ := ad; exact hc
    | j + 1, hy => simp at hy) (by intro y hy; simp at hy; rw [hy]; rfl) (by unfold maxLen; omega) (by omega) hB ?_
  intro v' w' h2 h3 h4
  rcases h2.2 with ⟨_, e⟩ | ⟨mg, cap, cur, e1, r1, r2, r3, r4⟩
  · omega
  · subst e1
    exact h mg cap w' h2 h3
/-- The document's group in the making. -/
structure RK (w : World) (B g i j : Nat) (vp vm : Value) (k sd : Int) : Prop where
  lt : g < w.heap.size
  c0 : w.cell? ⟨g, 0, none⟩ = some (.int .i64 k)
  clk : QClk w g 1 sd
  c2 : w.cell? ⟨g, 2, none⟩ = some vp
  c3 : w.cell? ⟨g, 3, none⟩ = some vm
  c4 : w.cell? ⟨g, 4, none⟩ = some (.slice none 0 0)
  f2 : w.frozen? ⟨g, 2, none⟩ = false
  f3 : w.frozen? ⟨g, 3, none⟩ = false
  f4 : w.frozen? ⟨g, 4, none⟩ = false
  P : w.ownsRow B 47 2 vp i (qcs g i)
  M : w.ownsRow B 49 1 vm j (mcs sd j)
  gB : g < B
  hB : B ≤ w.heap.size
theorem RK.upd {S : Nat → Prop} {w w' : World} {B g i j : Nat} {vp vm : Value} {k sd : Int} (h : RK w B g i j vp vm k sd) (u : Upd S w w') (hs : ¬ S g) (h1 : ∀ b, vp.ownBlock = some b → ¬ S b) (h2 : ∀ b, vm.ownBlock = some b → ¬ S b) : RK w' B g i j vp vm k sd :=
  ⟨Nat.lt_of_lt_of_le h.lt u.size, (u.cell (p := ⟨g, 0, none⟩) h.lt hs).trans h.c0, h.clk.upd u hs, (u.cell (p := ⟨g, 2, none⟩) h.lt hs).trans h.c2, (u.cell (p := ⟨g, 3, none⟩) h.lt hs).trans h.c3, (u.cell (p := ⟨g, 4, none⟩) h.lt hs).trans h.c4, (u.frozen (p := ⟨g, 2, none⟩) h.lt hs).trans h.f2, (u.frozen (p := ⟨g, 3, none⟩) h.lt hs).trans h.f3, (u.frozen (p := ⟨g, 4, none⟩) h.lt hs).trans h.f4, row_upd h.P u h1, row_upd h.M u h2, h.gB, Nat.le_trans h.hB u.size⟩
theorem RK.putP {w w5 : World} {B g i j : Nat} {vp vm vp' : Value} {k sd : Int} (h : RK w B g i j vp vm k sd) (q : w5.ownsRow B 47 2 vp' (i + 1) (qcs g (i + 1))) (u : Upd (fun b => vp.ownBlock = some b) w w5) : RK (w5.setCell ⟨g, 2, none⟩ vp') B g (i + 1) j vp' vm k sd := by
  have ng : ¬ vp.ownBlock = some g := fun e => by have := (World.ownsRow.lt h.P g e).1; have := h.gB; omega
  have u4 : Upd (· = g) w5 (w5.setCell ⟨g, 2, none⟩ vp') := upd_one' _ _ _ _
  have z := u.size
  have z4 := u4.size
  have lt := h.lt
  have gB := h.gB
  have hq := h.clk.upd u ng
  have c := fun i x (hx : w.cell? ⟨g, i, none⟩ = some x) => (u.cell (p := ⟨g, i, none⟩) lt ng).trans hx
  have f := fun i (hx : w.frozen? ⟨g, i, none⟩ = false) => (u.frozen (p := ⟨g, i, none⟩) lt ng).trans hx
  exact ⟨by omega, sc_ne (c 0 _ h.c0) (by omega), ⟨by omega, sc_ne hq.c0 (by omega), sc_fr hq.f0, hq.lo, hq.hi⟩, sc_eq (c 2 _ h.c2), sc_ne (c 3 _ h.c3) (by omega), sc_ne (c 4 _ h.c4) (by omega), sc_fr (f 2 h.f2), sc_fr (f 3 h.f3), sc_fr (f 4 h.f4), row_upd q u4 (fun b hb e => by have := (World.ownsRow.lt q b hb).1; omega), row_upd (row_upd h.M u (fun b hb e => row_ne h.M h.P (by decide) hb e)) u4 (fun b hb e => by have := (World.ownsRow.lt h.M b hb).1; omega), gB, by have := h.hB; omega⟩
theorem RK.putM {w w5 : World} {B g i j : Nat} {vp vm vm' : Value} {k sd : Int} (h : RK w B g i j vp vm k sd) (q : w5.ownsRow B 49 1 vm' (j + 1) (mcs sd (j + 1))) (u : Upd (fun b => vm.ownBlock = some b) w w5) : RK (w5.setCell ⟨g, 3, none⟩ vm') B g i (j + 1) vp vm' k sd := by
  have ng : ¬ vm.ownBlock = some g := fun e => by have := (World.ownsRow.lt h.M g e).1; have := h.gB; omega
  have u4 : Upd (· = g) w5 (w5.setCell ⟨g, 3, none⟩ vm') := upd_one' _ _ _ _
  have z := u.size
  have z4 := u4.size
  have lt := h.lt
  have gB := h.gB
  have hq := h.clk.upd u ng
  have c := fun i x (hx : w.cell? ⟨g, i, none⟩ = some x) => (u.cell (p := ⟨g, i, none⟩) lt ng).trans hx
  have f := fun i (hx : w.frozen? ⟨g, i, none⟩ = false) => (u.frozen (p := ⟨g, i, none⟩) lt ng).trans hx
  exact ⟨by omega, sc_ne (c 0 _ h.c0) (by omega), ⟨by omega, sc_ne hq.c0 (by omega), sc_fr hq.f0, hq.lo, hq.hi⟩, sc_ne (c 2 _ h.c2) (by omega), sc_eq (c 3 _ h.c3), sc_ne (c 4 _ h.c4) (by omega), sc_fr (f 2 h.f2), sc_fr (f 3 h.f3), sc_fr (f 4 h.f4), row_upd (row_upd h.P u (fun b hb e => row_ne h.P h.M (by decide) hb e)) u4 (fun b hb e => by have := (World.ownsRow.lt h.P b hb).1; omega), row_upd q u4 (fun b hb e => by have := (World.ownsRow.lt q b hb).1; omega), gB, by have := h.hB; omega⟩
theorem RK.done {w : World} {B g n : Nat} {vp vm : Value} {k sd : Int} (h : RK w B g n n vp vm k sd) (h1 : 1 ≤ n) (h7 : n ≤ 7) (s0 : 0 ≤ sd) :
    ∃ pg mg cp cm, RG w w.heap.size g pg mg n cp cm (.slice none 0 0) k sd (fun _ => 0) (fun _ => 0) (fun _ => .slice none 0 0) (sd0 sd) [] ∧ B ≤ pg ∧ B ≤ mg := by
  rcases h.P.2 with ⟨_, e⟩ | ⟨pg, cp, cur, rfl, r1, r2, r3, r4⟩
  · omega
  · rcases h.M.2 with ⟨_, e⟩ | ⟨mg, cm, cur', rfl, r1', r2', r3', r4'⟩
    · omega
    · have hne := row_ne h.P h.M (by decide) (g := pg) rfl
      have hl := (World.ownsRow.lt h.P pg rfl).2
      have hl' := (World.ownsRow.lt h.M mg rfl).2
      have gB := h.gB
      refine ⟨pg, mg, cp, cm, ⟨⟨h.lt, hl, hl'⟩, h.c0, h.clk, h.c2, h.c3, h.c4, h.f4, ⟨r3, r3'⟩, fun i hi => ⟨?_, row_free h.P rfl i⟩, fun j hj => ⟨OwnD.nil _ _, Nat.zero_le _⟩, fun j hj => ⟨?_, row_free h.M rfl j⟩, fun j hj => (by unfold sd0; omega), OwnS.nil _ _, fun i j b _ _ _ hb => (by cases hb), fun j b _ hb => (by cases hb), ⟨h.lt, hl, hl'⟩, ⟨by omega, by omega, fun e => hne (by rw [e]; rfl)⟩, Nat.le_refl _, h7⟩, r1, r1'⟩
      · have := World.ownsRow.cells h.P (g := pg) rfl i _ (qcs_at g n i hi)
        rw [Addr.add_lit, Nat.zero_add] at this
        exact this
      · have := World.ownsRow.cells h.M (g := mg) rfl j _ (mcs_at sd n j hj)
        rw [Addr.add_lit, Nat.zero_add] at this
        exact this
set_option maxRecDepth 100000 in
set_option maxHeartbeats 2000000 in
theorem refnew_any (k : Int) (hk : k = 1 ∨ k = 2) (n : Nat) (sd : Int) (w : World) (h1 : 1 ≤ n) (h7 : n ≤ 7) (s0 : 0 ≤ sd) (s1 : sd ≤ 18446744073709551615) :
    Calls Try.prog 5 #[.int .i64 k, .int .i64 (n : Int), .int .u64 sd] w fun e w' => e = .returned (.tuple #[.pointer (some ⟨w.heap.size, 0, none⟩), .int .i64 0]) ∧ ∃ pg mg cp cm, (RG w' w'.heap.size w.heap.size pg mg n cp cm (.slice none 0 0) k sd (fun _ => 0) (fun _ => 0) (fun _ => .slice none 0 0) (sd0 sd) [] ∧ w.heap.size ≤ pg ∧ w.heap.size ≤ mg) ∧ Below w.heap.size w w' := by
  have d1 : decide ((n : Int) < 1) = false := decide_eq_false (by omega)
  have d2 : decide (7 < (n : Int)) = false := decide_eq_false (by omega)
  rcases hk with rfl | rfl
  all_goals
    go_enter Try.func5, Try.ntmps5
    go_wp2
    go_loopw [9] (fun vi wr => ∃ (i : Nat) (vp vm : Value), vi = .int .i64 (i : Int) ∧ i ≤ n ∧ Hid (RK wr (w.heap.size + 1) w.heap.size i i vp vm _ sd) ∧ Hid (Below w.heap.size w wr)) (fun vi _ => n - (intOf vi).toNat)
    case atStart =>
      exact ⟨0, .slice none 0 0, .slice none 0 0, rfl, Nat.zero_le _, ⟨by simp, by simp; rfl, ⟨by simp, by simp, by simp, s0, s1⟩, by simp, by simp, by simp, by simp, by simp, by simp, World.ownsRow_nil _ _ _ _, World.ownsRow_nil _ _ _ _, by omega, by simp⟩, (Below.refl _ _).alloc (Nat.le_refl _) _⟩
    case round =>
      obtain ⟨i, vp, vm, rfl, hi, G, bl⟩ := hrel
      by_cases hin : i < n
      · have hlg := G.out.lt
        have x2 := G.out.c2
        have y2 := G.out.f2
        have lr := bl.out.size
        have hcv : IntKind.u64.wrap (i : Int) = (i : Int) := by rw [IntKind.wrap_u64]; omega
        have hw9 : IntKind.u64.wrap (sd + (i : Int)) = sd0 sd i := by rw [IntKind.wrap_u64]; rfl
        have i7 : i ≤ 7 := by omega
        have x2' : ∀ o, (wr.alloc o).cell? ⟨w.heap.size, 2, none⟩ = some vp := fun o => (World.cell?_alloc_past _ _ _ hlg).trans x2
        have OP := hide (row_upd G.out.P (S := fun _ => False) ((Upd.refl _ wr).drew.alloc (.cells #[.pointer (some ⟨w.heap.size, 1, none⟩), .slice none 0 0] 47)) (fun _ _ => id))
        have hB4 := hide (show w.heap.size + 1 ≤ (wr.drew.alloc (.cells #[.pointer (some ⟨w.heap.size, 1, none⟩), .slice none 0 0] 47)).heap.size by simp; omega)
        have NG : Hid (∀ b, vp.ownBlock = some b → b ≠ w.heap.size) := fun b hb => by have := (World.ownsRow.lt G.out.P b hb).1; omega
        go_wp2_with fail
        go_region_law (refine step_rp rfl (.tmp 38) (.tmp 43) rfl (w.heap.size + 1) w.heap.size i vp rfl ⟨wr.heap.size, 0, none⟩ rfl (Duo0 wr.drew _ _ _) (Duo1 wr.drew _ _ _) OP.out hB4.out i7 ?_; intro pg cap w5 q1 q2; have u5 := draw_upd q2; have j0 := (u5.cell (p := ⟨w.heap.size, 2, none⟩) hlg (fun h => NG.out _ h rfl)).trans x2; have j1 := (u5.frozen (p := ⟨w.heap.size, 2, none⟩) hlg (fun h => NG.out _ h rfl)).trans y2)
        all_goals
          have G6 := G.out.putP q1 u5
          have B6 : Below w.heap.size w (w5.setCell ⟨w.heap.size, 2, none⟩ (.slice (some ⟨pg, 0, none⟩) (i + 1) cap)) := (bl.out.trans (u5.below lr (fun b hb => by have := (World.ownsRow.lt G.out.P b hb).1; omega))).setCell (p := ⟨w.heap.size, 2, none⟩) (Nat.le_refl _) _
          generalize w5.setCell ⟨w.heap.size, 2, none⟩ (.slice (some ⟨pg, 0, none⟩) (i + 1) cap) = w6 at *
          have hl6 := G6.lt
          have x3 := G6.c3
          have y3 := G6.f3
          have x3' : ∀ o, (w6.alloc o).cell? ⟨w.heap.size, 3, none⟩ = some vm := fun o => (World.cell?_alloc_past _ _ _ hl6).trans x3
          have lr6 := B6.size
          have OM := hide (row_upd G6.M (S := fun _ => False) ((Upd.refl _ w6).alloc (.cells #[.int .u64 (sd0 sd i)] 49)) (fun _ _ => id))
          have hB6 := hide (show w.heap.size + 1 ≤ (w6.alloc (.cells #[.int .u64 (sd0 sd i)] 49)).heap.size by simp; omega)
          have NM : Hid (∀ b, vm.ownBlock = some b → b ≠ w.heap.size) := fun b hb => by have := (World.ownsRow.lt G6.M b hb).1; omega
          have HG6 := hide G6
          have HB6 := hide B6
          clear q1 q2 u5 j0 j1 x2 y2 x2' OP hB4 NG G bl G6 B6
          go_wp2_with (at_builtin; go_must (refine app_rm _ rfl (.tmp 51) (.tmp 57) rfl (w.heap.size + 1) i sd vm rfl ⟨w6.heap.size, 0, none⟩ rfl OM.out (World.cell?_alloc_at _ _ _ _ rfl) hB6.out i7 ?_))
          intro mg cap2 w7 r1 r2
          have u7 : Upd (fun b => vm.ownBlock = some b) w6 w7 := ((Upd.refl _ w6).alloc _).trans ⟨r2.os, r2.tape, r2.output, r2.size, fun b hb hs => r2.block b hb (fun e => hs e.symm)⟩
          have j3 := (u7.cell (p := ⟨w.heap.size, 3, none⟩) hl6 (fun h => NM.out _ h rfl)).trans x3
          have j4 := (u7.frozen (p := ⟨w.heap.size, 3, none⟩) hl6 (fun h => NM.out _ h rfl)).trans y3
          have GN := hide (HG6.out.putM r1 u7)
          have BN : Hid (Below w.heap.size w (w7.setCell ⟨w.heap.size, 3, none⟩ (.slice (some ⟨mg, 0, none⟩) (i + 1) cap2))) := (HB6.out.trans (u7.below lr6 (fun b hb => by have := (World.ownsRow.lt HG6.out.M b hb).1; omega))).setCell (p := ⟨w.heap.size, 3, none⟩) (Nat.le_refl _) _
          clear r1 r2 u7 x3 y3 x3' OM hB6 NM HG6 HB6 hw9 hcv
          go_wp2
          go_roundw
          case rel => exact ⟨i + 1, _, _, by go_num, by omega, GN, BN⟩
          case measure => simp [intOf]; omega
      · obtain rfl : i = n := by omega
        obtain ⟨pg, mg, cp, cm, hr, hp, hm⟩ := G.out.done h1 h7 s0
        have HR := hide hr
        clear G hr
        go_wp2
        go_ret2
        exact ⟨rfl, pg, mg, cp, cm, ⟨HR.out, by omega, by omega⟩, bl.out⟩

end Go.Proofs.Ytilngncjbikkgaa
