import Derived.Test.YtegkkoggfjgkbaaCm
import Derived.Test.YtegkkoggfjgkbaaSm
import Derived.Test.YtegkkoggfjgkbaaRf
import Derived.Deep.RegionLaw
namespace Go.Proofs.Ytegkkoggfjgkbaa.Wi
open Go.RowKit
set_option linter.unusedVariables false

theorem Try.info22 : (Try.prog.info? 22).map (fun i => (i.zero, i.size, i.bytes)) = some (some (.slice none 0 0), 1, 24) := by kernel_rfl

set_option maxRecDepth 100000 in
theorem copy_any (a : Option Addr) (n c : Nat) (l : List Int) (w : World) (h : Hs w a n c l) (hm : n ≤ 140737488355328) :
    Calls Try.prog 16 #[.slice a n c] w fun e w' => ∃ v', e = .returned v' ∧ Own w.heap.size w' v' l ∧ Below w.heap.size w w' := by
  go_enter Try.func16, Try.ntmps16
  go_wp2_with (at_builtin; go_must (refine app_hs _ rfl (.const (.slice none 0 0)) (.tmp 3) rfl w.heap.size [] _ rfl a n c rfl l h (Own.nil _ _) (Nat.le_refl _) (by simpa using hm) ?_))
  intro v' w' h1 h2 h3
  have hb : Below w.heap.size w w' := (Below.refl _ _).grown h3 (Nat.le_refl _) (fun k hk => by cases hk)
  go_wp2
  go_ret
  exact ⟨v', rfl, h1, hb⟩

/-- 'append' of one slice of bytes to no such slices. -/
theorem run_first (w : World) (ty : TypeId) (ad : Addr) (u : Value) (hu : u.oneCell' = true) (hc : w.cell? ad = some u) :
    ∃ g c w', (Builtin.append_ #[24, 24] ty #[.slice none 0 0, .slice (some ad) 1 1]).run Try.prog w = .ok (.slice (some ⟨g, 0, none⟩) 1 c) w' ∧ w'.cell? ⟨g, 0, none⟩ = some u ∧ w.heap.size ≤ g ∧ g < w'.heap.size ∧ 1 ≤ c ∧ Below w.heap.size w w' := by
  obtain ⟨i0, hi, hz0, hz1, hz2⟩ := info_parts Try.info22
  obtain ⟨v', w', h1, h2, h3, h4⟩ := run_append_own (P := Try.prog) w w.heap.size 24 ty 22 i0 (.slice none 0 0) 1 24 Try.underlying24 hi hz0 hz1 hz2 rfl (by decide) (.slice none 0 0) 0 [] (World.ownsRow_nil w w.heap.size 22 1) ad 1 1 [u] rfl (by
    intro j y hy
    have hj : j = 0 := by
      have := (List.getElem?_eq_some_iff.1 hy).1
      simp at this
      omega
    subst hj
    simp at hy
    subst hy
    obtain ⟨b, o, s⟩ := ad
    exact hc) (by intro y hy; simp at hy; rw [hy]; exact hu) (by unfold maxLen; omega) (by omega) (Nat.le_refl _)
  have hb : Below w.heap.size w w' := (Below.refl _ _).grown h3 (Nat.le_refl _) (fun k hk => by cases hk)
  have hl := World.ownsRow.lt h2
  rcases h2.2 with ⟨_, e⟩ | ⟨g, c, cur, rfl, r1, r2, r3, r4, r5, r6⟩
  · cases e
  · refine ⟨g, c, w', h1, ?_, r1, (hl g rfl).2, r3, hb⟩
    have := World.ownsRow.cells h2 (g := g) rfl 0 u rfl
    exact this
theorem first_one (w : World) {ops : Array Oper} {rest : List Oper} {o : Oper} {a : Act} {Q : Exit → Act → World → Prop} (hgd : o.guard = none) (s x : Operand)
    (ho : o.op = .call { callee := .builtin .append, args := #[s, x], argTypes := #[24, 24] }) (hs : a.eval s = .slice none 0 0) (ad : Addr) (hx : a.eval x = .slice (some ad) 1 1) (u : Value) (hu : u.oneCell' = true) (hc : w.cell? ad = some u)
    (h : ∀ g c w', w'.cell? ⟨g, 0, none⟩ = some u → w.heap.size ≤ g → g < w'.heap.size → 1 ≤ c → Below w.heap.size w w' → wpList Try.prog ops Q rest (a.put o.dst (.slice (some ⟨g, 0, none⟩) 1 c)) w') : wpList Try.prog ops Q (o :: rest) a w := by
  refine wpList_plain hgd fun K hK => ?_
  obtain ⟨g, c, w', hr, h2, h3, h4, h5, h6⟩ := run_first w o.type ad u hu hc
  unfold Oper.wp execOp
  simp only [ho, resolve, invoke, builtin, Sem.run_bind, Sem.run_pure, Result.andThen_ok, List.map_toArray, List.map_cons, List.map_nil, hs, hx, hr]
  exact hK _ _ (h g c w' h2 h3 h4 h5 h6)
theorem step_first {ops : Array Oper} {o : Oper} {a : Act} {w : World} {K : Act → World → Prop} {Q : Exit → Act → World → Prop} {E : Prop} (hg : o.guard = none) (s x : Operand)
    (ho : o.op = .call { callee := .builtin .append, args := #[s, x], argTypes := #[24, 24] }) (hs : a.eval s = .slice none 0 0) (ad : Addr) (hx : a.eval x = .slice (some ad) 1 1) (u : Value) (hu : u.oneCell' = true) (hc : w.cell? ad = some u)
    (h : ∀ g c w', w'.cell? ⟨g, 0, none⟩ = some u → w.heap.size ≤ g → g < w'.heap.size → 1 ≤ c → Below w.heap.size w w' → K (a.put o.dst (.slice (some ⟨g, 0, none⟩) 1 c)) w') :
    if Region.wanted o (yielded ops a.tmps) = true then Oper.wp Try.prog o a w K Q else E := by
  have hw : Region.wanted o (yielded ops a.tmps) = true := by simp [Region.wanted, hg]
  rw [if_pos hw]
  obtain ⟨g, c, w', hr, h2, h3, h4, h5, h6⟩ := run_first w o.type ad u hu hc
  unfold Oper.wp execOp
  simp only [ho, resolve, invoke, builtin, Sem.run_bind, Sem.run_pure, Result.andThen_ok, List.map_toArray, List.map_cons, List.map_nil, hs, hx, hr]
  exact h g c w' h2 h3 h4 h5 h6

theorem Own.ne_nil {B : Nat} {w : World} {v : Value} {l : List Int} (h : Own B w v l) (hl : 0 < l.length) : v ≠ .slice none 0 0 := by
  rintro rfl
  rcases h.2 with ⟨_, h2⟩ | ⟨_, _, _, h2, _⟩
  · omega
  · cases h2
theorem Row.far' {w : World} {g : Nat} {l : List Int} (h : Row w ⟨g, 0, none⟩ l) {p : Addr} (hp : p.block ≠ g) (u : Value) : Row (w.setCell p u) ⟨g, 0, none⟩ l := by
  intro i hi
  have h1 := h i hi
  rw [Addr.add_lit] at h1 ⊢
  rw [World.cell?_of_block (w := w) (Below.heap_setCell w p u g (fun e => hp e.symm))]
  exact h1
theorem Hs.far' {w : World} {g n c : Nat} {l : List Int} (h : Hs w (some ⟨g, 0, none⟩) n c l) {p : Addr} (hp : p.block ≠ g) (u : Value) : Hs (w.setCell p u) (some ⟨g, 0, none⟩) n c l :=
  ⟨h.len, h.cap, fun x hx => by (cases hx; exact (h.row _ rfl).far' hp u), fun hx => by (cases hx), h.byte⟩
theorem Own.hs' {B : Nat} {w : World} {g n c : Nat} {l : List Int} (h : Own B w (.slice (some ⟨g, 0, none⟩) n c) l) (hn : l.length = n) (hb : ∀ z ∈ l, 0 ≤ z ∧ z < 256) : Hs w (some ⟨g, 0, none⟩) n c l :=
  ⟨hn, h.cap, fun x hx => by (cases hx; exact h.row), fun hx => by (cases hx), hb⟩
theorem Own.capmax {B : Nat} {w : World} {g n c : Nat} {l : List Int} (h : Own B w (.slice (some ⟨g, 0, none⟩) n c) l) : c ≤ maxLen := by
  rcases h.2 with ⟨h1, _⟩ | ⟨g, c, _, h1, _, _, _, h3, _⟩
  · cases h1
  · cases h1; exact h3
/-- A call of CopyBytes, in a region that draws its order. -/
theorem step_copy {ops : Array Oper} {o : Oper} {a : Act} {w : World} {K : Act → World → Prop} {Q : Exit → Act → World → Prop} {E : Prop} (hg : o.guard = none) (x : Operand)
    (ho : o.op = .call { callee := .value (.func 16), args := #[x], argTypes := #[22] }) (ad : Option Addr) (n c : Nat) (hx : a.eval x = .slice ad n c) (l : List Int) (h : Hs w ad n c l) (hm : n ≤ 140737488355328)
    (hK : ∀ v' w', Own w.heap.size w' v' l → Below w.heap.size w w' → K (a.put o.dst v') w') :
    if Region.wanted o (yielded ops a.tmps) = true then Oper.wp Try.prog o a w K Q else E := by
  have hw : Region.wanted o (yielded ops a.tmps) = true := by simp [Region.wanted, hg]
  rw [if_pos hw]
  have hr : (execOp a.eval o).run Try.prog w = .ok (.enter 16 #[.slice ad n c]) w := by
    unfold execOp
    simp only [ho, resolve, invoke, Sem.run_bind, List.map_toArray, List.map_cons, List.map_nil, hx]
    rfl
  unfold Oper.wp
  rw [hr, Oper.upon_enter]
  refine (copy_any ad n c l w h hm).mono ?_
  rintro e w' ⟨v', rfl, h1, h2⟩
  exact hK v' w' h1 h2
/-- A Given at block b with one list in it. -/
structure GOne (w : World) (b : Nat) (l : List Int) : Prop where
  lt : b < w.heap.size
  bytes : ∃ r c a n k, w.cell? ⟨b, 0, none⟩ = some (.slice (some ⟨r, 0, none⟩) 1 c) ∧ 1 ≤ c ∧ w.cell? ⟨r, 0, none⟩ = some (.slice a n k) ∧ Hs w a n k l
  was : ∃ r c a n k, w.cell? ⟨b, 1, none⟩ = some (.slice (some ⟨r, 0, none⟩) 1 c) ∧ 1 ≤ c ∧ w.cell? ⟨r, 0, none⟩ = some (.slice a n k) ∧ Hs w a n k l
  draws : w.cell? ⟨b, 2, none⟩ = some (.slice none 0 0)
  entries : w.cell? ⟨b, 4, none⟩ = some (.slice none 0 0)
  ints : w.cell? ⟨b, 6, none⟩ = some (.slice none 0 0)
  states : w.cell? ⟨b, 8, none⟩ = some (.slice none 0 0)
theorem GOne.later {w w' : World} {b : Nat} {l : List Int} (h : GOne w b l) (hb : Below w.heap.size w w') : GOne w' b l := by
  obtain ⟨r, c, a, n, k, e1, e2, e3, e4⟩ := h.bytes
  obtain ⟨r', c', a', n', k', e1', e2', e3', e4'⟩ := h.was
  exact ⟨Nat.lt_of_lt_of_le h.lt hb.size, ⟨r, c, a, n, k, cell_later hb e1, e2, cell_later hb e3, e4.later hb⟩, ⟨r', c', a', n', k', cell_later hb e1', e2', cell_later hb e3', e4'.later hb⟩, cell_later hb h.draws, cell_later hb h.entries, cell_later hb h.ints, cell_later hb h.states⟩

set_option maxRecDepth 100000 in
set_option maxHeartbeats 1000000 in
theorem given_new (b : Nat) (a : Option Addr) (n c : Nat) (l : List Int) (w : World) (hb : b < w.heap.size) (c0 : w.cell? ⟨b, 0, none⟩ = some (.slice none 0 0)) (c1 : w.cell? ⟨b, 1, none⟩ = some (.slice none 0 0)) (c2 : w.cell? ⟨b, 2, none⟩ = some (.slice none 0 0)) (c4 : w.cell? ⟨b, 4, none⟩ = some (.slice none 0 0)) (c6 : w.cell? ⟨b, 6, none⟩ = some (.slice none 0 0)) (c8 : w.cell? ⟨b, 8, none⟩ = some (.slice none 0 0))
    (f0 : w.frozen? ⟨b, 0, none⟩ = false) (f1 : w.frozen? ⟨b, 1, none⟩ = false) (h : Hs w a n c l) (hm : n ≤ 140737488351232) :
    Calls Try.prog 5 #[.pointer (some ⟨b, 0, none⟩), .slice a n c] w fun e w' => ∃ a' c', e = .returned (.slice a' n c') ∧ Hs w' a' n c' l ∧ c' ≤ maxLen ∧ GOne w' b (l ++ [90]) ∧ Below b w w' := by
  have hby := h.byte
  have HLN := hide h.len
  go_enter Try.func5, Try.ntmps5
  go_wp2_with fail
  refine (copy_any a n c l w h (by omega)).mono ?_
  rintro e w1 ⟨v1, rfl, o1, b1⟩
  have z1 := b1.size
  go_wp2_with (at_builtin; go_must (refine app_one _ rfl (.tmp 7) (.tmp 8) rfl w.heap.size l v1 rfl ⟨w1.heap.size, 0, none⟩ rfl 90 (by simp) (o1.alloc _) (by simp; omega) (by rw [HLN.out]; omega) ?_))
  intro v2 w2 o2 n2 g2
  have b2 : Below w.heap.size w w2 := (o1.alloc _).grown (b1.alloc z1 _) g2 (by simp; omega)
  have z2 := b2.size
  obtain ⟨g, k, hv, hg1, hg2⟩ := o2.shape n2
  have hln : (l ++ [90]).length = n + 1 := by simp [HLN.out]
  rw [hln] at hv
  subst hv
  have HLN2 := hide hln
  clear o1 b1 g2 hln n2
  have d0 := cell_later b2 c0
  have d1 := cell_later b2 c1
  have d2 := cell_later b2 c2
  have d4 := cell_later b2 c4
  have d6 := cell_later b2 c6
  have d8 := cell_later b2 c8
  have e0 := (b2.frozen (p := ⟨b, 0, none⟩) hb).trans f0
  have e1 := (b2.frozen (p := ⟨b, 1, none⟩) hb).trans f1
  have hb2 : b < w2.heap.size := by omega
  clear c0 c1 c2 c4 c6 c8 f0 f1
  go_wp2_with (at_builtin; go_must (refine first_one _ rfl (.tmp 14) (.tmp 16) rfl rfl ⟨w2.heap.size, 0, none⟩ rfl (.slice (some ⟨g, 0, none⟩) (n + 1) k) rfl (by simp) ?_))
  intro r3 k3 w3 h3 h4 h5 h6 b3'
  have b3 : Below w2.heap.size w2 w3 := ((Below.refl _ _).alloc (Nat.le_refl _) _).trans (b3'.mono (by simp))
  have h4' : w2.heap.size < r3 := by omega
  have z3 := b3.size
  have o3 : Own w.heap.size w3 (.slice (some ⟨g, 0, none⟩) (n + 1) k) (l ++ [90]) := o2.kept b3
  have d0 := cell_later b3 d0
  have d1 := cell_later b3 d1
  have d2 := cell_later b3 d2
  have d4 := cell_later b3 d4
  have d6 := cell_later b3 d6
  have d8 := cell_later b3 d8
  have e0 := (b3.frozen (p := ⟨b, 0, none⟩) hb2).trans e0
  have e1 := (b3.frozen (p := ⟨b, 1, none⟩) hb2).trans e1
  have hb3 : b < w3.heap.size := by omega
  have bw3 : Below b w w3 := (b2.mono (by omega)).trans (b3.mono (by omega))
  clear b3' b3 o2 h4 b2
  have hgb : g ≠ b := by omega
  have hrb : r3 ≠ b := by omega
  have hby2 : ∀ z ∈ l ++ [90], 0 ≤ z ∧ z < 256 := by
    intro z hz
    rcases List.mem_append.1 hz with hz | hz
    · exact hby z hz
    · simp at hz; omega
  have hx3 := o3.hs' HLN2.out hby2
  have hcm := o3.capmax
  have hcp := o3.cap
  go_wp2_with fail
  have hx4 : Hs (w3.setCell ⟨b, 0, none⟩ (.slice (some ⟨r3, 0, none⟩) 1 k3)) (some ⟨g, 0, none⟩) (n + 1) k (l ++ [90]) := hx3.far' (by show b ≠ g; exact fun e => hgb e.symm) _
  have bw4 : Below b w (w3.setCell ⟨b, 0, none⟩ (.slice (some ⟨r3, 0, none⟩) 1 k3)) := bw3.setCell (Nat.le_refl _) _
  have j0 : (w3.setCell ⟨b, 0, none⟩ (.slice (some ⟨r3, 0, none⟩) 1 k3)).cell? ⟨b, 0, none⟩ = some (.slice (some ⟨r3, 0, none⟩) 1 k3) := by go_simp
  have j1 : (w3.setCell ⟨b, 0, none⟩ (.slice (some ⟨r3, 0, none⟩) 1 k3)).cell? ⟨b, 1, none⟩ = some (.slice none 0 0) := by go_simp
  have j2 : (w3.setCell ⟨b, 0, none⟩ (.slice (some ⟨r3, 0, none⟩) 1 k3)).cell? ⟨b, 2, none⟩ = some (.slice none 0 0) := by go_simp
  have j4 : (w3.setCell ⟨b, 0, none⟩ (.slice (some ⟨r3, 0, none⟩) 1 k3)).cell? ⟨b, 4, none⟩ = some (.slice none 0 0) := by go_simp
  have j6 : (w3.setCell ⟨b, 0, none⟩ (.slice (some ⟨r3, 0, none⟩) 1 k3)).cell? ⟨b, 6, none⟩ = some (.slice none 0 0) := by go_simp
  have j8 : (w3.setCell ⟨b, 0, none⟩ (.slice (some ⟨r3, 0, none⟩) 1 k3)).cell? ⟨b, 8, none⟩ = some (.slice none 0 0) := by go_simp
  have jr : (w3.setCell ⟨b, 0, none⟩ (.slice (some ⟨r3, 0, none⟩) 1 k3)).cell? ⟨r3, 0, none⟩ = some (.slice (some ⟨g, 0, none⟩) (n + 1) k) := by rw [World.cell?_of_block (w := w3) (Below.heap_setCell w3 _ _ r3 hrb)]; exact h3
  have jf : (w3.setCell ⟨b, 0, none⟩ (.slice (some ⟨r3, 0, none⟩) 1 k3)).frozen? ⟨b, 1, none⟩ = false := by go_simp
  have jz : b < (w3.setCell ⟨b, 0, none⟩ (.slice (some ⟨r3, 0, none⟩) 1 k3)).heap.size := by simpa using hb3
  have jr2 : r3 < (w3.setCell ⟨b, 0, none⟩ (.slice (some ⟨r3, 0, none⟩) 1 k3)).heap.size := by simpa using h5
  have jg2 : g < (w3.setCell ⟨b, 0, none⟩ (.slice (some ⟨r3, 0, none⟩) 1 k3)).heap.size := by simp; omega
  clear d0 d1 d2 d4 d6 d8 e0 e1 o3 hx3 bw3 h3 hb3
  generalize w3.setCell ⟨b, 0, none⟩ (.slice (some ⟨r3, 0, none⟩) 1 k3) = W at *
  go_region_law (first | (refine step_first rfl (.tmp 24) (.tmp 27) rfl rfl ⟨_, 0, none⟩ rfl _ rfl (by simp; rfl) ?_; intro r5 k6 w6 m1 m2 m3 m4 m5; have bz5 := b5.size; have bW : Below W.heap.size W w6 := (((Below.refl W.heap.size W).drew.trans (b5.mono (by simp))).alloc (by simpa using bz5) _).trans (m5.mono (by simp at bz5 ⊢; omega)); have q1 := cell_later bW j1; have qf := (bW.frozen (p := ⟨b, 1, none⟩) jz).trans jf) | (refine step_copy rfl (.tmp 25) rfl (some ⟨g, 0, none⟩) (n + 1) k rfl (l ++ [90]) (hx4.later ((Below.refl _ _).drew)) (by omega) ?_; intro v5 w5 o5 b5; have s1 : w5.cell? ⟨b, 1, none⟩ = some (.slice none 0 0) := cell_later b5 (by exact j1); have hz5 : b < w5.heap.size := Nat.lt_of_lt_of_le jz b5.size; have s2 : ∀ x, (w5.alloc x).cell? ⟨b, 1, none⟩ = some (.slice none 0 0) := (fun x => cell_later ((Below.refl _ _).alloc (Nat.le_refl _) x) s1); obtain ⟨g5, k5, hv5, hg5, hg6⟩ := o5.shape (o5.ne_nil (by simp)); subst hv5))
  all_goals go_wp2_with fail
  all_goals
    go_ret
    have hll : (l ++ [90]).length = l.length + 1 := by simp
    rw [hll] at o5
    have b56 : Below w5.heap.size w5 w6 := ((Below.refl _ _).alloc (Nat.le_refl _) _).trans (m5.mono (by simp))
    have o6 := (o5.kept b56).hs' hll hby2
    have q0 := cell_later bW j0
    have q2 := cell_later bW j2
    have q4 := cell_later bW j4
    have q6 := cell_later bW j6
    have q8 := cell_later bW j8
    have qr := cell_later bW jr
    have x6 := hx4.later bW
    have hr5 : r5 ≠ b := by simp at m2; omega
    have hg5b : g5 ≠ b := by simp at hg5; omega
    have hW6 := bW.size
    have x7 := x6.far' (p := ⟨b, 1, none⟩) (by show b ≠ g; exact fun e => hgb e.symm) (.slice (some ⟨r5, 0, none⟩) 1 k6)
    have o7 := o6.far' (p := ⟨b, 1, none⟩) (by show b ≠ g5; exact fun e => hg5b e.symm) (.slice (some ⟨r5, 0, none⟩) 1 k6)
    have x8 := x7.cut n (by omega)
    have htk : List.take n (l ++ [90]) = l := by rw [← HLN.out]; simp
    rw [htk] at x8
    have bw6 : Below b w w6 := bw4.trans (bW.mono (Nat.le_of_lt jz))
    have t0 : (w6.setCell ⟨b, 1, none⟩ (.slice (some ⟨r5, 0, none⟩) 1 k6)).cell? ⟨b, 0, none⟩ = some (.slice (some ⟨r3, 0, none⟩) 1 k3) := by go_simp
    have t1 : (w6.setCell ⟨b, 1, none⟩ (.slice (some ⟨r5, 0, none⟩) 1 k6)).cell? ⟨b, 1, none⟩ = some (.slice (some ⟨r5, 0, none⟩) 1 k6) := by go_simp
    have t2 : (w6.setCell ⟨b, 1, none⟩ (.slice (some ⟨r5, 0, none⟩) 1 k6)).cell? ⟨b, 2, none⟩ = some (.slice none 0 0) := by go_simp
    have t4 : (w6.setCell ⟨b, 1, none⟩ (.slice (some ⟨r5, 0, none⟩) 1 k6)).cell? ⟨b, 4, none⟩ = some (.slice none 0 0) := by go_simp
    have t6 : (w6.setCell ⟨b, 1, none⟩ (.slice (some ⟨r5, 0, none⟩) 1 k6)).cell? ⟨b, 6, none⟩ = some (.slice none 0 0) := by go_simp
    have t8 : (w6.setCell ⟨b, 1, none⟩ (.slice (some ⟨r5, 0, none⟩) 1 k6)).cell? ⟨b, 8, none⟩ = some (.slice none 0 0) := by go_simp
    have tr : (w6.setCell ⟨b, 1, none⟩ (.slice (some ⟨r5, 0, none⟩) 1 k6)).cell? ⟨r3, 0, none⟩ = some (.slice (some ⟨g, 0, none⟩) (n + 1) k) := by rw [World.cell?_of_block (w := w6) (Below.heap_setCell w6 _ _ r3 hrb)]; exact qr
    have tq : (w6.setCell ⟨b, 1, none⟩ (.slice (some ⟨r5, 0, none⟩) 1 k6)).cell? ⟨r5, 0, none⟩ = some (.slice (some ⟨g5, 0, none⟩) (l.length + 1) k5) := by rw [World.cell?_of_block (w := w6) (Below.heap_setCell w6 _ _ r5 hr5)]; exact m1
    exact ⟨_, _, rfl, x8, hcm, ⟨by simp; omega, ⟨_, _, _, _, _, t0, h6, tr, x7⟩, ⟨_, _, _, _, _, t1, m4, tq, o7⟩, t2, t4, t6, t8⟩, bw6.setCell (Nat.le_refl _) _⟩
#print axioms given_new

end Go.Proofs.Ytegkkoggfjgkbaa.Wi
