import Derived.Test.YtilngncjbikkgaaRo1
import Derived.Deep.RegionLaw
import Derived.Maps.AppendAt
namespace Go.Proofs.Ytilngncjbikkgaa
open Go.RowKit
set_option linter.unusedVariables false

/-- The draws since the last wipe, at one reading. -/
def dl (rd : Int) (N : Nat) : List (Int × Int) := (List.range N).map fun (i : Nat) => (rd, (i : Int) + 1)
theorem dl_length (rd : Int) (N : Nat) : (dl rd N).length = N := by simp [dl]
theorem dl_get (rd : Int) (N i : Nat) (h : i < N) : (dl rd N)[i]? = some (rd, (i : Int) + 1) := by simp [dl, h]
theorem dl_next (rd : Int) (N : Nat) : dl rd N ++ [(rd, (N : Int) + 1)] = dl rd (N + 1) := by simp [dl, List.range_succ]
theorem OwnD.upd2 {B : Nat} {S : Nat → Prop} {w w' : World} {v : Value} {l : List (Int × Int)} (h : OwnD B w v l) (u : Upd S w w') (hs : ∀ k, v.ownBlock = some k → ¬ S k) : OwnD B w' v l := by
  have hlt := World.ownsRow.lt h
  obtain ⟨h1, h2⟩ := h
  refine ⟨h1, ?_⟩
  rcases h2 with h2 | ⟨g, cap, cur, e1, e2, e3, r⟩
  · exact .inl h2
  · refine .inr ⟨g, cap, cur, e1, e2, ?_, r⟩
    rw [u.block g (hlt g (by rw [e1]; rfl)).2 (hs g (by rw [e1]; rfl))]
    exact e3
/-- The document's Pairs at a place of block p. -/
structure QPrs (B : Nat) (w : World) (p po c co : Nat) (K : Nat → Prop) (f : Nat → Value) (rd : Int) (N : Nat) (v : Value) : Prop where
  lt : p < w.heap.size
  c0 : w.cell? ⟨p, po, none⟩ = some (.pointer (some ⟨c, co, none⟩))
  c1 : w.cell? ⟨p, po + 1, none⟩ = some v
  f1 : w.frozen? ⟨p, po + 1, none⟩ = false
  own : OwnD B w v (dl rd N)
  pB : p < B
  ne : c ≠ p
  m1 : N ≤ 65535
  kn : ¬ K (po + 1)
  kp : ∀ i, K i → w.cell? ⟨p, i, none⟩ = some (f i) ∧ w.frozen? ⟨p, i, none⟩ = false
theorem QPrs.upd {S : Nat → Prop} {B : Nat} {w w' : World} {p po c co : Nat} {K : Nat → Prop} {f : Nat → Value} {rd : Int} {N : Nat} {v : Value} (h : QPrs B w p po c co K f rd N v) (u : Upd S w w') (hs : ¬ S p) (hb : ∀ k, v.ownBlock = some k → ¬ S k) : QPrs B w' p po c co K f rd N v :=
  ⟨Nat.lt_of_lt_of_le h.lt u.size, (u.cell h.lt hs).trans h.c0, (u.cell h.lt hs).trans h.c1, (u.frozen h.lt hs).trans h.f1, h.own.upd2 u hb, h.pB, h.ne, h.m1, h.kn, fun i hi => ⟨(u.cell (p := ⟨p, i, none⟩) h.lt hs).trans (h.kp i hi).1, (u.frozen (p := ⟨p, i, none⟩) h.lt hs).trans (h.kp i hi).2⟩⟩
theorem qwipe_any (B p po c co : Nat) (K : Nat → Prop) (f : Nat → Value) (rd : Int) (N : Nat) (v : Value) (w : World) (h : QPrs B w p po c co K f rd N v) :
    Calls Try.prog 31 #[.pointer (some ⟨p, po, none⟩)] w fun e w' => e = .returned (.tuple #[]) ∧ QPrs B w' p po c co K f 0 0 (.slice none 0 0) ∧ Upd (· = p) w w' := by
  obtain ⟨hlt, p0, p1, pf, ow, pB, hne, m1, kn, kp⟩ := h
  go_enter Try.func31, Try.ntmps31
  go_wp2
  go_end0
  refine ⟨rfl, ⟨?_, ?_, ?_, ?_, OwnD.nil _ _, pB, hne, by omega, kn, fun i hi => ⟨sc_ne (kp i hi).1 (fun e => kn (e ▸ hi)), sc_fr (kp i hi).2⟩⟩, (Upd.refl (· = p) w).setCell (.inl rfl) _⟩
  all_goals go_simp

theorem run_draw (w : World) (ty : TypeId) (B : Nat) (l : List (Int × Int)) (v : Value) (hown : OwnD B w v l) (ad : Addr) (h l' : Int) (hc : w.cell? ad = some (.int .u64 h)) (hc1 : w.cell? (ad.add 1) = some (.int .u64 l')) (hB : B ≤ w.heap.size) (hb : (l.length + 1) * 16 ≤ 140737488355328) :
    ∃ v' w', (Builtin.append_ #[45, 45] ty #[v, .slice (some ad) 1 1]).run Try.prog w = .ok v' w' ∧ OwnD B w' v' (l ++ [(h, l')]) ∧ w.grownBy w' v.ownBlock ∧ (v'.ownBlock = v.ownBlock ∨ v'.ownBlock = some w.heap.size) := by
  obtain ⟨i0, hi, hz0, hz1, hz2⟩ := info_parts info_draw
  obtain ⟨v', w', hr, h2, h3, h4, h5⟩ := run_append_own_at (P := Try.prog) w B 45 ty 58 i0 (.agg #[.int .u64 0, .int .u64 0]) 2 16 Try.underlying45 hi hz0 hz1 hz2 rfl (by decide) v l.length (dcs l) hown ad 1 1 [.int .u64 h, .int .u64 l'] rfl (by
    intro j y hy
    match j, hy with
    | 0, hy => simp at hy; subst hy; obtain ⟨b, o, s⟩ := ad; exact hc
    | 1, hy => simp at hy; subst hy; exact hc1
    | j + 2, hy => simp at hy) (by intro y hy; simp at hy; rcases hy with rfl | rfl <;> rfl) (by unfold maxLen; omega) hb hB
  refine ⟨v', w', hr, ?_, h3, h5⟩
  have : dcs (l ++ [(h, l')]) = dcs l ++ [.int .u64 h, .int .u64 l'] := by rw [dcs_append]; rfl
  unfold OwnD
  rw [this, List.length_append]
  exact h2
theorem step_draw {ops : Array Oper} {o : Oper} {a : Act} {w : World} {K : Act → World → Prop} {Q : Exit → Act → World → Prop} {E : Prop} (hg : o.guard = none) (s x : Operand)
    (ho : o.op = .call { callee := .builtin .append, args := #[s, x], argTypes := #[45, 45] }) (B : Nat) (l : List (Int × Int)) (v : Value) (hs : a.eval s = v) (ad : Addr) (hx : a.eval x = .slice (some ad) 1 1) (h l' : Int)
    (hc : w.cell? ad = some (.int .u64 h)) (hc1 : w.cell? (ad.add 1) = some (.int .u64 l')) (hown : OwnD B w v l) (hB : B ≤ w.heap.size) (hb : (l.length + 1) * 16 ≤ 140737488355328)
    (hk : ∀ v' w', OwnD B w' v' (l ++ [(h, l')]) → w.grownBy w' v.ownBlock → (v'.ownBlock = v.ownBlock ∨ v'.ownBlock = some w.heap.size) → K (a.put o.dst v') w') :
    if Region.wanted o (yielded ops a.tmps) = true then Oper.wp Try.prog o a w K Q else E := by
  have hw : Region.wanted o (yielded ops a.tmps) = true := by simp [Region.wanted, hg]
  rw [if_pos hw]
  obtain ⟨v', w', hr, h2, h3, h4⟩ := run_draw w o.type B l v hown ad h l' hc hc1 hB hb
  unfold Oper.wp execOp
  simp only [ho, resolve, invoke, builtin, Sem.run_bind, Sem.run_pure, Result.andThen_ok, List.map_toArray, List.map_cons, List.map_nil, hs, hx, hr]
  exact hk v' w' h2 h3 h4
theorem upd_one' (w : World) (b k : Nat) (u : Value) : Upd (· = b) w (w.setCell ⟨b, k, none⟩ u) := (Upd.refl (· = b) w).setCell (.inl rfl) u
/-- The Pairs behind its append and the stores into the answer. -/
theorem QPrs.done {B : Nat} {w : World} {p po c co r N : Nat} {K : Nat → Prop} {f : Nat → Value} {rd : Int} {v' x y : Value} {o : Value} (lt : p < w.heap.size) (c0 : w.cell? ⟨p, po, none⟩ = some (.pointer (some ⟨c, co, none⟩))) (c1 : w.cell? ⟨p, po + 1, none⟩ = some o) (f1 : w.frozen? ⟨p, po + 1, none⟩ = false) (own : OwnD B w v' (dl rd N)) (pB : p < B) (ne : c ≠ p) (m1 : N ≤ 65535) (kn : ¬ K (po + 1)) (kp : ∀ i, K i → w.cell? ⟨p, i, none⟩ = some (f i) ∧ w.frozen? ⟨p, i, none⟩ = false) (hr : ¬ p = r) (ho : ∀ k, v'.ownBlock = some k → k ≠ r) :
    QPrs B (((w.setCell ⟨p, po + 1, none⟩ v').setCell ⟨r, 0, none⟩ x).setCell ⟨r, 1, none⟩ y) p po c co K f rd N v' := by
  have h1 : QPrs B (w.setCell ⟨p, po + 1, none⟩ v') p po c co K f rd N v' := by
    refine ⟨by simpa [World.setCell] using lt, by go_simp, by go_simp, by go_simp, own.upd2 (upd_one' _ _ _ _) (fun k hk e => ?_), pB, ne, m1, kn, fun i hi => ⟨sc_ne (kp i hi).1 (fun e => kn (e ▸ hi)), sc_fr (kp i hi).2⟩⟩
    have := (World.ownsRow.lt own k hk).1
    omega
  have hu : ∀ {w1 : World} (j : Nat) (z : Value), QPrs B w1 p po c co K f rd N v' → QPrs B (w1.setCell ⟨r, j, none⟩ z) p po c co K f rd N v' := fun {w1} j z h =>
    ⟨Nat.lt_of_lt_of_le h.lt (upd_one' w1 r j z).size, ((upd_one' w1 r j z).cell (p := ⟨p, po, none⟩) h.lt hr).trans h.c0, ((upd_one' w1 r j z).cell (p := ⟨p, po + 1, none⟩) h.lt hr).trans h.c1, ((upd_one' w1 r j z).frozen (p := ⟨p, po + 1, none⟩) h.lt hr).trans h.f1, h.own.upd2 (upd_one' w1 r j z) ho, h.pB, h.ne, h.m1, h.kn, fun i hi => ⟨((upd_one' w1 r j z).cell (p := ⟨p, i, none⟩) h.lt hr).trans (h.kp i hi).1, ((upd_one' w1 r j z).frozen (p := ⟨p, i, none⟩) h.lt hr).trans (h.kp i hi).2⟩⟩
  exact hu 1 y (hu 0 x h1)
theorem Duo0 (w : World) (a b : Value) (t : TypeId) : (w.alloc (.cells #[a, b] t)).cell? ⟨w.heap.size, 0, none⟩ = some a := by simp
theorem Duo1 (w : World) (a b : Value) (t : TypeId) : (w.alloc (.cells #[a, b] t)).cell? ⟨w.heap.size, 1, none⟩ = some b := by simp
theorem Upd.drew' {S : Nat → Prop} {a w : World} (h : Upd S a w) : Upd S a w.drew := ⟨h.os, h.tape, h.output, h.size, h.block⟩
theorem draw_upd {w w' : World} {C : Obj} {v : Value} (hg : (w.drew.alloc C).grownBy w' v.ownBlock) : Upd (fun k => v.ownBlock = some k) w w' :=
  ⟨hg.os, hg.tape, hg.output, by have := hg.size; simp at this; omega, fun k hk hs => (hg.block k (by simp; omega) (fun e => hs e.symm)).trans (Below.heap_alloc _ _ _ hk)⟩

set_option maxRecDepth 100000 in
set_option maxHeartbeats 800000 in
/-- The document's Pairs, at the reading of its last draw. -/
theorem qdraw_more (B p po c co : Nat) (K : Nat → Prop) (f : Nat → Value) (R rd : Int) (N : Nat) (v : Value) (w : World) (h : QPrs B w p po c co K f rd N v) (hc : QClk w c co R) (hr : rd = R) (hN : N < 65535) (hN0 : 0 < N) (hB : B ≤ w.heap.size) :
    Calls Try.prog 32 #[.pointer (some ⟨p, po, none⟩)] w fun e w' => e = .returned (.tuple #[.agg #[.int .u64 R, .int .u64 ((N : Int) + 1)], .int .i64 0]) ∧ ∃ v', QPrs B w' p po c co K f R (N + 1) v' ∧ (v'.ownBlock = v.ownBlock ∨ ∃ k, v'.ownBlock = some k ∧ w.heap.size ≤ k) ∧ Upd (fun k => k = p ∨ v.ownBlock = some k) w w' := by
  obtain ⟨va, vc, rfl, hvc, hvm, hvn, hvx⟩ := h.own.form
  rw [dl_length] at hvc
  have U0 : ∀ o, Upd (fun _ => False) w (w.alloc o) := fun o => (Upd.refl _ w).alloc o
  have x0 := fun o => (h.upd (U0 o) id (fun _ _ => id)).c0
  have x1 := fun o => (h.upd (U0 o) id (fun _ _ => id)).c1
  have k0 := fun o => (hc.upd (U0 o) id).c0
  rw [dl_length] at x1
  cases va with
  | none => have := (hvn rfl).1; have h2 := dl_length rd N; rw [this] at h2; simp at h2; omega
  | some z =>
    obtain ⟨g, rfl, hgB, hgl⟩ := hvx z rfl
    have ho := h.own
    rw [dl_length] at ho
    have HC := hide (fun i hi => ho.cell i _ (dl_get rd N i hi))
    have q0 : IntKind.i64.wrap ((N : Int) - 1) = (N : Int) - 1 := by rw [IntKind.wrap_i64]; omega
    go_enter Try.func32, Try.ntmps32
    go_wp2
    go_loopw [4, 5] (fun kk i wr => ∃ j m : Nat, kk = .int .i64 (j : Int) ∧ ((∃ n' : Nat, n' + j + 1 = N ∧ i = .int .i64 (n' : Int)) ∨ (j = N ∧ i = .int .i64 (-1))) ∧ wr = (w.alloc (.cells #[.int .u64 0, .int .u64 0] 58)).drewN m) (fun kk _ _ => N - (intOf kk).toNat)
    case atStart => exact ⟨0, 0, rfl, .inl ⟨N - 1, by omega, int_eq (by omega)⟩, rfl⟩
    case round =>
      obtain ⟨j, m, rfl, hi, rfl⟩ := hrel
      rcases hi with ⟨n', hn', rfl⟩ | ⟨rfl, rfl⟩
      · obtain ⟨e0, e1⟩ := HC.out n' (by omega)
        have e2 : ∀ o, (w.alloc o).cell? ⟨g, n' * 2, none⟩ = some (.int .u64 rd) := fun o => (World.cell?_alloc_past _ _ _ hgl).trans e0
        subst hr
        have l1 : n' < N := by omega
        have l2 : (n' : Int) < (N : Int) := by omega
        have l3 : j < N := by omega
        have HNN := hide hn'
        clear hn' HC ho h
        go_wp2
        go_quiet (fail)
        go_wp2
        by_cases hz : n' = 0
        · subst hz
          go_round
          case rel => exact ⟨j + 1, _, by go_num, .inr ⟨by have := HNN.out; omega, by go_num⟩, rfl⟩
          case measure => simp [intOf]; omega
        · have hw : IntKind.i64.wrap ((n' : Int) - 1) = ((n' - 1 : Nat) : Int) := by rw [IntKind.wrap_i64]; omega
          go_round
          case rel => exact ⟨j + 1, _, by go_num, .inl ⟨n' - 1, by have := HNN.out; omega, by first | go_num | exact int_eq (by omega)⟩, rfl⟩
          case measure => simp [intOf]; omega
      · have hd1 : ((j : Int) == 65535) = false := by simp; omega
        have hd2 : ((j : Int) == 0) = false := by simp; omega
        go_wp2
        go_quiet (fail)
        go_wp2
        subst hr
        have hlo : ∀ k, (Value.slice (some ⟨g, 0, none⟩) j vc).ownBlock = some k → B ≤ k ∧ k < w.heap.size := fun k hk => by cases hk; exact ⟨hgB, hgl⟩
        have UU : Upd (fun _ => False) w (((w.alloc (.cells #[.int .u64 0, .int .u64 0] 58)).drewN (m + nq)).alloc (.cells #[.int .u64 rd, .int .u64 ((j : Int) + 1)] 58)) := ((((Upd.refl _ w).alloc _).drewN _).alloc _)
        have UV : Upd (fun _ => False) (w.alloc (.cells #[.int .u64 0, .int .u64 0] 58)) (((w.alloc (.cells #[.int .u64 0, .int .u64 0] 58)).drewN (m + nq)).alloc (.cells #[.int .u64 rd, .int .u64 ((j : Int) + 1)] 58)) := (((Upd.refl _ _).drewN _).alloc _)
        have P2 := h.upd UU id (fun _ _ => id)
        have r0 := (Dr.new w 0 0 58).upd UV id
        have q0 := (UV.frozen (p := ⟨w.heap.size, 0, none⟩) (by simp) id).trans (show (w.alloc (.cells #[.int .u64 0, .int .u64 0] 58)).frozen? ⟨w.heap.size, 0, none⟩ = false from by simp)
        have q1 := (UV.frozen (p := ⟨w.heap.size, 1, none⟩) (by simp) id).trans (show (w.alloc (.cells #[.int .u64 0, .int .u64 0] 58)).frozen? ⟨w.heap.size, 1, none⟩ = false from by simp)
        have D2 : Dr (((w.alloc (.cells #[.int .u64 0, .int .u64 0] 58)).drewN (m + nq)).alloc (.cells #[.int .u64 rd, .int .u64 ((j : Int) + 1)] 58)) (w.heap.size + 1) rd ((j : Int) + 1) := by
          have := Dr.new ((w.alloc (.cells #[.int .u64 0, .int .u64 0] 58)).drewN (m + nq)) rd ((j : Int) + 1) 58
          simpa using this
        have z2 := hide <| show w.heap.size + 2 ≤ (((w.alloc (.cells #[.int .u64 0, .int .u64 0] 58)).drewN (m + nq)).alloc (.cells #[.int .u64 rd, .int .u64 ((j : Int) + 1)] 58)).heap.size from by simp
        clear UV x0 x1 k0 U0 HC hvx hvn h ho
        generalize ((w.alloc (.cells #[.int .u64 0, .int .u64 0] 58)).drewN (m + nq)).alloc (.cells #[.int .u64 rd, .int .u64 ((j : Int) + 1)] 58) = w2 at *
        obtain ⟨ld, d0, d1⟩ := D2
        obtain ⟨lr, e0, e1⟩ := r0
        obtain ⟨t1, t2, t3, t4, t5, t6, t7, t8, t9, t10⟩ := P2
        rw [dl_length] at t3 t5
        have hp : p < w.heap.size := by omega
        have t3' : ∀ o, (w2.alloc o).cell? ⟨p, po + 1, none⟩ = some (.slice (some ⟨g, 0, none⟩) j vc) := fun o => (World.cell?_alloc_past _ _ _ t1).trans t3
        have o3 := t5.upd2 (S := fun _ => False) (Upd.refl _ w2).drew' (fun _ _ => id)
        have HLEN := dl_length rd j
        go_region_law (refine step_draw rfl (.tmp 60) (.tmp 62) rfl B (dl rd j) _ rfl ⟨w2.heap.size, 0, none⟩ rfl rd ((j : Int) + 1) (Duo0 w2.drew _ _ _) (Duo1 w2.drew _ _ _) (o3.alloc _) (by have := z2.out; simp; omega) (by rw [dl_length]; omega) ?_; intro v3 w3 o4 g4 s4; have u3 := draw_upd g4; obtain ⟨va, vc', hv3, hvc1, hvc2, _, _⟩ := o4.form; subst hv3; have k1 := (u3.cell (p := ⟨p, po + 1, none⟩) t1 (fun e => by have := (hlo p e).1; omega)).trans t3; have k2 := (u3.frozen (p := ⟨p, po + 1, none⟩) t1 (fun e => by have := (hlo p e).1; omega)).trans t4)
        all_goals
          have nq' : ¬ (Value.slice (some ⟨g, 0, none⟩) j vc).ownBlock = some (w.heap.size + 1) := fun e => by have := (hlo _ e).2; omega
          have nr' : ¬ (Value.slice (some ⟨g, 0, none⟩) j vc).ownBlock = some w.heap.size := fun e => by have := (hlo _ e).2; omega
          have x0 := (u3.cell (p := ⟨w.heap.size + 1, 0, none⟩) ld nq').trans d0
          have x1 := (u3.cell (p := ⟨w.heap.size + 1, 1, none⟩) ld nq').trans d1
          have y0 := (u3.cell (p := ⟨w.heap.size, 0, none⟩) lr nr').trans e0
          have y1 := (u3.cell (p := ⟨w.heap.size, 1, none⟩) lr nr').trans e1
          have z0 := (u3.frozen (p := ⟨w.heap.size, 0, none⟩) lr nr').trans q0
          have z1 := (u3.frozen (p := ⟨w.heap.size, 1, none⟩) lr nr').trans q1
          have c2 := (u3.cell (p := ⟨p, po, none⟩) t1 (fun e => by have := (hlo p e).1; omega)).trans t2
          have ga : ¬ w.heap.size + 1 = p := by omega
          have gb : ¬ w.heap.size = p := by omega
          have gb' : ¬ p = w.heap.size := by omega
          go_wp2
          have o5 : OwnD B w3 (.slice va (j + 1) vc') (dl rd (j + 1)) := by
            have := o4
            rw [dl_next] at this
            rw [dl_length] at this
            exact this
          have hs5 : (Value.slice va (j + 1) vc').ownBlock = (Value.slice (some ⟨g, 0, none⟩) j vc).ownBlock ∨ (Value.slice va (j + 1) vc').ownBlock = some (w2.heap.size + 1) := by
            have := s4
            rw [dl_next, dl_length] at this
            rcases this with h | h
            · exact .inl h
            · exact .inr (by rw [h]; simp)
          have hne : ∀ k, (Value.slice va (j + 1) vc').ownBlock = some k → k ≠ w.heap.size := by
            intro k hk e
            rcases hs5 with h | h
            · have := (hlo k (by rw [← h]; exact hk)).2; omega
            · rw [h] at hk; cases hk; have := z2.out; omega
          have s3 := u3.size
          refine bodyPost_ret (v := .tuple #[.agg #[.int .u64 rd, .int .u64 ((j : Int) + 1)], .int .i64 0]) (by simp [results, Try.results32, go_sem, y0, y1]) rfl ⟨rfl, .slice va (j + 1) vc', ?_, ?_, ?_⟩
          · exact QPrs.done (by omega) c2 k1 k2 o5 t6 t7 (by omega) t9 (fun i hi => ⟨(u3.cell (p := ⟨p, i, none⟩) t1 (fun e => by have := (hlo p e).1; omega)).trans (t10 i hi).1, (u3.frozen (p := ⟨p, i, none⟩) t1 (fun e => by have := (hlo p e).1; omega)).trans (t10 i hi).2⟩) gb' hne
          · rw [HLEN]
            rcases hs5 with h | h
            · exact .inl h
            · exact .inr ⟨_, h, by have := z2.out; omega⟩
          · rw [HLEN]
            refine Upd.setCell (Upd.setCell (Upd.setCell (p := ⟨p, po + 1, none⟩) ((UU.mono (fun k _ h => h.elim)).trans (u3.mono (fun k _ h => .inr h))) (.inl (.inl rfl)) _) (.inr (Nat.le_refl _)) _) (.inr (Nat.le_refl _)) _

end Go.Proofs.Ytilngncjbikkgaa
