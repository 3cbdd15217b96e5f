import Derived.Test.YtdfoafpcoigklaaKp
import Derived.Test.YtdfoafpcoigklaaKm
import Derived.Test.YtdfoafpcoigklaaGLo
namespace Go.Proofs.Ytdfoafpcoigklaa
open Go.RowKit Go.Shelf
open Classical
set_option linter.unusedVariables false
set_option linter.unusedSimpArgs false
attribute [local go_sem] Oper.semAt_some

/-- Rows of operations. -/
def yO : Lay Opn := ⟨39, 114, 3, 32, fun o => [.int .i64 o.k, .int .i64 o.s, .string o.v], ⟨0, 0, ByteArray.empty⟩⟩
theorem kO : yO.Ok := ⟨by decide, fun x => rfl, fun x u h => by
    simp [yO] at h
    rcases h with rfl | rfl | rfl <;> rfl, Try.underlying114, ⟨.agg #[.int .i64 0, .int .i64 0, .string ByteArray.empty], by kernel_rfl, rfl⟩⟩
theorem SlY.ops {w : World} {a : Option Addr} {n c : Nat} {P : List Opn} (h : SlY yO w a n c P) : Ops w a P := fun i hi => by
  obtain ⟨q, o, ea, hq, hl⟩ := h.place (by rintro rfl; simp at hi)
  have hx := List.getElem?_eq_getElem hi
  exact ⟨q, o, ea, hl i _ hx 0 _ rfl, hl i _ hx 1 _ rfl, hl i _ hx 2 _ rfl⟩
/-- 'append', in a round. -/
theorem appY_in {α : Type} {Y : Lay α} (K : Y.Ok) {F : Fence} {n : Nat} (w : World) {ops : Array Oper} {rest : List Oper} {o : Oper} {a : Act} {Q : Exit → Act → World → Prop} (hgd : o.guard = none) (s x : Operand)
    (ho : o.op = .call { callee := .builtin .append, args := #[s, x], argTypes := #[Y.ST, Y.ST] }) (B : Nat) (l : List α) (v : Value) (hs : a.eval s = v)
    (ad : Option Addr) (m c : Nat) (hx : a.eval x = .slice ad m c) (news : List α) (hh : SlY Y w ad m c news) (hown : OwnY Y B w v l) (hB : B ≤ w.heap.size) (hm : l.length + m ≤ maxLen) (hb : (l.length + m) * Y.by_ ≤ 140737488355328)
    (hk : ∀ v' w', OwnY Y B w' v' (l ++ news) → w.grownBy w' v.ownBlock → (v'.ownBlock = v.ownBlock ∨ ∃ k, v'.ownBlock = some k ∧ w.heap.size ≤ k) → wpListIn F n Try.prog ops Q rest (a.put o.dst v') w') : wpListIn F n Try.prog ops Q (o :: rest) a w := by
  refine wpListIn_plain hgd fun K' hK' => ?_
  obtain ⟨v', w', hr, h2, h3, h4⟩ := run_appY K w o.type B l v ad m c news hh hown hB hm hb
  unfold Oper.wpIn
  refine ⟨?_, ?_⟩
  · simp [Oper.about, ho, resolve, Target.leads, Sem.run_pure]
  · rw [Oper.semAt_plain F _ _ (by rw [ho]; intro c hc'; cases hc')]
    simp [execOp, ho, resolve, invoke, builtin, hs, hx, hr, Result.andThen]
    exact hK' _ _ (hk v' w' h2 h3 h4)
/-- Between two rounds of Replay's loop: the row of operations, in its box. -/
structure RpI (w4 : World) (N bx z : Nat) (D : List En) (i : Nat) (W : World) : Prop where
  ex : ∃ v, W.cell? ⟨bx, 0, none⟩ = some v ∧ OwnY yO N W v ((D.take i).map En.o) ∧ (v.ownBlock = some N ∨ ∃ k, v.ownBlock = some k ∧ z + 2 ≤ k)
  fr : W.frozen? ⟨bx, 0, none⟩ = false
  up : Upd (fun k => k = bx ∨ k = N) w4 W
set_option maxRecDepth 100000 in
set_option maxHeartbeats 1000000 in
theorem replayO_any (L : List En) (a : Option Addr) (n c : Nat) (k : Int) (w : World) (h : SlY yE w a n c L) (hf : ∀ e ∈ L, e.fits) (hb : n * 48 ≤ 140737488351232) :
    Calls Try.prog 40 #[.slice a n c, .int .i64 k] w fun e w' => ∃ vc vr, e = .returned (.tuple #[vc, vr, .int .i64 (ctE L k)]) ∧ OwnC w.heap.size w' vc (pl [] ((ctL L k).map En.o)) ∧ Own3 78 w.heap.size w' vr (rl [] ((ctL L k).map En.o)) ∧ Below w.heap.size w w' := by
  have hln := h.len
  have hcp := h.cap
  have hmx := h.max
  unfold maxLen at hmx
  by_cases h1 : k < 0
  · have e1 : Hid (ctE L k = 61) := by show _ = _; simp [ctE, h1]
    have e2 : Hid (ctL L k = []) := by show _ = _; simp [ctL, h1]
    rw [e1.out, e2.out]
    have d1 : decide (k < 0) = true := by simpa using h1
    clear h
    go_enter Try.func40, Try.ntmps40
    go_wp2
    go_ret3
    exact ⟨_, _, rfl, OwnC.nil _ _, Own3.nil _ _ _, Below.refl _ _⟩
  · by_cases h2 : (n : Int) < k
    · have e1 : Hid (ctE L k = 61) := by show _ = _; simp [ctE, hln, h2]
      have e2 : Hid (ctL L k = []) := by show _ = _; simp [ctL, hln, h2]
      rw [e1.out, e2.out]
      clear h
      go_enter Try.func40, Try.ntmps40
      go_wp2
      go_ret3
      exact ⟨_, _, rfl, OwnC.nil _ _, Own3.nil _ _ _, Below.refl _ _⟩
    · obtain ⟨m, rfl⟩ : ∃ m : Nat, k = (m : Int) := ⟨k.toNat, by omega⟩
      have hm : m ≤ n := by omega
      have e1 : Hid (ctE L m = 0) := by show _ = _; simp [ctE, hln]; omega
      have e2 : Hid (ctL L m = L.take m) := by show _ = _; simp [ctL, hln]; omega
      rw [e1.out, e2.out]
      have HS := hide (h.take m hm).recap
      have hnil := h.nil
      have HF : Hid (∀ p ∈ (L.take m).map En.o, p.fits) := by
        intro p hp
        obtain ⟨e, he, rfl⟩ := List.mem_map.1 hp
        exact (hf e (List.mem_of_mem_take he)).ow
      have HLT : Hid ((L.take m).length = m) := (h.take m hm).len
      clear h hln hf e1 e2
      generalize L.take m = D at *
      refine (callsIn_wide (n := 4)).1 ?_
      refine callsIn_of_wp_marks Try.func40 rfl trivial ?_ rfl
      simp only [Try.ntmps40, List.size_toArray, List.length_cons, List.length_nil, Nat.reduceAdd, Nat.reduceSub, Array.replicate_succ, Array.replicate_zero, List.push_toArray, List.append_toArray, List.nil_append, List.cons_append]
      refine wpIn_wide.2 ?_
      rcases a with _ | x
      · obtain ⟨rfl, rfl⟩ := hnil rfl
        obtain rfl : m = 0 := by omega
        clear hnil
        go_wp2_with (at_make; go_must (refine makeY0 kO _ rfl (.const (.int .i64 0)) (.tmp 20) rfl 0 rfl rfl (by unfold maxLen; omega) (by show _ * 32 ≤ _; omega) ?z1))
        intro w1 o1 b1
        go_wp2_with fail
        obtain ⟨w2, hw2⟩ : ∃ w2, w1.alloc (Obj.cells #[Value.slice (some ⟨w.heap.size, 0, none⟩) 0 0] 114) = w2 := ⟨_, rfl⟩
        rw [hw2]
        have z1 : w.heap.size < w1.heap.size := (o1.blk _ rfl).2
        have b2 : Below w.heap.size w w2 := by rw [← hw2]; exact b1.alloc (by omega) _
        have z2 : w2.heap.size = w1.heap.size + 1 := by rw [← hw2]; simp
        have o2 : OwnY yO w.heap.size w2 (.slice (some ⟨w.heap.size, 0, none⟩) 0 0) [] := by rw [← hw2]; exact o1.alloc _
        have c2 : w2.cell? ⟨w1.heap.size, 0, none⟩ = some (.slice (some ⟨w.heap.size, 0, none⟩) 0 0) := by rw [← hw2]; exact World.cell?_alloc_at _ _ _ _ rfl
        have f2 : w2.frozen? ⟨w1.heap.size, 0, none⟩ = false := by subst hw2; go_simp
        clear hw2
        refine (eachO_one D _ 0 0 w2 (HS.out.later b2) (by omega)).mono ?_
        rintro e w4 ⟨g, kk, f, rfl, ea⟩
        have d2 := (ea.bel.cell (p := ⟨w1.heap.size, 0, none⟩) (by show w1.heap.size < _; omega)).trans c2
        have g2 := (ea.bel.frozen (p := ⟨w1.heap.size, 0, none⟩) (by show w1.heap.size < _; omega)).trans f2
        have o4 := o2.grow ea.bel
        have b4 : Below w.heap.size w w4 := b2.trans (ea.bel.mono (by omega))
        have z4 : w1.heap.size < w4.heap.size := by have := ea.bel.size; omega
        obtain ⟨gb, lt, kc, fc, row, _⟩ := ea
        obtain ⟨l1, l2, l3⟩ := lt
        have lie : LieY yE w4 g 0 D := fun i x hx j u hu => by rw [Nat.zero_add]; exact row.cell kE i x hx j u hu
        have hN : Hid ((g ≠ w1.heap.size ∧ g ≠ w.heap.size) ∧ (kk ≠ w1.heap.size ∧ kk ≠ w.heap.size) ∧ (f ≠ w1.heap.size ∧ f ≠ w.heap.size)) := by show _ ∧ _; omega
        have I0 : Hid (RpI w4 w.heap.size w1.heap.size w4.heap.size D 0 w4) := ⟨⟨_, d2, by rw [List.take_zero, List.map_nil]; exact o4, .inl rfl⟩, g2, Upd.refl _ _⟩
        have HB4 := hide b4
        have HZ4 := hide z4
        have HZ1 := hide z1
        have HL := hide lie
        clear c2 f2 b2 z2 row gb o4 o2 o1 b1 b4 z4 z1 lie d2 g2 HS
        go_wp2_with fail
        refine wpIn_wide.1 (over_each (n := 4) (by omega) D 1 kk f g rfl rfl (by omega) (by rw [HLT.out]; omega) (by rw [HLT.out]; omega) l2 l3 l1 (by rw [HLT.out]; exact kc) fc HL.out
          (RpI w4 w.heap.size w1.heap.size w4.heap.size D) (fun _ _ _ => False)
          (fun i W W' row hi hg hr => ?hI) (fun _ _ _ _ hi _ => hi)
          (fun i W hi => ⟨hi.up.size, fun j hj => hi.up.block j (by rcases hj with rfl | rfl | rfl <;> assumption) (by have := hN.out; rcases hj with rfl | rfl | rfl <;> omega)⟩)
          I0.out ?round ?done (fun _ _ _ _ h _ => h.elim))
        case hI =>
          obtain ⟨⟨v, hc, ho, hn⟩, hfr, hup⟩ := hi
          have zz := HZ4.out
          have z1 := HZ1.out
          refine ⟨⟨v, gcell hg hc (fun e => by have := hr _ e; omega), ho.upd1 (S := fun k => row = some k) (gupd hg (fun _ e => e)) (fun g e hs => ?_), hn⟩, gfroz hg (by have := hup.size; omega) hfr (fun e => by have := hr _ e; omega), up_row hup hg hr⟩
          have := hr g hs
          rcases hn with hn | ⟨q, hn, hq⟩
          · rw [hn] at e; cases e; omega
          · rw [hn] at e; cases e; omega
        case round =>
          rintro i x W hx
          have := (List.getElem?_eq_some_iff.1 hx).1
          rw [HLT.out] at this
          omega
        case done =>
          rintro W ⟨⟨v, hc, ho, hn⟩, hfr, hup⟩ hK
          rw [List.take_length] at ho
          obtain ⟨av, cv, hv, _⟩ := ho.form
          have CR := hide (replay_any (D.map En.o) av cv W ((hv ▸ ho).sl' kO).ops HF.out (by rw [List.length_map, HLT.out]; omega))
          have hv : v = .slice av (D.map En.o).length cv := hv
          generalize (D.map En.o).length = dl at *
          subst hv
          have zz := HZ4.out
          have z1 := HZ1.out
          have BW := hide (HB4.out.trans (hup.below (by omega) (fun k hk => by rcases hk with rfl | rfl <;> omega)))
          have hus := hup.size
          clear ho hn hfr hup
          go_wp2_with fail
          refine CR.out.mono ?_
          rintro e w5 ⟨vc, vr, rfl, oc, orr, b5⟩
          have hK5 := (b5.block w4.heap.size (Array.getElem?_eq_some_iff.1 hK).1).trans hK
          clear CR hc
          go_wp2
          refine ⟨by simp, .inl ⟨_, _, rfl, run_takeDeferred hK5, ?_⟩⟩
          have hg6 := grownBy_putObj' w5 w4.heap.size (.deferred none)
          have u6 := gupd (S := (· = w4.heap.size)) hg6 (fun k e => by cases e; rfl)
          have z5 := b5.size
          have hzW := (Array.getElem?_eq_some_iff.1 hK).1
          refine ⟨_, results_tmp3 rfl _ _ _, _, _, rfl, ?_, ?_, ?_⟩
          · exact (oc.upd u6 (fun k hk hs => by omega)).low (by omega)
          · exact (orr.upd1 u6 (fun k hk hs => by have := (World.ownsRow.lt orr k hk).1; omega)).low (by omega)
          · exact (BW.out.trans (b5.mono (by omega))).grown hg6 (by omega) (fun k e => by cases e; omega)
      · clear hnil
        go_wp2_with (at_make; go_must (refine makeY0 kO _ rfl (.const (.int .i64 0)) (.tmp 20) rfl m rfl rfl (by unfold maxLen; omega) (by show _ * 32 ≤ _; omega) ?z2))
        intro w1 o1 b1
        go_wp2_with fail
        obtain ⟨w2, hw2⟩ : ∃ w2, w1.alloc (Obj.cells #[Value.slice (some ⟨w.heap.size, 0, none⟩) 0 m] 114) = w2 := ⟨_, rfl⟩
        rw [hw2]
        have z1 : w.heap.size < w1.heap.size := (o1.blk _ rfl).2
        have b2 : Below w.heap.size w w2 := by rw [← hw2]; exact b1.alloc (by omega) _
        have z2 : w2.heap.size = w1.heap.size + 1 := by rw [← hw2]; simp
        have o2 : OwnY yO w.heap.size w2 (.slice (some ⟨w.heap.size, 0, none⟩) 0 m) [] := by rw [← hw2]; exact o1.alloc _
        have c2 : w2.cell? ⟨w1.heap.size, 0, none⟩ = some (.slice (some ⟨w.heap.size, 0, none⟩) 0 m) := by rw [← hw2]; exact World.cell?_alloc_at _ _ _ _ rfl
        have f2 : w2.frozen? ⟨w1.heap.size, 0, none⟩ = false := by subst hw2; go_simp
        clear hw2
        refine (eachO_one D _ m m w2 (HS.out.later b2) (by omega)).mono ?_
        rintro e w4 ⟨g, kk, f, rfl, ea⟩
        have d2 := (ea.bel.cell (p := ⟨w1.heap.size, 0, none⟩) (by show w1.heap.size < _; omega)).trans c2
        have g2 := (ea.bel.frozen (p := ⟨w1.heap.size, 0, none⟩) (by show w1.heap.size < _; omega)).trans f2
        have o4 := o2.grow ea.bel
        have b4 : Below w.heap.size w w4 := b2.trans (ea.bel.mono (by omega))
        have z4 : w1.heap.size < w4.heap.size := by have := ea.bel.size; omega
        obtain ⟨gb, lt, kc, fc, row, _⟩ := ea
        obtain ⟨l1, l2, l3⟩ := lt
        have lie : LieY yE w4 g 0 D := fun i x hx j u hu => by rw [Nat.zero_add]; exact row.cell kE i x hx j u hu
        have hN : Hid ((g ≠ w1.heap.size ∧ g ≠ w.heap.size) ∧ (kk ≠ w1.heap.size ∧ kk ≠ w.heap.size) ∧ (f ≠ w1.heap.size ∧ f ≠ w.heap.size)) := by show _ ∧ _; omega
        have I0 : Hid (RpI w4 w.heap.size w1.heap.size w4.heap.size D 0 w4) := ⟨⟨_, d2, by rw [List.take_zero, List.map_nil]; exact o4, .inl rfl⟩, g2, Upd.refl _ _⟩
        have HB4 := hide b4
        have HZ4 := hide z4
        have HZ1 := hide z1
        have HL := hide lie
        clear c2 f2 b2 z2 row gb o4 o2 o1 b1 b4 z4 z1 lie d2 g2 HS
        go_wp2_with fail
        refine wpIn_wide.1 (over_each (n := 4) (by omega) D 1 kk f g rfl rfl (by omega) (by rw [HLT.out]; omega) (by rw [HLT.out]; omega) l2 l3 l1 (by rw [HLT.out]; exact kc) fc HL.out
          (RpI w4 w.heap.size w1.heap.size w4.heap.size D) (fun _ _ _ => False)
          (fun i W W' row hi hg hr => ?hI) (fun _ _ _ _ hi _ => hi)
          (fun i W hi => ⟨hi.up.size, fun j hj => hi.up.block j (by rcases hj with rfl | rfl | rfl <;> assumption) (by have := hN.out; rcases hj with rfl | rfl | rfl <;> omega)⟩)
          I0.out ?round ?done (fun _ _ _ _ h _ => h.elim))
        case hI =>
          obtain ⟨⟨v, hc, ho, hn⟩, hfr, hup⟩ := hi
          have zz := HZ4.out
          have z1 := HZ1.out
          refine ⟨⟨v, gcell hg hc (fun e => by have := hr _ e; omega), ho.upd1 (S := fun k => row = some k) (gupd hg (fun _ e => e)) (fun g e hs => ?_), hn⟩, gfroz hg (by have := hup.size; omega) hfr (fun e => by have := hr _ e; omega), up_row hup hg hr⟩
          have := hr g hs
          rcases hn with hn | ⟨q, hn, hq⟩
          · rw [hn] at e; cases e; omega
          · rw [hn] at e; cases e; omega
        case round =>
          rintro i x W hx hi hlt
          have hil := (List.getElem?_eq_some_iff.1 hx).1
          rw [HLT.out] at hil
          have HTK : Hid ((D.take (i + 1)).map En.o = (D.take i).map En.o ++ [x.o]) := by show _ = _; rw [List.take_add_one, hx]; simp
          have HLI : Hid (((D.take i).map En.o).length = i) := by show _ = _; rw [List.length_map, List.length_take, HLT.out]; omega
          have HI := hide hi
          have HLTW := hide hlt
          clear hx hi hlt
          obtain ⟨xc, xn, ⟨ok, os, ov⟩⟩ := x
          dsimp only [En.val]
          gi_wp2
          have hlt := HLTW.out
          have zz := HZ4.out
          have z1 := HZ1.out
          obtain ⟨⟨v, hc, ho, hn⟩, hfr, hup⟩ := HI.out
          have hus := hup.size
          refine ⟨⟨⟨⟨v, (World.cell?_alloc_past _ _ _ (by show w1.heap.size < _; omega)).trans hc, ho.alloc _, hn⟩, (World.frozen?_of_block (w := W) (Below.heap_alloc _ _ _ (by show w1.heap.size < _; omega))).trans hfr, hup.alloc _⟩, Below.heap_alloc _ _ _ (by omega), Below.heap_alloc _ _ _ hlt⟩, ?_⟩
          rintro W2 ⟨⟨v2, hc2, ho2, hn2⟩, hfr2, hup2⟩ hg2
          have e2 : W2.cell? ⟨W.heap.size, 2, none⟩ = some (.int .i64 ok) := gcell hg2 (World.cell?_alloc_at _ _ _ _ rfl) (fun e => by injection e with e; omega)
          have e3 : W2.cell? ⟨W.heap.size, 3, none⟩ = some (.int .i64 os) := gcell hg2 (World.cell?_alloc_at _ _ _ _ rfl) (fun e => by injection e with e; omega)
          have e4 : W2.cell? ⟨W.heap.size, 4, none⟩ = some (.string ov) := gcell hg2 (World.cell?_alloc_at _ _ _ _ rfl) (fun e => by injection e with e; omega)
          have hW2 : W.heap.size < W2.heap.size := by have := hg2.size; simp at this; omega
          have O2 := hide ho2
          have N2 := hide hn2
          have U2 := hide hup2
          obtain ⟨av, cv, hv0, _⟩ := ho2.form
          rw [HLI.out] at hv0
          subst hv0
          have hbx : w1.heap.size < W2.heap.size := by omega
          have SB : Hid (SlY yO (W2.alloc (.cells #[.int .i64 ok, .int .i64 os, .string ov] 39)) (some ⟨W2.heap.size, 0, none⟩) 1 1 [⟨ok, os, ov⟩]) := sl_box (Y := yO) W2 ⟨ok, os, ov⟩ 39
          have c3 : ∀ o, (W2.alloc o).cell? ⟨w1.heap.size, 0, none⟩ = some (.slice av i cv) := fun o => (World.cell?_alloc_past _ _ _ hbx).trans hc2
          have f3 : ∀ o, (W2.alloc o).frozen? ⟨w1.heap.size, 0, none⟩ = false := fun o => (World.frozen?_of_block (w := W2) (Below.heap_alloc _ _ _ hbx)).trans hfr2
          clear ho2 hn2 hup2 HI HLTW hc ho hn hfr hup v hg2
          gi_wp2_with (gi_at_builtin; refine appY_in kO _ rfl (.tmp 29) (.tmp 32) rfl w.heap.size ((D.take i).map En.o) (.slice av i cv) rfl (some ⟨W2.heap.size, 0, none⟩) 1 1 rfl [⟨ok, os, ov⟩] SB.out (O2.out.alloc _) (by simp; omega) (by rw [HLI.out]; unfold maxLen; omega) (by rw [HLI.out]; show _ * 32 ≤ _; omega) ?_)
          intro v5 w5 o5 g5 n5
          have N5 : Hid (v5.ownBlock = some w.heap.size ∨ ∃ k, v5.ownBlock = some k ∧ w4.heap.size + 2 ≤ k) := by
            rcases n5 with n5 | ⟨q, h1, h2⟩
            · rcases N2.out with h | ⟨q, h, hq⟩
              · exact .inl (n5.trans h)
              · exact .inr ⟨q, n5.trans h, hq⟩
            · exact .inr ⟨q, h1, by first | omega | (simp at h2; omega)⟩
          have hvb : ∀ k, (Value.slice av i cv).ownBlock = some k → k = w.heap.size ∨ w4.heap.size + 2 ≤ k := fun k hk => by
            rcases N2.out with h | ⟨q, h, hq⟩
            · rw [h] at hk; cases hk; exact .inl rfl
            · rw [h] at hk; cases hk; exact .inr hq
          have c5 := gcell g5 (c3 _) (fun e => by rcases hvb _ e with h | h <;> omega)
          have f5 := gfroz g5 (by simp; omega) (f3 _) (fun e => by rcases hvb _ e with h | h <;> omega)
          have U5 := hide ((U2.out.alloc (.cells #[.int .i64 ok, .int .i64 os, .string ov] 39)).grownBy g5 (fun k e hk => by rcases hvb _ e with h | h; exact .inr h; omega))
          have K0 : Hid (w5.heap[w4.heap.size]? = W2.heap[w4.heap.size]?) := (g5.block _ (by simp; omega) (fun e => by rcases hvb _ e.symm with h | h <;> omega)).trans (Below.heap_alloc _ _ _ (by omega))
          have K1 : Hid (w5.heap[w4.heap.size + 1]? = W2.heap[w4.heap.size + 1]?) := (g5.block _ (by simp; omega) (fun e => by rcases hvb _ e.symm with h | h <;> omega)).trans (Below.heap_alloc _ _ _ (by omega))
          have o5 : OwnY yO w.heap.size w5 v5 ((D.take (i + 1)).map En.o) := by
            rw [HTK.out]
            simpa using o5
          have O5 := hide o5
          obtain ⟨a5, k5, hv5, _⟩ := o5.form
          generalize ((D.take (i + 1)).map En.o).length = l5 at hv5
          subst hv5
          clear o5 g5 n5 c3 f3 SB
          gi_wp2
          refine ⟨⟨?_, ?_⟩, ⟨⟨_, setc_eq c5, O5.out.upd1 (S := (· = w1.heap.size)) (Upd.setCell (S := (· = w1.heap.size)) (Upd.refl _ _) (.inl rfl) _) (fun g e hs => ?_), N5.out⟩, setf f5, Upd.setCell (S := fun k => k = w1.heap.size ∨ k = w.heap.size) U5.out (.inl (.inl rfl)) _⟩⟩
          · exact (Below.heap_setCell _ _ _ _ (by show w4.heap.size ≠ w1.heap.size; omega)).trans K0.out
          · exact (Below.heap_setCell _ _ _ _ (by show w4.heap.size + 1 ≠ w1.heap.size; omega)).trans K1.out
          · rcases N5.out with h | ⟨q, h, hq⟩
            · rw [h] at e; cases e; omega
            · rw [h] at e; cases e; omega
        case done =>
          rintro W ⟨⟨v, hc, ho, hn⟩, hfr, hup⟩ hK
          rw [List.take_length] at ho
          obtain ⟨av, cv, hv, _⟩ := ho.form
          have CR := hide (replay_any (D.map En.o) av cv W ((hv ▸ ho).sl' kO).ops HF.out (by rw [List.length_map, HLT.out]; omega))
          have hv : v = .slice av (D.map En.o).length cv := hv
          generalize (D.map En.o).length = dl at *
          subst hv
          have zz := HZ4.out
          have z1 := HZ1.out
          have BW := hide (HB4.out.trans (hup.below (by omega) (fun k hk => by rcases hk with rfl | rfl <;> omega)))
          have hus := hup.size
          clear ho hn hfr hup
          go_wp2_with fail
          refine CR.out.mono ?_
          rintro e w5 ⟨vc, vr, rfl, oc, orr, b5⟩
          have hK5 := (b5.block w4.heap.size (Array.getElem?_eq_some_iff.1 hK).1).trans hK
          clear CR hc
          go_wp2
          refine ⟨by simp, .inl ⟨_, _, rfl, run_takeDeferred hK5, ?_⟩⟩
          have hg6 := grownBy_putObj' w5 w4.heap.size (.deferred none)
          have u6 := gupd (S := (· = w4.heap.size)) hg6 (fun k e => by cases e; rfl)
          have z5 := b5.size
          have hzW := (Array.getElem?_eq_some_iff.1 hK).1
          refine ⟨_, results_tmp3 rfl _ _ _, _, _, rfl, ?_, ?_, ?_⟩
          · exact (oc.upd u6 (fun k hk hs => by omega)).low (by omega)
          · exact (orr.upd1 u6 (fun k hk hs => by have := (World.ownsRow.lt orr k hk).1; omega)).low (by omega)
          · exact (BW.out.trans (b5.mono (by omega))).grown hg6 (by omega) (fun k e => by cases e; omega)

end Go.Proofs.Ytdfoafpcoigklaa
