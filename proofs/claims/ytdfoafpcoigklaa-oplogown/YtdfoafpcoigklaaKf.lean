import Derived.Test.YtdfoafpcoigklaaKq
namespace Go.Proofs.Ytdfoafpcoigklaa
open Go.RowKit Go.Shelf
open Classical
set_option linter.unusedVariables false
set_option linter.unusedSimpArgs false
attribute [local go_sem] Oper.semAt_some

/-- Two entries are the same. -/
def enb (a b : En) : Bool := decide (a.c = b.c) && (decide (a.n = b.n) && (decide (a.o.k = b.o.k) && (decide (a.o.s = b.o.s) && decide (a.o.v.data = b.o.v.data))))
theorem enb_iff (a b : En) : enb a b = true ↔ a = b := by
  rcases a with ⟨c, n, ⟨k, s, ⟨v⟩⟩⟩
  rcases b with ⟨c', n', ⟨k', s', ⟨v'⟩⟩⟩
  simp only [enb, Bool.and_eq_true, decide_eq_true_eq, En.mk.injEq, Opn.mk.injEq, ByteArray.mk.injEq]
/-- The length of the longest beginning that two logs share. -/
def cmn : List En → List En → Nat
  | a :: r, b :: s => if enb a b = true then 1 + cmn r s else 0
  | _, _ => 0
theorem cmn_cons (a b : En) (r s : List En) : cmn (a :: r) (b :: s) = if a = b then 1 + cmn r s else 0 := by
  rw [cmn]
  by_cases h : a = b
  · rw [if_pos ((enb_iff a b).2 h), if_pos h]
  · rw [if_neg (fun e => h ((enb_iff a b).1 e)), if_neg h]
theorem cmn_nil (A : List En) : cmn A [] = 0 := by cases A <;> rfl
theorem cmn_at {A B : List En} {j : Nat} {x y : En} (hx : A[j]? = some x) (hy : B[j]? = some y) : cmn (A.drop j) (B.drop j) = if x = y then 1 + cmn (A.drop (j + 1)) (B.drop (j + 1)) else 0 := by
  have hj := (List.getElem?_eq_some_iff.1 hx).1
  have he := (List.getElem?_eq_some_iff.1 hx).2
  have hj' := (List.getElem?_eq_some_iff.1 hy).1
  have he' := (List.getElem?_eq_some_iff.1 hy).2
  rw [List.drop_eq_getElem_cons hj, he, List.drop_eq_getElem_cons hj', he', cmn_cons]
theorem cmn_end {A B : List En} {m : Nat} (h : A.length ≤ m ∨ B.length ≤ m) : cmn (A.drop m) (B.drop m) = 0 := by
  rcases h with h | h
  · rw [List.drop_of_length_le h]; rfl
  · rw [List.drop_of_length_le h, cmn_nil]
theorem SlY.recap {α : Type} {Y : Lay α} {w : World} {a : Option Addr} {n c : Nat} {l : List α} (h : SlY Y w a n c l) : SlY Y w a n n l :=
  ⟨h.len, Nat.le_refl _, Nat.le_trans h.cap h.max, fun e => ⟨(h.nil e).1, (h.nil e).1⟩, h.at_⟩
set_option maxRecDepth 100000 in
set_option maxHeartbeats 1000000 in
theorem commonO_any (A B : List En) (a b : Option Addr) (n1 n2 c1 c2 : Nat) (w : World) (h1 : SlY yE w a n1 c1 A) (h2 : SlY yE w b n2 c2 B) (hb : n1 * 48 ≤ 140737488355328) :
    Calls Try.prog 30 #[.slice a n1 c1, .slice b n2 c2] w fun e w' => e = .returned (.int .i64 (cmn A B)) ∧ Below w.heap.size w w' := by
  obtain ⟨m, hm, hm1, hm2, hm3⟩ : ∃ m : Nat, min (n1 : Int) (n2 : Int) = (m : Int) ∧ m ≤ n1 ∧ m ≤ n2 ∧ (n1 ≤ m ∨ n2 ≤ m) := ⟨min n1 n2, by omega, by omega, by omega, by omega⟩
  have hp1 := h1.cap
  have hx1 := h1.max
  have hp2 := h2.cap
  have hx2 := h2.max
  unfold maxLen at hx1 hx2
  have HA := hide (h1.take m hm1).recap
  have H2 := hide h2
  have LA := hide h1.len
  have LB := hide h2.len
  have hend : Hid (cmn (A.drop m) (B.drop m) = 0) := cmn_end (by rw [h1.len, h2.len]; exact hm3)
  have hnil := h1.nil
  clear h1 h2 hm3
  refine (callsIn_wide (n := 4)).1 ?_
  refine callsIn_of_wp_marks Try.func30 rfl trivial ?_ rfl
  simp only [Try.ntmps30, List.size_toArray, List.length_cons, List.length_nil, Nat.reduceAdd, Nat.reduceSub, Array.replicate_succ, Array.replicate_zero, List.push_toArray, List.append_toArray, List.nil_append, List.cons_append]
  rcases a with _ | x
  · obtain ⟨rfl, rfl⟩ := hnil rfl
    obtain rfl : m = 0 := by omega
    have hm0 : min 0 (n2 : Int) = 0 := by omega
    clear hnil hm
    gi_wp2_with fail
    refine ⟨trivial, ?_⟩
    obtain ⟨w3, hw3⟩ : ∃ w3, ((w.alloc (Obj.cells #[Value.slice b n2 c2] 22)).alloc (Obj.cells #[Value.int IntKind.i64 0] 3)) = w3 := ⟨_, rfl⟩
    rw [hw3]
    have b3 : Below w.heap.size w w3 := by rw [← hw3]; exact ((Below.refl _ _).alloc (Nat.le_refl _) _).alloc (by simp) _
    have z3 : w3.heap.size = w.heap.size + 2 := by rw [← hw3]; simp
    have c0 : w3.cell? ⟨w.heap.size, 0, none⟩ = some (.slice b n2 c2) := by subst hw3; go_simp
    have c1 : w3.cell? ⟨w.heap.size + 1, 0, none⟩ = some (.int .i64 0) := by subst hw3; go_simp
    have f1 : w3.frozen? ⟨w.heap.size + 1, 0, none⟩ = false := by subst hw3; go_simp
    clear hw3
    have HB2 := hide (H2.out.later b3)
    have LT : (A.take 0).length = 0 := HA.out.len
    refine (callsIn_wide.2 (eachO_one (A.take 0) _ 0 0 w3 (HA.out.later b3) (by omega))).mono ?_
    rintro e w4 ⟨g, k, f, rfl, ea⟩
    have HB := hide (HB2.out.later ea.bel)
    have d0 := (ea.bel.cell (p := ⟨w.heap.size, 0, none⟩) (by show w.heap.size < _; omega)).trans c0
    have d1 := (ea.bel.cell (p := ⟨w.heap.size + 1, 0, none⟩) (by show w.heap.size + 1 < _; omega)).trans c1
    have g1 := (ea.bel.frozen (p := ⟨w.heap.size + 1, 0, none⟩) (by show w.heap.size + 1 < _; omega)).trans f1
    have b4 : Below w.heap.size w w4 := b3.trans (ea.bel.mono (by omega))
    have z4 : w.heap.size + 2 ≤ w4.heap.size := by have := ea.bel.size; omega
    clear c0 c1 f1 b3
    obtain ⟨gb, lt, kc, fc, row, _⟩ := ea
    obtain ⟨l1, l2, l3⟩ := lt
    have lie : LieY yE w4 g 0 (A.take 0) := fun i x hx j u hu => by rw [Nat.zero_add]; exact row.cell kE i x hx j u hu
    clear z3 row
    have HB4 := hide b4
    have HZ4 := hide z4
    have HL := hide lie
    have HLT := hide LT
    clear b4 z4 lie gb LT
    gi_wp2
    refine over_each (n := 4) (by omega) (A.take 0) 1 k f g rfl rfl (by omega) (by rw [HLT.out]; omega) (by rw [HLT.out]; omega) l2 l3 l1 (by rw [HLT.out]; exact kc) fc HL.out
      (fun i W => Upd (fun _ => False) w4 W ∧ Hid (cmn A B = i + cmn (A.drop i) (B.drop i)))
      (fun cd i W => cd = .ret ∧ W.cell? ⟨w.heap.size + 1, 0, none⟩ = some (.int .i64 (cmn A B)) ∧ Upd (· = w.heap.size + 1) w4 W)
      (fun i W W' row hi hg hr => ⟨up_row hi.1 hg hr, hi.2⟩)
      (fun cd i W W' hi hg => ⟨hi.1, gcell hg hi.2.1 (fun e => by injection e with e; have := HZ4.out; omega), up_row hi.2.2 hg (fun r e => by cases e; rfl)⟩)
      (fun i W hi => ⟨hi.1.size, fun j hj => hi.1.block j (by rcases hj with rfl | rfl | rfl <;> assumption) id⟩)
      ⟨Upd.refl _ _, by show cmn A B = 0 + _; simp⟩ ?round ?done ?stop
    case round =>
      rintro i x W hx
      simp at hx
    case done =>
      rintro W ⟨u, hf⟩ hK
      have zl := HZ4.out
      rw [HLT.out, hend.out, Nat.add_zero] at hf
      have i2 := (u.cell (p := ⟨w.heap.size + 1, 0, none⟩) (by show w.heap.size + 1 < _; omega) id).trans d1
      have j2 := (u.frozen (p := ⟨w.heap.size + 1, 0, none⟩) (by show w.heap.size + 1 < _; omega) id).trans g1
      gi_wp2
      have hK2 : (W.setCell ⟨w.heap.size + 1, 0, none⟩ (Value.int IntKind.i64 (0 : Nat))).heap[w4.heap.size]? = some (.deferred (some [])) := (Below.heap_setCell W _ _ _ (by show w4.heap.size ≠ w.heap.size + 1; omega)).trans hK
      refine ⟨by simp, .inl ⟨_, _, rfl, run_takeDeferred hK2, ?_⟩⟩
      have hc5 : ((W.setCell ⟨w.heap.size + 1, 0, none⟩ (Value.int IntKind.i64 (0 : Nat))).putObj w4.heap.size (.deferred none)).cell? ⟨w.heap.size + 1, 0, none⟩ = some (.int .i64 (0 : Nat)) := gcell (grownBy_putObj' _ _ _) (setc_eq i2) (fun e => by injection e with e; omega)
      refine ⟨.int .i64 (0 : Nat), ?_, by rw [hf.out], ?_⟩
      · simp [results, Try.f30, go_sem] at hc5 ⊢
        simp [hc5]
      · exact (((HB4.out.trans (u.below (by omega) (fun _ h => h.elim))).setCell (by show w.heap.size ≤ w.heap.size + 1; omega) _).grown (grownBy_putObj' _ _ _) (by simp [World.setCell]; have := u.size; omega) (fun k e => by cases e; omega))
    case stop =>
      rintro cd i W hi ⟨rfl, hc, u⟩ hK
      have zl := HZ4.out
      gi_wp2
      refine ⟨by simp, .inl ⟨_, _, rfl, run_takeDeferred hK, ?_⟩⟩
      have hc5 : (W.putObj w4.heap.size (.deferred none)).cell? ⟨w.heap.size + 1, 0, none⟩ = some (.int .i64 (cmn A B)) := gcell (grownBy_putObj' _ _ _) hc (fun e => by injection e with e; omega)
      refine ⟨_, ?_, rfl, ?_⟩
      · simp [results, Try.f30, go_sem, hc5]
      · exact ((HB4.out.trans (u.below (by omega) (fun _ h => by omega))).grown (grownBy_putObj' _ _ _) (by have := u.size; omega) (fun k e => by cases e; omega))

  · clear hnil
    gi_wp2_with fail
    refine ⟨trivial, ?_⟩
    obtain ⟨w3, hw3⟩ : ∃ w3, ((w.alloc (Obj.cells #[Value.slice b n2 c2] 22)).alloc (Obj.cells #[Value.int IntKind.i64 0] 3)) = w3 := ⟨_, rfl⟩
    rw [hw3]
    have b3 : Below w.heap.size w w3 := by rw [← hw3]; exact ((Below.refl _ _).alloc (Nat.le_refl _) _).alloc (by simp) _
    have z3 : w3.heap.size = w.heap.size + 2 := by rw [← hw3]; simp
    have c0 : w3.cell? ⟨w.heap.size, 0, none⟩ = some (.slice b n2 c2) := by subst hw3; go_simp
    have c1 : w3.cell? ⟨w.heap.size + 1, 0, none⟩ = some (.int .i64 0) := by subst hw3; go_simp
    have f1 : w3.frozen? ⟨w.heap.size + 1, 0, none⟩ = false := by subst hw3; go_simp
    clear hw3
    have HB2 := hide (H2.out.later b3)
    have LT : (A.take m).length = m := HA.out.len
    refine (callsIn_wide.2 (eachO_one (A.take m) _ m m w3 (HA.out.later b3) (by omega))).mono ?_
    rintro e w4 ⟨g, k, f, rfl, ea⟩
    have HB := hide (HB2.out.later ea.bel)
    have d0 := (ea.bel.cell (p := ⟨w.heap.size, 0, none⟩) (by show w.heap.size < _; omega)).trans c0
    have d1 := (ea.bel.cell (p := ⟨w.heap.size + 1, 0, none⟩) (by show w.heap.size + 1 < _; omega)).trans c1
    have g1 := (ea.bel.frozen (p := ⟨w.heap.size + 1, 0, none⟩) (by show w.heap.size + 1 < _; omega)).trans f1
    have b4 : Below w.heap.size w w4 := b3.trans (ea.bel.mono (by omega))
    have z4 : w.heap.size + 2 ≤ w4.heap.size := by have := ea.bel.size; omega
    clear c0 c1 f1 b3
    obtain ⟨gb, lt, kc, fc, row, _⟩ := ea
    obtain ⟨l1, l2, l3⟩ := lt
    have lie : LieY yE w4 g 0 (A.take m) := fun i x hx j u hu => by rw [Nat.zero_add]; exact row.cell kE i x hx j u hu
    clear z3 row
    have HB4 := hide b4
    have HZ4 := hide z4
    have HL := hide lie
    have HLT := hide LT
    clear b4 z4 lie gb LT
    gi_wp2
    refine over_each (n := 4) (by omega) (A.take m) 1 k f g rfl rfl (by omega) (by rw [HLT.out]; omega) (by rw [HLT.out]; omega) l2 l3 l1 (by rw [HLT.out]; exact kc) fc HL.out
      (fun i W => Upd (fun _ => False) w4 W ∧ Hid (cmn A B = i + cmn (A.drop i) (B.drop i)))
      (fun cd i W => cd = .ret ∧ W.cell? ⟨w.heap.size + 1, 0, none⟩ = some (.int .i64 (cmn A B)) ∧ Upd (· = w.heap.size + 1) w4 W)
      (fun i W W' row hi hg hr => ⟨up_row hi.1 hg hr, hi.2⟩)
      (fun cd i W W' hi hg => ⟨hi.1, gcell hg hi.2.1 (fun e => by injection e with e; have := HZ4.out; omega), up_row hi.2.2 hg (fun r e => by cases e; rfl)⟩)
      (fun i W hi => ⟨hi.1.size, fun j hj => hi.1.block j (by rcases hj with rfl | rfl | rfl <;> assumption) id⟩)
      ⟨Upd.refl _ _, by show cmn A B = 0 + _; simp⟩ ?round ?done ?stop
    case round =>
      rintro i x W hx ⟨u, hf⟩ hlt
      have hi : i < m := by have := (List.getElem?_eq_some_iff.1 hx).1; rw [HLT.out] at this; exact this
      have hx' : A[i]? = some x := by rw [List.getElem?_take, if_pos hi] at hx; exact hx
      have hiB : i < B.length := by rw [LB.out]; omega
      have hy : B[i]? = some B[i] := List.getElem?_eq_getElem hiB
      have hst := cmn_at hx' hy
      obtain ⟨q, o, rfl, hq, y0, y1, y2, y3, y4⟩ := HB.out.en hy
      generalize B[i] = y at *
      obtain ⟨xc, xn, ⟨ok, os, ov⟩⟩ := x
      obtain ⟨yc, yn, ⟨pk, ps, pv⟩⟩ := y
      dsimp only at hst y0 y1 y2 y3 y4
      dsimp only [En.val]
      have zl := HZ4.out
      clear hx hx' hy
      gi_wp2
      refine ⟨⟨⟨u.alloc _, hf⟩, Below.heap_alloc _ _ _ (by omega), Below.heap_alloc _ _ _ hlt⟩, ?_⟩
      rintro W2 ⟨u2, hf2⟩ hg2
      have e0 : W2.cell? ⟨W.heap.size, 0, none⟩ = some (.int .i64 xc) := gcell hg2 (World.cell?_alloc_at _ _ _ _ rfl) (fun e => by injection e with e; omega)
      have e1 : W2.cell? ⟨W.heap.size, 1, none⟩ = some (.int .i64 xn) := gcell hg2 (World.cell?_alloc_at _ _ _ _ rfl) (fun e => by injection e with e; omega)
      have e2 : W2.cell? ⟨W.heap.size, 2, none⟩ = some (.int .i64 ok) := gcell hg2 (World.cell?_alloc_at _ _ _ _ rfl) (fun e => by injection e with e; omega)
      have e3 : W2.cell? ⟨W.heap.size, 3, none⟩ = some (.int .i64 os) := gcell hg2 (World.cell?_alloc_at _ _ _ _ rfl) (fun e => by injection e with e; omega)
      have e4 : W2.cell? ⟨W.heap.size, 4, none⟩ = some (.string ov) := gcell hg2 (World.cell?_alloc_at _ _ _ _ rfl) (fun e => by injection e with e; omega)
      have i0 := (u2.cell (p := ⟨w.heap.size, 0, none⟩) (by show w.heap.size < _; omega) id).trans d0
      have i1 := (u2.cell (p := ⟨w.heap.size + 1, 0, none⟩) (by show w.heap.size + 1 < _; omega) id).trans d1
      have j1 := (u2.frozen (p := ⟨w.heap.size + 1, 0, none⟩) (by show w.heap.size + 1 < _; omega) id).trans g1
      replace y0 := (u2.cell (p := ⟨q, _, none⟩) hq id).trans y0
      replace y1 := (u2.cell (p := ⟨q, _, none⟩) hq id).trans y1
      replace y2 := (u2.cell (p := ⟨q, _, none⟩) hq id).trans y2
      replace y3 := (u2.cell (p := ⟨q, _, none⟩) hq id).trans y3
      replace y4 := (u2.cell (p := ⟨q, _, none⟩) hq id).trans y4
      have hz0 : w4.heap.size ≠ w.heap.size + 1 := by omega
      have hz1 : w4.heap.size + 1 ≠ w.heap.size + 1 := by omega
      have HST := hide hst
      have qe := fun W => neqE xc xn ok os ov yc yn pk ps pv W
      have hi2 : i < n2 := by omega
      have hmix : Try.prog.follows .mixedOrders = true := by kernel_rfl
      clear hst hf
      generalize hxy : decide ((⟨xc, xn, ⟨ok, os, ov⟩⟩ : En) = ⟨yc, yn, ⟨pk, ps, pv⟩⟩) = t at *
      gi_wp2
      refine region_round (by kernel_rfl) (by kernel_rfl) rfl ?_
      repeat (go_big_quiet_step (fail))
      refine wpQuiet_nil ?_
      intro _ hw'
      obtain ⟨nq, hw''⟩ := hw'
      subst hw''
      cases t with
      | true =>
        have hxe := of_decide_eq_true hxy
        have hE : Hid (cmn A B = (i + 1) + cmn (A.drop (i + 1)) (B.drop (i + 1))) := by
          show _ = _
          rw [hf2.out, HST.out, if_pos hxe]
          omega
        clear hxe
        gi_wp2
        exact ⟨⟨rfl, rfl⟩, u2.drewN nq, hE⟩
      | false =>
        have hxe := of_decide_eq_false hxy
        have hE : Hid (cmn A B = i) := by
          show _ = _
          rw [hf2.out, HST.out, if_neg hxe]
          omega
        clear hxe
        have hv : Hid ((1 : Int) + (i : Int) - 1 = (i : Int)) := by show _ = _; omega
        gi_wp2
        refine ⟨⟨Below.heap_setCell _ _ _ _ hz0, Below.heap_setCell _ _ _ _ hz1⟩, rfl, ?_, ?_⟩
        · have h9 := setc_eq (w := W2.drewN nq) (u := Value.int .i64 (1 + (i : Int) - 1)) i1
          rw [h9, hv.out, hE.out]
        · exact Upd.setCell (S := (· = w.heap.size + 1)) ((u2.drewN nq).mono (fun _ _ h => h.elim)) (.inl rfl) _
    case done =>
      rintro W ⟨u, hf⟩ hK
      have zl := HZ4.out
      rw [HLT.out, hend.out, Nat.add_zero] at hf
      have i2 := (u.cell (p := ⟨w.heap.size + 1, 0, none⟩) (by show w.heap.size + 1 < _; omega) id).trans d1
      have j2 := (u.frozen (p := ⟨w.heap.size + 1, 0, none⟩) (by show w.heap.size + 1 < _; omega) id).trans g1
      gi_wp2
      have hK2 : (W.setCell ⟨w.heap.size + 1, 0, none⟩ (Value.int IntKind.i64 (m : Nat))).heap[w4.heap.size]? = some (.deferred (some [])) := (Below.heap_setCell W _ _ _ (by show w4.heap.size ≠ w.heap.size + 1; omega)).trans hK
      refine ⟨by simp, .inl ⟨_, _, rfl, run_takeDeferred hK2, ?_⟩⟩
      have hc5 : ((W.setCell ⟨w.heap.size + 1, 0, none⟩ (Value.int IntKind.i64 (m : Nat))).putObj w4.heap.size (.deferred none)).cell? ⟨w.heap.size + 1, 0, none⟩ = some (.int .i64 (m : Nat)) := gcell (grownBy_putObj' _ _ _) (setc_eq i2) (fun e => by injection e with e; omega)
      refine ⟨.int .i64 (m : Nat), ?_, by rw [hf.out], ?_⟩
      · simp [results, Try.f30, go_sem] at hc5 ⊢
        simp [hc5]
      · exact (((HB4.out.trans (u.below (by omega) (fun _ h => h.elim))).setCell (by show w.heap.size ≤ w.heap.size + 1; omega) _).grown (grownBy_putObj' _ _ _) (by simp [World.setCell]; have := u.size; omega) (fun k e => by cases e; omega))
    case stop =>
      rintro cd i W hi ⟨rfl, hc, u⟩ hK
      have zl := HZ4.out
      gi_wp2
      refine ⟨by simp, .inl ⟨_, _, rfl, run_takeDeferred hK, ?_⟩⟩
      have hc5 : (W.putObj w4.heap.size (.deferred none)).cell? ⟨w.heap.size + 1, 0, none⟩ = some (.int .i64 (cmn A B)) := gcell (grownBy_putObj' _ _ _) hc (fun e => by injection e with e; omega)
      refine ⟨_, ?_, rfl, ?_⟩
      · simp [results, Try.f30, go_sem, hc5]
      · exact ((HB4.out.trans (u.below (by omega) (fun _ h => by omega))).grown (grownBy_putObj' _ _ _) (by have := u.size; omega) (fun k e => by cases e; omega))

theorem beginsO_any (A B : List En) (a b : Option Addr) (n1 n2 c1 c2 : Nat) (w : World) (h1 : SlY yE w a n1 c1 A) (h2 : SlY yE w b n2 c2 B) (hb : n1 * 48 ≤ 140737488355328) :
    Calls Try.prog 32 #[.slice a n1 c1, .slice b n2 c2] w fun e w' => e = .returned (.bool (decide (cmn A B = A.length))) ∧ Below w.heap.size w w' := by
  have cc := commonO_any A B a b n1 n2 c1 c2 w h1 h2 hb
  have HL := hide h1.len
  clear h1 h2
  generalize cmn A B = x at *
  rw [HL.out]
  go_enter Try.func32, Try.ntmps32
  go_wp2_with (go_at_call 30; refine cc.mono ?_; rintro e w1 ⟨rfl, b1⟩)
  go_ret
  refine ⟨?_, b1⟩
  by_cases h : x = n1
  · subst h; simp
  · have h2 : ¬ ((x : Int) = (n1 : Int)) := by omega
    simp [h, h2]
theorem agreeO_any (A B : List En) (a b : Option Addr) (n1 n2 c1 c2 : Nat) (m : Int) (w : World) (h1 : SlY yE w a n1 c1 A) (h2 : SlY yE w b n2 c2 B) (hb : n1 * 48 ≤ 140737488355328) :
    Calls Try.prog 34 #[.slice a n1 c1, .slice b n2 c2, .int .i64 m] w fun e w' => e = .returned (.bool (decide (0 ≤ m ∧ m ≤ cmn A B))) ∧ Below w.heap.size w w' := by
  have cc := commonO_any A B a b n1 n2 c1 c2 w h1 h2 hb
  clear h1 h2
  generalize cmn A B = x at *
  by_cases hm : 0 ≤ m
  · go_enter Try.func34, Try.ntmps34
    go_wp2_with (go_at_call 30; refine cc.mono ?_; rintro e w1 ⟨rfl, b1⟩)
    go_ret
    exact ⟨by simp [hm], b1⟩
  · have hd : decide (0 ≤ m) = false := by simpa using hm
    go_enter Try.func34, Try.ntmps34
    go_wp2
    go_ret
    exact ⟨by simp [hm], Below.refl _ _⟩

end Go.Proofs.Ytdfoafpcoigklaa
