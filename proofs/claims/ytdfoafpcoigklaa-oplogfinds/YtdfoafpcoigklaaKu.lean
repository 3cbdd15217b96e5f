import Derived.Test.YtdfoafpcoigklaaKr
import Derived.BigQuiet
namespace Go.Proofs.Ytdfoafpcoigklaa
open Go.RowKit Go.Maps
open Classical
set_option linter.unusedVariables false
set_option linter.unusedSimpArgs false

theorem region_quietC {P : Program} {C : World → Prop} {id : Nat} {Q : Exit → Act → World → Prop} {a : Act} {w : World} {l : List Oper} (hm : P.follows .mixedOrders = true) (hB : Region.lexB .any l.toArray = true) (hC : C w.drew)
    (h : wpQuiet P l.toArray C (fun a' => ∀ w', C w' → Q .normal a' w') l a) : (Code.region id l.toArray true).wp P Q a w :=
  wp_region_quiet (C := C) hm hB hC (by simpa using h)
set_option maxRecDepth 100000 in
set_option maxHeartbeats 4000000 in
theorem finds6_walk (L : List En) (a : Option Addr) (c : Nat) (cl nu : Int) (w : World) (h : SlY yE w a L.length c L) (hm : L.length * 48 ≤ 140737488351232) :
    Calls Try.prog 8 #[.slice a L.length c, .int .i64 cl, .int .i64 nu] w fun e w' => e = .returned (.bool true) ∧ Below w.heap.size w w' := by
  have H := hide h
  have hcp := h.cap
  have hmx := h.max
  unfold maxLen at hmx
  have cg := hide (given6 L a c w h hm)
  have HM : Hid (L.length * 48 ≤ 140737488355328) := by show _ ≤ _; omega
  clear h
  go_enter Try.func8, Try.ntmps8
  go_wp2_with fail
  refine cg.out.mono ?_
  rintro e w1 ⟨g, c1, va, vb, g5, k5, rfl, s1, G1, b1⟩
  have z1 := b1.size
  have hcp1 := s1.cap
  have hmx1 := s1.max
  unfold maxLen at hmx1
  have S1 := hide s1
  have G1h := hide G1
  have HB1 := hide b1
  have HS := hide (H.out.later b1)
  have f1 := hide (fun (x y : Int) (W : World) (hb : Below w1.heap.size w1 W) => (findO_any L (some ⟨g, 0, none⟩) L.length c1 x y W (S1.out.later hb) HM.out).mono (R' := fun e w' => e = .returned (.int .i64 (fd L x y)) ∧ Below w1.heap.size w1 w') (fun e w' hq => ⟨hq.1, hb.trans (hq.2.mono hb.size)⟩))
  have f2 := hide (fun (x y : Int) (W : World) (hb : Below w1.heap.size w1 W) => (reffind6_any L a L.length c x y W (HS.out.later hb)).mono (R' := fun e w' => e = .returned (.int .i64 (fd L x y)) ∧ Below w1.heap.size w1 w') (fun e w' hq => ⟨hq.1, hq.2 ▸ hb⟩))
  have f3 := hide (fun (x : Int) (W : World) (hb : Below w1.heap.size w1 W) => (lastO_any L (some ⟨g, 0, none⟩) L.length c1 x W (S1.out.later hb) HM.out).mono (R' := fun e w' => e = .returned (.int .i64 (gm L x)) ∧ Below w1.heap.size w1 w') (fun e w' hq => ⟨hq.1, hb.trans (hq.2.mono hb.size)⟩))
  have f4 := hide (fun (x : Int) (W : World) (hb : Below w1.heap.size w1 W) => (reflast6_any L a L.length c x W (HS.out.later hb)).mono (R' := fun e w' => e = .returned (.int .i64 (gm L x)) ∧ Below w1.heap.size w1 w') (fun e w' hq => ⟨hq.1, hq.2 ▸ hb⟩))
  clear cg G1 s1 b1 H
  have t1 := hide (f1.out cl nu)
  have t2 := hide (f2.out cl nu)
  have t3 := hide (f3.out cl)
  have t4 := hide (f4.out cl)
  generalize fd L cl nu = F0 at *
  generalize gm L cl = G0 at *
  go_wp2_with fail
  refine (t1.out w1 (Below.refl _ _)).mono ?_
  rintro e w2 ⟨rfl, b2⟩
  go_wp2_with fail
  refine (t2.out w2 b2).mono ?_
  rintro e w3 ⟨rfl, b3⟩
  go_wp2_with fail
  refine (t3.out w3 b3).mono ?_
  rintro e w4 ⟨rfl, b4⟩
  go_wp2_with fail
  refine (t4.out w4 b4).mono ?_
  rintro e w5 ⟨rfl, b5⟩
  clear t1 t2 t3 t4 b2 b3 b4
  go_wp2
  go_loopw [9] (fun i wr => ∃ j : Nat, i = .int .i64 (j : Int) ∧ j ≤ L.length ∧ Below w1.heap.size w1 wr) (fun i _ => L.length - (intOf i).toNat)
  case atStart => exact ⟨0, rfl, Nat.zero_le _, b5⟩
  case round =>
    obtain ⟨j, rfl, hj, hb⟩ := hrel
    by_cases hlt : j < L.length
    · have hg : L[j]? = some L[j] := List.getElem?_eq_getElem hlt
      obtain ⟨q, o, rfl, hq, y0, y1, _, _, _⟩ := HS.out.en hg
      have c1h := hide (f1.out L[j].c L[j].n)
      have c2h := hide (f2.out L[j].c L[j].n)
      have c3h := hide (f3.out L[j].c)
      have c4h := hide (f4.out L[j].c)
      generalize L[j] = x at *
      obtain ⟨xc, xn, op⟩ := x
      dsimp only at *
      clear hg
      have KH : Hid (∀ v, Below w1.heap.size w1 v → (Below w1.heap.size w1 v ∧ v.cell? ⟨q, o + j * 5, none⟩ = some (.int .i64 xc) ∧ v.cell? ⟨q, o + j * 5 + 1, none⟩ = some (.int .i64 xn))) := fun v b =>
        ⟨b, (b.cell (p := ⟨q, o + j * 5, none⟩) hq).trans y0, (b.cell (p := ⟨q, o + j * 5 + 1, none⟩) hq).trans y1⟩
      clear y0 y1
      generalize fd L xc xn = F at *
      generalize gm L xc = G at *
      go_wp2
      refine region_quietC (C := fun v => Below w1.heap.size w1 v ∧ v.cell? ⟨q, o + j * 5, none⟩ = some (.int .i64 xc) ∧ v.cell? ⟨q, o + j * 5 + 1, none⟩ = some (.int .i64 xn)) (by kernel_rfl) (by kernel_rfl) (KH.out _ hb.drew) ?_
      refine BigFrame.wpQuiet_want (by rfl) (fun K hK => ⟨.slice (some ⟨g, 0, none⟩) L.length c1, fun w' hw' => ?_, hK _ ?_⟩)
      · go_simp
      clear hK
      simp only [Act.put, List.setIfInBounds_toArray, List.set_cons_zero, List.set_cons_succ]
      refine BigFrame.wpQuiet_want (by rfl) (fun K hK => ⟨.slice (some ⟨q, o, none⟩) L.length c, fun w' hw' => ?_, hK _ ?_⟩)
      · go_simp
      clear hK
      simp only [Act.put, List.setIfInBounds_toArray, List.set_cons_zero, List.set_cons_succ]
      refine BigFrame.wpQuiet_want (by rfl) (fun K hK => ⟨.int .i64 (j : Int), fun w' hw' => ?_, hK _ ?_⟩)
      · go_simp
      clear hK
      simp only [Act.put, List.setIfInBounds_toArray, List.set_cons_zero, List.set_cons_succ]
      refine BigFrame.wpQuiet_want (by rfl) (fun K hK => ⟨.pointer (some ⟨q, o + j * 5, none⟩), fun w' hw' => ?_, hK _ ?_⟩)
      · go_simp
      clear hK
      simp only [Act.put, List.setIfInBounds_toArray, List.set_cons_zero, List.set_cons_succ]
      refine BigFrame.wpQuiet_want (by rfl) (fun K hK => ⟨.pointer (some ⟨q, o + j * 5, none⟩), fun w' hw' => ?_, hK _ ?_⟩)
      · go_simp
      clear hK
      simp only [Act.put, List.setIfInBounds_toArray, List.set_cons_zero, List.set_cons_succ]
      refine BigFrame.wpQuiet_want (by rfl) (fun K hK => ⟨.int .i64 xc, fun w' hw' => ?_, hK _ ?_⟩)
      · (obtain ⟨_, e0, e1⟩ := hw'; go_simp)
      clear hK
      simp only [Act.put, List.setIfInBounds_toArray, List.set_cons_zero, List.set_cons_succ]
      refine BigFrame.wpQuiet_want (by rfl) (fun K hK => ⟨.slice (some ⟨q, o, none⟩) L.length c, fun w' hw' => ?_, hK _ ?_⟩)
      · go_simp
      clear hK
      simp only [Act.put, List.setIfInBounds_toArray, List.set_cons_zero, List.set_cons_succ]
      refine BigFrame.wpQuiet_want (by rfl) (fun K hK => ⟨.int .i64 (j : Int), fun w' hw' => ?_, hK _ ?_⟩)
      · go_simp
      clear hK
      simp only [Act.put, List.setIfInBounds_toArray, List.set_cons_zero, List.set_cons_succ]
      refine BigFrame.wpQuiet_want (by rfl) (fun K hK => ⟨.pointer (some ⟨q, o + j * 5, none⟩), fun w' hw' => ?_, hK _ ?_⟩)
      · go_simp
      clear hK
      simp only [Act.put, List.setIfInBounds_toArray, List.set_cons_zero, List.set_cons_succ]
      refine BigFrame.wpQuiet_want (by rfl) (fun K hK => ⟨.pointer (some ⟨q, o + j * 5 + 1, none⟩), fun w' hw' => ?_, hK _ ?_⟩)
      · go_simp
      clear hK
      simp only [Act.put, List.setIfInBounds_toArray, List.set_cons_zero, List.set_cons_succ]
      refine BigFrame.wpQuiet_want (by rfl) (fun K hK => ⟨.int .i64 xn, fun w' hw' => ?_, hK _ ?_⟩)
      · (obtain ⟨_, e0, e1⟩ := hw'; go_simp)
      clear hK
      simp only [Act.put, List.setIfInBounds_toArray, List.set_cons_zero, List.set_cons_succ]
      refine BigFrame.wpQuiet_want (by rfl) (fun K hK => ⟨.int .i64 (F : Int), fun w' hw' => ?_, hK _ ?_⟩)
      · (go_simp; exact (c1h.out w' hw'.1).mono (fun e w'' ⟨he, bv⟩ => ⟨he, KH.out w'' bv⟩))
      clear hK
      simp only [Act.put, List.setIfInBounds_toArray, List.set_cons_zero, List.set_cons_succ]
      refine BigFrame.wpQuiet_want (by rfl) (fun K hK => ⟨.slice (some ⟨q, o, none⟩) L.length c, fun w' hw' => ?_, hK _ ?_⟩)
      · go_simp
      clear hK
      simp only [Act.put, List.setIfInBounds_toArray, List.set_cons_zero, List.set_cons_succ]
      refine BigFrame.wpQuiet_want (by rfl) (fun K hK => ⟨.slice (some ⟨q, o, none⟩) L.length c, fun w' hw' => ?_, hK _ ?_⟩)
      · go_simp
      clear hK
      simp only [Act.put, List.setIfInBounds_toArray, List.set_cons_zero, List.set_cons_succ]
      refine BigFrame.wpQuiet_want (by rfl) (fun K hK => ⟨.int .i64 (j : Int), fun w' hw' => ?_, hK _ ?_⟩)
      · go_simp
      clear hK
      simp only [Act.put, List.setIfInBounds_toArray, List.set_cons_zero, List.set_cons_succ]
      refine BigFrame.wpQuiet_want (by rfl) (fun K hK => ⟨.pointer (some ⟨q, o + j * 5, none⟩), fun w' hw' => ?_, hK _ ?_⟩)
      · go_simp
      clear hK
      simp only [Act.put, List.setIfInBounds_toArray, List.set_cons_zero, List.set_cons_succ]
      refine BigFrame.wpQuiet_want (by rfl) (fun K hK => ⟨.pointer (some ⟨q, o + j * 5, none⟩), fun w' hw' => ?_, hK _ ?_⟩)
      · go_simp
      clear hK
      simp only [Act.put, List.setIfInBounds_toArray, List.set_cons_zero, List.set_cons_succ]
      refine BigFrame.wpQuiet_want (by rfl) (fun K hK => ⟨.int .i64 xc, fun w' hw' => ?_, hK _ ?_⟩)
      · (obtain ⟨_, e0, e1⟩ := hw'; go_simp)
      clear hK
      simp only [Act.put, List.setIfInBounds_toArray, List.set_cons_zero, List.set_cons_succ]
      refine BigFrame.wpQuiet_want (by rfl) (fun K hK => ⟨.slice (some ⟨q, o, none⟩) L.length c, fun w' hw' => ?_, hK _ ?_⟩)
      · go_simp
      clear hK
      simp only [Act.put, List.setIfInBounds_toArray, List.set_cons_zero, List.set_cons_succ]
      refine BigFrame.wpQuiet_want (by rfl) (fun K hK => ⟨.int .i64 (j : Int), fun w' hw' => ?_, hK _ ?_⟩)
      · go_simp
      clear hK
      simp only [Act.put, List.setIfInBounds_toArray, List.set_cons_zero, List.set_cons_succ]
      refine BigFrame.wpQuiet_want (by rfl) (fun K hK => ⟨.pointer (some ⟨q, o + j * 5, none⟩), fun w' hw' => ?_, hK _ ?_⟩)
      · go_simp
      clear hK
      simp only [Act.put, List.setIfInBounds_toArray, List.set_cons_zero, List.set_cons_succ]
      refine BigFrame.wpQuiet_want (by rfl) (fun K hK => ⟨.pointer (some ⟨q, o + j * 5 + 1, none⟩), fun w' hw' => ?_, hK _ ?_⟩)
      · go_simp
      clear hK
      simp only [Act.put, List.setIfInBounds_toArray, List.set_cons_zero, List.set_cons_succ]
      refine BigFrame.wpQuiet_want (by rfl) (fun K hK => ⟨.int .i64 xn, fun w' hw' => ?_, hK _ ?_⟩)
      · (obtain ⟨_, e0, e1⟩ := hw'; go_simp)
      clear hK
      simp only [Act.put, List.setIfInBounds_toArray, List.set_cons_zero, List.set_cons_succ]
      refine BigFrame.wpQuiet_want (by rfl) (fun K hK => ⟨.int .i64 (F : Int), fun w' hw' => ?_, hK _ ?_⟩)
      · (go_simp; exact (c2h.out w' hw'.1).mono (fun e w'' ⟨he, bv⟩ => ⟨he, KH.out w'' bv⟩))
      clear hK
      simp only [Act.put, List.setIfInBounds_toArray, List.set_cons_zero, List.set_cons_succ]
      refine BigFrame.wpQuiet_want (by rfl) (fun K hK => ⟨.bool false, fun w' hw' => ?_, hK _ ?_⟩)
      · go_simp
      clear hK
      simp only [Act.put, List.setIfInBounds_toArray, List.set_cons_zero, List.set_cons_succ]
      refine BigFrame.wpQuiet_want (by rfl) (fun K hK => ⟨.bool false, fun w' hw' => ?_, hK _ ?_⟩)
      · go_simp
      clear hK
      simp only [Act.put, List.setIfInBounds_toArray, List.set_cons_zero, List.set_cons_succ]
      refine BigFrame.wpQuiet_want (by rfl) (fun K hK => ⟨.slice (some ⟨g, 0, none⟩) L.length c1, fun w' hw' => ?_, hK _ ?_⟩)
      · go_simp
      clear hK
      simp only [Act.put, List.setIfInBounds_toArray, List.set_cons_zero, List.set_cons_succ]
      refine BigFrame.wpQuiet_want (by rfl) (fun K hK => ⟨.slice (some ⟨q, o, none⟩) L.length c, fun w' hw' => ?_, hK _ ?_⟩)
      · go_simp
      clear hK
      simp only [Act.put, List.setIfInBounds_toArray, List.set_cons_zero, List.set_cons_succ]
      refine BigFrame.wpQuiet_want (by rfl) (fun K hK => ⟨.int .i64 (j : Int), fun w' hw' => ?_, hK _ ?_⟩)
      · go_simp
      clear hK
      simp only [Act.put, List.setIfInBounds_toArray, List.set_cons_zero, List.set_cons_succ]
      refine BigFrame.wpQuiet_want (by rfl) (fun K hK => ⟨.pointer (some ⟨q, o + j * 5, none⟩), fun w' hw' => ?_, hK _ ?_⟩)
      · go_simp
      clear hK
      simp only [Act.put, List.setIfInBounds_toArray, List.set_cons_zero, List.set_cons_succ]
      refine BigFrame.wpQuiet_want (by rfl) (fun K hK => ⟨.pointer (some ⟨q, o + j * 5, none⟩), fun w' hw' => ?_, hK _ ?_⟩)
      · go_simp
      clear hK
      simp only [Act.put, List.setIfInBounds_toArray, List.set_cons_zero, List.set_cons_succ]
      refine BigFrame.wpQuiet_want (by rfl) (fun K hK => ⟨.int .i64 xc, fun w' hw' => ?_, hK _ ?_⟩)
      · (obtain ⟨_, e0, e1⟩ := hw'; go_simp)
      clear hK
      simp only [Act.put, List.setIfInBounds_toArray, List.set_cons_zero, List.set_cons_succ]
      refine BigFrame.wpQuiet_want (by rfl) (fun K hK => ⟨.int .i64 G, fun w' hw' => ?_, hK _ ?_⟩)
      · (go_simp; exact (c3h.out w' hw'.1).mono (fun e w'' ⟨he, bv⟩ => ⟨he, KH.out w'' bv⟩))
      clear hK
      simp only [Act.put, List.setIfInBounds_toArray, List.set_cons_zero, List.set_cons_succ]
      refine BigFrame.wpQuiet_want (by rfl) (fun K hK => ⟨.slice (some ⟨q, o, none⟩) L.length c, fun w' hw' => ?_, hK _ ?_⟩)
      · go_simp
      clear hK
      simp only [Act.put, List.setIfInBounds_toArray, List.set_cons_zero, List.set_cons_succ]
      refine BigFrame.wpQuiet_want (by rfl) (fun K hK => ⟨.slice (some ⟨q, o, none⟩) L.length c, fun w' hw' => ?_, hK _ ?_⟩)
      · go_simp
      clear hK
      simp only [Act.put, List.setIfInBounds_toArray, List.set_cons_zero, List.set_cons_succ]
      refine BigFrame.wpQuiet_want (by rfl) (fun K hK => ⟨.int .i64 (j : Int), fun w' hw' => ?_, hK _ ?_⟩)
      · go_simp
      clear hK
      simp only [Act.put, List.setIfInBounds_toArray, List.set_cons_zero, List.set_cons_succ]
      refine BigFrame.wpQuiet_want (by rfl) (fun K hK => ⟨.pointer (some ⟨q, o + j * 5, none⟩), fun w' hw' => ?_, hK _ ?_⟩)
      · go_simp
      clear hK
      simp only [Act.put, List.setIfInBounds_toArray, List.set_cons_zero, List.set_cons_succ]
      refine BigFrame.wpQuiet_want (by rfl) (fun K hK => ⟨.pointer (some ⟨q, o + j * 5, none⟩), fun w' hw' => ?_, hK _ ?_⟩)
      · go_simp
      clear hK
      simp only [Act.put, List.setIfInBounds_toArray, List.set_cons_zero, List.set_cons_succ]
      refine BigFrame.wpQuiet_want (by rfl) (fun K hK => ⟨.int .i64 xc, fun w' hw' => ?_, hK _ ?_⟩)
      · (obtain ⟨_, e0, e1⟩ := hw'; go_simp)
      clear hK
      simp only [Act.put, List.setIfInBounds_toArray, List.set_cons_zero, List.set_cons_succ]
      refine BigFrame.wpQuiet_want (by rfl) (fun K hK => ⟨.int .i64 G, fun w' hw' => ?_, hK _ ?_⟩)
      · (go_simp; exact (c4h.out w' hw'.1).mono (fun e w'' ⟨he, bv⟩ => ⟨he, KH.out w'' bv⟩))
      clear hK
      simp only [Act.put, List.setIfInBounds_toArray, List.set_cons_zero, List.set_cons_succ]
      refine BigFrame.wpQuiet_want (by rfl) (fun K hK => ⟨.bool false, fun w' hw' => ?_, hK _ ?_⟩)
      · go_simp
      clear hK
      simp only [Act.put, List.setIfInBounds_toArray, List.set_cons_zero, List.set_cons_succ]
      refine BigFrame.wpQuiet_want (by rfl) (fun K hK => ⟨.bool false, fun w' hw' => ?_, hK _ ?_⟩)
      · go_simp
      clear hK
      simp only [Act.put, List.setIfInBounds_toArray, List.set_cons_zero, List.set_cons_succ]
      refine wpQuiet_nil ?_
      rintro w6 ⟨b6, _, _⟩
      go_wp2
      go_round
      case rel => exact ⟨j + 1, by go_num, by omega, b6⟩
      case measure => simp [intOf]; omega
    · obtain rfl : j = L.length := by omega
      have ci := hide (intactE_any w.heap.size (w.heap.size + 1) va vb _ _ wr (G1h.out.bel hb) rfl)
      have cw := hide (fun W => works6_any W)
      have HBB := hide (HB1.out.trans (hb.mono z1))
      go_wp2_with (first
        | (go_at_call 19; refine ci.out.mono ?_; rintro e w6 ⟨rfl, n6, rfl⟩)
        | (go_at_call 20; refine (cw.out _).mono ?_; rintro e w7 ⟨rfl, b7⟩))
      go_ret
      exact ⟨rfl, (belN HBB.out n6).trans (b7.mono (by have := HBB.out.size; show w.heap.size ≤ wr.heap.size; omega))⟩
theorem finds6_came (a : Option Addr) (len cap : Nat) (cl nu : Int) (W : World) (h : CameE W a len cap) :
    Calls Try.prog 8 #[.slice a len cap, .int .i64 cl, .int .i64 nu] W fun e w' => e = .returned (.bool true) ∧ Below W.heap.size W w' := by
  obtain ⟨P, hs, hf, hm⟩ := h
  obtain rfl := hs.len
  exact finds6_walk P a cap cl nu W hs hm

end Go.Proofs.Ytdfoafpcoigklaa
