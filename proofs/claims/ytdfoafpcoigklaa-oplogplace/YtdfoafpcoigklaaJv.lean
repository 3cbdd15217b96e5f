import Derived.Test.YtdfoafpcoigklaaJw
namespace Go.Proofs.Ytdfoafpcoigklaa
open Go.RowKit Go.Maps
open Classical
set_option linter.unusedVariables false
set_option linter.unusedSimpArgs false

theorem region_qC {P : Program} {C : World → Prop} {id : Nat} {Q : Exit → Act → World → Prop} {a : Act} {w : World} {l : List Oper} (hm : P.follows .mixedOrders = true) (hB : Region.lexB .any l.toArray = true) (hC : C w.drew)
    (h : wpQuiet P l.toArray C (fun a' => ∀ w', C w' → Q .normal a' w') l a) : (Code.region id l.toArray true).wp P Q a w :=
  wp_region_quiet (C := C) hm hB hC (by simpa using h)
theorem fdA_spec (c n : Int) : ∀ (l : List En) (i : Nat), (fdA c n l i = 0 ∧ ∀ e ∈ l, ¬ (e.c = c ∧ e.n = n)) ∨ ∃ k e, fdA c n l i = i + k + 1 ∧ l[k]? = some e ∧ e.c = c ∧ e.n = n
  | [], i => Or.inl ⟨rfl, by simp⟩
  | e :: r, i => by
    rw [fdA]
    by_cases h : e.c = c ∧ e.n = n
    · rw [if_pos h]
      exact Or.inr ⟨0, e, rfl, rfl, h⟩
    · rw [if_neg h]
      rcases fdA_spec c n r (i + 1) with ⟨h1, h2⟩ | ⟨k, e', h1, h2, h3⟩
      · exact Or.inl ⟨h1, fun x hx => by rcases List.mem_cons.1 hx with rfl | hx; exact h; exact h2 x hx⟩
      · exact Or.inr ⟨k + 1, e', by rw [h1]; omega, by simpa using h2, h3⟩
theorem no_two {L : List En} {room : Int} (h : (chk L room).1 = 0) {i j : Nat} {e e' : En} (hi : L[i]? = some e') (hj : L[j]? = some e) (hij : i < j) : ¬ (e'.c = e.c ∧ e'.n = e.n) := fun ⟨h1, h2⟩ => by
  have := (er_zero (chk_ok h hj)).2
  have ht : tw (L.take j) e = true := by
    rw [tw, List.any_eq_true]
    exact ⟨e', List.mem_of_getElem? (i := i) (by rw [List.getElem?_take, if_pos hij]; exact hi), by simp [h1, h2]⟩
  rw [ht] at this
  cases this
theorem fd_place {L : List En} {room : Int} (h : (chk L room).1 = 0) {j : Nat} {e : En} (hj : L[j]? = some e) : fd L e.c e.n = j + 1 := by
  rcases fdA_spec e.c e.n L 0 with ⟨_, h2⟩ | ⟨k, e', h1, h2, h3, h4⟩
  · exact absurd ⟨rfl, rfl⟩ (h2 e (List.mem_of_getElem? hj))
  · rw [fd, h1]
    rcases Nat.lt_trichotomy k j with hk | hk | hk
    · exact absurd ⟨h3, h4⟩ (no_two h h2 hj hk)
    · omega
    · exact absurd ⟨h3.symm, h4.symm⟩ (no_two h hj h2 hk)
def cellZ (v : World) (p : Addr) : Int := intOf ((v.cell? p).getD undef)
set_option maxRecDepth 100000 in
set_option maxHeartbeats 4000000 in
theorem place6_walk (R : List En) (a : Option Addr) (n c : Nat) (k1 k2 : Int) (w : World) (h : SlY yW w a n c R) (hf : ∀ e ∈ R, e.fits) :
    Calls Try.prog 13 #[.slice a n c, .int .i64 k1, .int .i64 k2] w fun e w' => e = .returned (.bool true) ∧ Below w.heap.size w w' := by
  have cg := hide (grown_any R a n c 256 (by omega) (by omega) w h hf)
  clear h hf
  go_enter Try.func13, Try.ntmps13
  go_wp2_with fail
  refine cg.out.mono ?_
  rintro e w1 ⟨v, L, rfl, o1, hG, b1⟩
  obtain ⟨al, cl, hv0, hlc, hcm, _⟩ := o1.form
  obtain ⟨ll, hll⟩ : ∃ ll, L.length = ll := ⟨_, rfl⟩
  have hl256 := (chk_zero hG.ok).1
  rw [hll] at hv0 hlc hl256
  subst hv0
  have HLL := hide hll
  have O1 := hide o1
  have HG := hide hG
  unfold maxLen at hcm
  clear o1 hll hG cg
  go_wp2_with fail
  refine (works6_any w1).mono ?_
  rintro e w2 ⟨rfl, b2⟩
  have B2 := hide (b1.trans (b2.mono b1.size))
  have S2 := hide ((O1.out.grow b2).sl' kE)
  clear O1 b1 b2
  have F1 := hide (fun (x y : Int) (W : World) (hb : Below w2.heap.size w2 W) => findO_any L al ll cl x y W (S2.out.later hb) (by omega))
  have F2 := hide (fun (x : Int) (W : World) (hb : Below w2.heap.size w2 W) => lastO_any L al ll cl x W (S2.out.later hb) (by omega))
  go_wp2
  go_loopw [10] (fun i wr => ∃ j : Nat, i = .int .i64 (j : Int) ∧ j ≤ ll ∧ Below w2.heap.size w2 wr ∧ Arr wr w2.heap.size 74 (gml (L.take j))) (fun i _ => ll - (intOf i).toNat)
  case atStart =>
    have := Arr.new w2 74 16 (.int .i64 0) (by omega)
    exact ⟨0, rfl, Nat.zero_le _, (Below.refl _ _).alloc (Nat.le_refl _) _, this⟩
  case round =>
    obtain ⟨j, rfl, hj, hb, hA⟩ := hrel
    by_cases hlt : j < ll
    · have hjL : j < L.length := by rw [HLL.out]; exact hlt
      have hg : L[j]? = some L[j] := List.getElem?_eq_getElem hjL
      have hck := chk_ok HG.out.ok hg
      obtain ⟨z0, z1, z2, _⟩ := ckE_zero (er_zero hck).1
      have hgt : gm (L.take j) L[j].c < L[j].n := by
        have h1 := (er_zero hck).2
        rw [tw_iff _ z2] at h1
        have := of_decide_eq_false h1
        omega
      have htk : L.take (j + 1) = L.take j ++ [L[j]] := by rw [List.take_add_one, hg]; rfl
      obtain ⟨q, o, rfl, hq, y0, y1, _, _, _⟩ := S2.out.en hg
      have FD : Hid (∀ W, Below w2.heap.size w2 W → Calls Try.prog 36 #[.slice (some ⟨q, o, none⟩) ll cl, .int .i64 L[j].c, .int .i64 L[j].n] W fun e w' => e = .returned (.int .i64 ((j : Int) + 1)) ∧ Below W.heap.size W w') := fun W hb => by
        have := F1.out L[j].c L[j].n W hb
        rw [fd_place HG.out.ok hg] at this
        exact this
      have HGS : Hid (∀ cN : Nat, L[j].c = (cN : Int) → cN < 16 → (gml (L.take j)).set cN (.int .i64 L[j].n) = gml (L.take (j + 1))) := fun cN h1 h2 => by rw [htk]; exact gml_set h1 h2 hgt
      generalize L[j] = x at *
      obtain ⟨xc, xn, op⟩ := x
      dsimp only at *
      obtain ⟨cN, rfl⟩ : ∃ cN : Nat, xc = (cN : Int) := ⟨xc.toNat, by omega⟩
      have hc16 : cN < 16 := by omega
      clear hg hck htk hgt z2
      have KH : Hid (∀ v, Below w2.heap.size w2 v → Arr v w2.heap.size 74 (gml (L.take j)) → (Below w2.heap.size w2 v ∧ v.cell? ⟨q, o + j * 5, none⟩ = some (.int .i64 (cN : Int)) ∧ v.cell? ⟨q, o + j * 5 + 1, none⟩ = some (.int .i64 xn) ∧ Arr v w2.heap.size 74 (gml (L.take j)))) := fun v b r =>
        ⟨b, (b.cell (p := ⟨q, o + j * 5, none⟩) hq).trans y0, (b.cell (p := ⟨q, o + j * 5 + 1, none⟩) hq).trans y1, r⟩
      clear y0 y1
      have HA := hide hA
      have HB := hide hb
      clear hA hb
      go_wp2_with fail
      refine region_qC (C := fun v => Below w2.heap.size w2 v ∧ v.cell? ⟨q, o + j * 5, none⟩ = some (.int .i64 (cN : Int)) ∧ v.cell? ⟨q, o + j * 5 + 1, none⟩ = some (.int .i64 xn) ∧ Arr v w2.heap.size 74 (gml (L.take j))) (by kernel_rfl) (by kernel_rfl) (KH.out _ HB.out.drew HA.out.drew) ?_
      refine BigFrame.wpQuiet_want (by rfl) (fun K hK => ⟨.slice (some ⟨q, o, none⟩) ll cl, fun w' hw' => ?_, hK _ ?_⟩)
      · go_simp
      clear hK
      simp only [Act.put, List.setIfInBounds_toArray, List.set_cons_zero, List.set_cons_succ]
      refine BigFrame.wpQuiet_want (by rfl) (fun K hK => ⟨.slice (some ⟨q, o, none⟩) ll cl, fun w' hw' => ?_, hK _ ?_⟩)
      · go_simp
      clear hK
      simp only [Act.put, List.setIfInBounds_toArray, List.set_cons_zero, List.set_cons_succ]
      refine BigFrame.wpQuiet_want (by rfl) (fun K hK => ⟨.int .i64 (j : Int), fun w' hw' => ?_, hK _ ?_⟩)
      · go_simp
      clear hK
      simp only [Act.put, List.setIfInBounds_toArray, List.set_cons_zero, List.set_cons_succ]
      refine BigFrame.wpQuiet_want (by rfl) (fun K hK => ⟨.pointer (some ⟨q, o + j * 5, none⟩), fun w' hw' => ?_, hK _ ?_⟩)
      · go_simp
      clear hK
      simp only [Act.put, List.setIfInBounds_toArray, List.set_cons_zero, List.set_cons_succ]
      refine BigFrame.wpQuiet_want (by rfl) (fun K hK => ⟨.pointer (some ⟨q, o + j * 5, none⟩), fun w' hw' => ?_, hK _ ?_⟩)
      · go_simp
      clear hK
      simp only [Act.put, List.setIfInBounds_toArray, List.set_cons_zero, List.set_cons_succ]
      refine BigFrame.wpQuiet_want (by rfl) (fun K hK => ⟨.int .i64 (cN : Int), fun w' hw' => ?_, hK _ ?_⟩)
      · (obtain ⟨_, e0, e1, _⟩ := hw'; go_simp)
      clear hK
      simp only [Act.put, List.setIfInBounds_toArray, List.set_cons_zero, List.set_cons_succ]
      refine BigFrame.wpQuiet_want (by rfl) (fun K hK => ⟨.slice (some ⟨q, o, none⟩) ll cl, fun w' hw' => ?_, hK _ ?_⟩)
      · go_simp
      clear hK
      simp only [Act.put, List.setIfInBounds_toArray, List.set_cons_zero, List.set_cons_succ]
      refine BigFrame.wpQuiet_want (by rfl) (fun K hK => ⟨.int .i64 (j : Int), fun w' hw' => ?_, hK _ ?_⟩)
      · go_simp
      clear hK
      simp only [Act.put, List.setIfInBounds_toArray, List.set_cons_zero, List.set_cons_succ]
      refine BigFrame.wpQuiet_want (by rfl) (fun K hK => ⟨.pointer (some ⟨q, o + j * 5, none⟩), fun w' hw' => ?_, hK _ ?_⟩)
      · go_simp
      clear hK
      simp only [Act.put, List.setIfInBounds_toArray, List.set_cons_zero, List.set_cons_succ]
      refine BigFrame.wpQuiet_want (by rfl) (fun K hK => ⟨.pointer (some ⟨q, o + j * 5 + 1, none⟩), fun w' hw' => ?_, hK _ ?_⟩)
      · go_simp
      clear hK
      simp only [Act.put, List.setIfInBounds_toArray, List.set_cons_zero, List.set_cons_succ]
      refine BigFrame.wpQuiet_want (by rfl) (fun K hK => ⟨.int .i64 xn, fun w' hw' => ?_, hK _ ?_⟩)
      · (obtain ⟨_, e0, e1, _⟩ := hw'; go_simp)
      clear hK
      simp only [Act.put, List.setIfInBounds_toArray, List.set_cons_zero, List.set_cons_succ]
      refine BigFrame.wpQuiet_want (by rfl) (fun K hK => ⟨.int .i64 ((j : Int) + 1), fun w' hw' => ?_, hK _ ?_⟩)
      · (go_simp; exact (FD.out w' hw'.1).mono (fun e w'' ⟨he, bv⟩ => ⟨he, KH.out w'' (hw'.1.trans (bv.mono hw'.1.size)) (hw'.2.2.2.later bv)⟩))
      clear hK
      simp only [Act.put, List.setIfInBounds_toArray, List.set_cons_zero, List.set_cons_succ]
      refine BigFrame.wpQuiet_want (by rfl) (fun K hK => ⟨.int .i64 (j : Int), fun w' hw' => ?_, hK _ ?_⟩)
      · go_simp
      clear hK
      simp only [Act.put, List.setIfInBounds_toArray, List.set_cons_zero, List.set_cons_succ]
      refine BigFrame.wpQuiet_want (by rfl) (fun K hK => ⟨.int .i64 ((j : Int) + 1), fun w' hw' => ?_, hK _ ?_⟩)
      · (go_simp; rw [IntKind.wrap_i64]; omega)
      clear hK
      simp only [Act.put, List.setIfInBounds_toArray, List.set_cons_zero, List.set_cons_succ]
      refine BigFrame.wpQuiet_want (by rfl) (fun K hK => ⟨.bool false, fun w' hw' => ?_, hK _ ?_⟩)
      · go_simp
      clear hK
      simp only [Act.put, List.setIfInBounds_toArray, List.set_cons_zero, List.set_cons_succ]
      refine wpQuiet_nil ?_
      rintro w6 ⟨b6, e0, e1, a6⟩
      have HB6 := hide b6
      have HA6 := hide a6
      have a0 := a6.cell (gml_get (L.take j) hc16)
      have af := a6.free cN
      generalize gm (L.take j) (cN : Int) = G at a0
      have hqN : Hid (q ≠ w2.heap.size) := by show _ ≠ _; omega
      clear a6 b6 HA HB KH FD
      have KS1 : Hid (w6.drew.cell? ⟨q, o + j * 5, none⟩ = some (.int .i64 (cN : Int)) ∧ w6.drew.cell? ⟨q, o + j * 5 + 1, none⟩ = some (.int .i64 xn) ∧ w6.drew.cell? ⟨w2.heap.size, cN, none⟩ = some (.int .i64 (cellZ w6.drew ⟨w2.heap.size, cN, none⟩)) ∧ w6.drew.frozen? ⟨w2.heap.size, cN, none⟩ = false) := ⟨e0, e1, by unfold cellZ; rw [show w6.drew.cell? ⟨w2.heap.size, cN, none⟩ = some (.int .i64 G) from a0]; rfl, af⟩
      have KS2 : Hid ((w6.drew.setCell ⟨w2.heap.size, cN, none⟩ (.int .i64 xn)).cell? ⟨q, o + j * 5, none⟩ = some (.int .i64 (cN : Int)) ∧ (w6.drew.setCell ⟨w2.heap.size, cN, none⟩ (.int .i64 xn)).cell? ⟨q, o + j * 5 + 1, none⟩ = some (.int .i64 xn) ∧ (w6.drew.setCell ⟨w2.heap.size, cN, none⟩ (.int .i64 xn)).cell? ⟨w2.heap.size, cN, none⟩ = some (.int .i64 (cellZ (w6.drew.setCell ⟨w2.heap.size, cN, none⟩ (.int .i64 xn)) ⟨w2.heap.size, cN, none⟩)) ∧ (w6.drew.setCell ⟨w2.heap.size, cN, none⟩ (.int .i64 xn)).frozen? ⟨w2.heap.size, cN, none⟩ = false) := by
        have s0 : (w6.drew.setCell ⟨w2.heap.size, cN, none⟩ (.int .i64 xn)).cell? ⟨w2.heap.size, cN, none⟩ = some (.int .i64 xn) := setc_eq (w := w6.drew) (x := .int .i64 G) a0
        refine ⟨setc_other (w := w6.drew) e0 hqN.out, setc_other (w := w6.drew) e1 hqN.out, by unfold cellZ; rw [s0]; rfl, ?_⟩
        exact (HA6.out.drew.set cN (.int .i64 xn)).free cN
      go_wp2_with fail
      go_region_held3 (fun v => v.cell? ⟨q, o + j * 5, none⟩ = some (.int .i64 (cN : Int)) ∧ v.cell? ⟨q, o + j * 5 + 1, none⟩ = some (.int .i64 xn) ∧ v.cell? ⟨w2.heap.size, cN, none⟩ = some (.int .i64 (cellZ v ⟨w2.heap.size, cN, none⟩)) ∧ v.frozen? ⟨w2.heap.size, cN, none⟩ = false)
        (first | with_reducible exact KS1.out | exact KS2.out) (fail)
      go_wp2
      go_round
      case rel => exact ⟨j + 1, by go_num, by omega, (HB6.out.drew).setCell (Nat.le_refl _) _, by rw [← HGS.out cN rfl hc16]; exact HA6.out.drew.set cN (.int .i64 xn)⟩
      case measure => simp [intOf]; omega
    · obtain rfl : ll = j := by omega
      have hLT : L.take ll = L := List.take_of_length_le (by rw [HLL.out]; exact Nat.le_refl _)
      rw [hLT] at hA
      have dn : decide ((ll : Int) < (ll : Int)) = false := by simp
      have HA := hide hA
      have HB := hide hb
      clear hA hb hLT
      go_wp2
      go_loopw [11] (fun i ws => ∃ m : Nat, i = .int .i64 (m : Int) ∧ m ≤ 16 ∧ Below w2.heap.size w2 ws ∧ Arr ws w2.heap.size 74 (gml L)) (fun i _ => 16 - (intOf i).toNat)
      case atStart => exact ⟨0, rfl, by omega, HB.out, HA.out⟩
      case round =>
        obtain ⟨m, rfl, hm, hb, hA⟩ := hrel
        by_cases hlm : m < 16
        · have LA := hide (F2.out (m : Int))
          have KH : Hid (∀ v, Below w2.heap.size w2 v → Arr v w2.heap.size 74 (gml L) → (Below w2.heap.size w2 v ∧ Arr v w2.heap.size 74 (gml L) ∧ v.cell? ⟨w2.heap.size, m, none⟩ = some (.int .i64 (gm L (m : Int))))) := fun v b r => ⟨b, r, r.cell (gml_get L hlm)⟩
          have HA2 := hide hA
          have HB2 := hide hb
          clear hA hb
          obtain ⟨G, hGe⟩ : ∃ G, gm L (m : Int) = G := ⟨_, rfl⟩
          rw [hGe] at KH LA
          clear hGe
          go_wp2_with fail
          refine region_qC (C := fun v => Below w2.heap.size w2 v ∧ Arr v w2.heap.size 74 (gml L) ∧ v.cell? ⟨w2.heap.size, m, none⟩ = some (.int .i64 G)) (by kernel_rfl) (by kernel_rfl) (KH.out _ HB2.out.drew HA2.out.drew) ?_
          refine BigFrame.wpQuiet_want (by rfl) (fun K hK => ⟨.slice al ll cl, fun w' hw' => ?_, hK _ ?_⟩)
          · go_simp
          clear hK
          simp only [Act.put, List.setIfInBounds_toArray, List.set_cons_zero, List.set_cons_succ]
          refine BigFrame.wpQuiet_want (by rfl) (fun K hK => ⟨.int .i64 (m : Int), fun w' hw' => ?_, hK _ ?_⟩)
          · go_simp
          clear hK
          simp only [Act.put, List.setIfInBounds_toArray, List.set_cons_zero, List.set_cons_succ]
          refine BigFrame.wpQuiet_want (by rfl) (fun K hK => ⟨.int .i64 G, fun w' hw' => ?_, hK _ ?_⟩)
          · (go_simp; exact (LA.out w' hw'.1).mono (fun e w'' ⟨he, bv⟩ => ⟨he, KH.out w'' (hw'.1.trans (bv.mono hw'.1.size)) (hw'.2.1.later bv)⟩))
          clear hK
          simp only [Act.put, List.setIfInBounds_toArray, List.set_cons_zero, List.set_cons_succ]
          refine BigFrame.wpQuiet_want (by rfl) (fun K hK => ⟨.int .i64 (m : Int), fun w' hw' => ?_, hK _ ?_⟩)
          · go_simp
          clear hK
          simp only [Act.put, List.setIfInBounds_toArray, List.set_cons_zero, List.set_cons_succ]
          refine BigFrame.wpQuiet_want (by rfl) (fun K hK => ⟨.pointer (some ⟨w2.heap.size, m, none⟩), fun w' hw' => ?_, hK _ ?_⟩)
          · go_simp
          clear hK
          simp only [Act.put, List.setIfInBounds_toArray, List.set_cons_zero, List.set_cons_succ]
          refine BigFrame.wpQuiet_want (by rfl) (fun K hK => ⟨.int .i64 G, fun w' hw' => ?_, hK _ ?_⟩)
          · (obtain ⟨_, _, e0⟩ := hw'; go_simp)
          clear hK
          simp only [Act.put, List.setIfInBounds_toArray, List.set_cons_zero, List.set_cons_succ]
          refine BigFrame.wpQuiet_want (by rfl) (fun K hK => ⟨.bool false, fun w' hw' => ?_, hK _ ?_⟩)
          · go_simp
          clear hK
          simp only [Act.put, List.setIfInBounds_toArray, List.set_cons_zero, List.set_cons_succ]
          refine wpQuiet_nil ?_
          rintro w7 ⟨b7, a7, _⟩
          have HB7 := hide b7
          have HA7 := hide a7
          clear b7 a7
          go_wp2
          go_round
          case rel => exact ⟨m + 1, by go_num, by omega, HB7.out, HA7.out⟩
          case measure => simp [intOf]; omega
        · obtain rfl : m = 16 := by omega
          have FK := hide (F1.out k1 k2 _ hb)
          have HB3 := hide hb
          have HSP := hide (fdA_spec k1 k2 L 0)
          clear hA hb HA HB
          go_wp2_with fail
          refine FK.out.mono ?_
          rintro e w8 ⟨rfl, b8⟩
          have B8 := hide (HB3.out.trans (b8.mono HB3.out.size))
          have BW := hide (B2.out.trans (B8.out.mono B2.out.size))
          have S8 := hide (S2.out.later B8.out)
          clear FK HB3 b8 B2 S2 F1 F2 B8
          rcases HSP.out with ⟨h1, h2⟩ | ⟨k, x, h1, h2, h3, h4⟩
          · have e0 : ((fd L k1 k2 : Nat) : Int) = 0 := by rw [fd, h1]; rfl
            rw [e0]
            have HNO := hide h2
            clear h1 h2 HSP e0
            go_wp2
            go_loopw [13] (fun i ws => ∃ m : Nat, i = .int .i64 (m : Int) ∧ m ≤ ll ∧ ws = w8) (fun i _ => ll - (intOf i).toNat)
            case atStart => exact ⟨0, rfl, Nat.zero_le _, rfl⟩
            case round =>
              obtain ⟨m, rfl, hm, e8⟩ := hrel
              subst e8
              by_cases hlt : m < ll
              · have hmL : m < L.length := by rw [HLL.out]; exact hlt
                have hg : L[m]? = some L[m] := List.getElem?_eq_getElem hmL
                have hno := HNO.out L[m] (List.getElem_mem hmL)
                obtain ⟨q, o, rfl, hq, y0, y1, _, _, _⟩ := S8.out.en hg
                generalize L[m] = x at *
                obtain ⟨xc, xn, op⟩ := x
                dsimp only at *
                clear hg
                by_cases hc : xc = k1
                · have hn : ¬ xn = k2 := fun e => hno ⟨hc, e⟩
                  subst hc
                  have dn2 : decide (xn = k2) = false := by simpa using hn
                  clear hno
                  go_wp2
                  go_round
                  case rel => exact ⟨m + 1, by go_num, by omega, trivial⟩
                  case measure => simp [intOf]; omega
                · have dn2 : decide (xc = k1) = false := by simpa using hc
                  clear hno
                  go_wp2
                  go_round
                  case rel => exact ⟨m + 1, by go_num, by omega, trivial⟩
                  case measure => simp [intOf]; omega
              · obtain rfl : m = ll := by omega
                go_wp2
                go_ret
                exact ⟨rfl, BW.out⟩
          · have hkl := (List.getElem?_eq_some_iff.1 h2).1
            rw [HLL.out] at hkl
            have e0 : ((fd L k1 k2 : Nat) : Int) = (k : Int) + 1 := by rw [fd, h1]; omega
            rw [e0]
            obtain ⟨q, o, rfl, hq, y0, y1, _, _, _⟩ := S8.out.en h2
            rw [h3] at y0
            rw [h4] at y1
            clear h1 h2 h3 h4 HSP e0
            have hk0 : decide ((k : Int) + 1 = 0) = false := by simp; omega
            have hk1 : decide ((k : Int) + 1 < 0) = false := by simp; omega
            have hk2 : decide ((ll : Int) < (k : Int) + 1) = false := by simp; omega
            go_wp2
            go_loopw [13] (fun i ws => i = .int .i64 0 ∧ ws = w8) (fun i _ => 0)
            case atStart => exact ⟨rfl, rfl⟩
            case round =>
              obtain ⟨rfl, e8⟩ := hrel
              subst e8
              go_wp2
              go_ret
              exact ⟨rfl, BW.out⟩
theorem place6_came (a : Option Addr) (len cap : Nat) (k1 k2 : Int) (W : World) (h : CameR W a len cap) :
    Calls Try.prog 13 #[.slice a len cap, .int .i64 k1, .int .i64 k2] W fun e w' => e = .returned (.bool true) ∧ Below W.heap.size W w' := by
  obtain ⟨P, hs, hf, hm⟩ := h
  exact place6_walk P a len cap k1 k2 W hs hf

end Go.Proofs.Ytdfoafpcoigklaa
