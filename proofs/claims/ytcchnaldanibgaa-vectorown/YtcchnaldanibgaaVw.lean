import Derived.Test.YtcchnaldanibgaaVv
namespace Go.Proofs.Ytcchnaldanibgaa
open Go.RowKit
set_option linter.unusedVariables false
set_option linter.unusedSimpArgs false

theorem col_snoc (k : Nat) : ∀ (L : List (List (Int × Int))) (m : Int × Int) (V : List (Int × Int)), col k m (L ++ [V]) = mx (col k m L) (at2 V k)
  | [], m, V => rfl
  | X :: L, m, V => by rw [List.cons_append, col, col, col_snoc k L]
theorem take_snoc_at2 {F : List (Int × Int)} {k : Nat} (h : k < F.length) : F.take (k + 1) = F.take k ++ [at2 F k] := by
  rw [List.take_add_one, some_at2 h]; rfl
theorem OwnD.other {B : Nat} {w : World} {v : Value} {l : List (Int × Int)} (h : OwnD B w v l) {p : Addr} (hp : v.ownBlock ≠ some p.block) (u : Value) : OwnD B (w.setCell p u) v l := ownsRow_setCell_other h hp u

theorem refmerge_none (a : Option Addr) (c : Nat) (w : World) :
    Calls Try.prog 21 #[.slice a 0 c] w fun e w' => e = .returned (.tuple #[.slice none 0 0, .int .i64 30]) ∧ w' = w := by
  go_enter Try.func21, Try.ntmps21
  go_wp2
  go_ret2
  exact ⟨rfl, rfl⟩
set_option maxRecDepth 100000 in
set_option maxHeartbeats 2000000 in
theorem refmerge_any (x : Vec) (T : List Vec) (q o c n1 : Nat) (w : World) (h : LieV w q o (x :: T)) (hq : q < w.heap.size) (hn1 : T.length + 1 = n1) (hc : n1 ≤ c) (hm : c ≤ maxLen) :
    Calls Try.prog 21 #[.slice (some ⟨q, o, none⟩) n1 c] w fun e w' =>
      ((((1 ≤ x.D.length ∧ x.D.length ≤ 7) ∧ ∀ y, y ∈ T → y.D.length = x.D.length) ∧ ∃ a c', e = .returned (.tuple #[.slice a x.D.length c', .int .i64 0]) ∧ SlN w' a x.D.length c' (mer x.D (T.map (·.D))))
      ∨ (¬ ((1 ≤ x.D.length ∧ x.D.length ≤ 7) ∧ ∀ y, y ∈ T → y.D.length = x.D.length) ∧ e = .returned (.tuple #[.slice none 0 0, .int .i64 30]))) ∧ Below w.heap.size w w' := by
  have e0 := (h 0 x rfl).1
  have t0 := (h 0 x rfl).2
  rw [Nat.add_zero] at e0
  have HL := hide h
  have HX := hide t0
  unfold maxLen at hm
  have HN : Hid ((x :: T).length = n1) := by show _ = _; rw [List.length_cons, hn1]
  have hT : Hid (T.length + 1 = n1) := hn1
  have p1 : 0 < n1 := by omega
  have f1 : ((n1 : Int) == 0) = false := by simp; omega
  clear h t0 hn1
  generalize hn : x.D.length = n at *
  have HXL := hide hn
  clear hn
  have HE := hide e0
  clear e0
  go_enter Try.func21, Try.ntmps21
  go_wp2_with fail
  go_loopw [4] (fun i wr => ∃ (k : Nat), i = .int .i64 (k : Int) ∧ k ≤ n1 ∧ (∀ y, y ∈ (x :: T).take k → (1 ≤ y.D.length ∧ y.D.length ≤ 7) ∧ y.D.length = n) ∧ Below w.heap.size w wr) (fun i _ => n1 - (intOf i).toNat)
  case atStart => exact ⟨0, rfl, Nat.zero_le _, (fun y hy => by cases hy), Below.refl _ _⟩
  case round =>
    obtain ⟨k, rfl, hk, hall, hb⟩ := hrel
    have e0 := (hb.cell (p := ⟨q, o, none⟩) hq).trans HE.out
    by_cases hlt : k < n1
    · obtain ⟨y, hy⟩ : ∃ y, (x :: T)[k]? = some y := ⟨_, List.getElem?_eq_getElem (by rw [HN.out]; exact hlt)⟩
      have e1 := (hb.cell (p := ⟨q, o + k, none⟩) hq).trans (HL.out k y hy).1
      have hmem := List.mem_of_getElem? hy
      have ST : Hid ((x :: T).take (k + 1) = (x :: T).take k ++ [y]) := by show _ = _; rw [List.take_add_one, hy]; rfl
      have HA := hide hall
      clear hall hy
      have HM := fun j => hide (refmay_any y.a y.D.length y.c (wr.drewN j))
      by_cases hmy : 1 ≤ y.D.length ∧ y.D.length ≤ 7
      · rw [decide_eq_true hmy] at HM
        by_cases hyn : y.D.length = n
        · rw [hyn] at HM e1
          have HY := hide (And.intro hmy hyn)
          clear hmy hyn hmem
          generalize y.a = ya at *
          generalize y.c = yc at *
          go_wp2_with fail
          go_quiet ((go_at_call 42; exact Calls.quiet_of_same (HM _).out))
          clear HM
          go_wp2
          go_round
          case rel =>
            refine ⟨k + 1, by go_num, by omega, fun z hz => ?_, below_drewN hb nq⟩
            rw [ST.out, List.mem_append, List.mem_singleton] at hz
            rcases hz with hz | rfl
            · exact HA.out z hz
            · exact HY.out
          case measure => simp [intOf]; omega
        · have BAD : Hid (¬ ((1 ≤ n ∧ n ≤ 7) ∧ ∀ y, y ∈ T → y.D.length = n)) := fun hh => by
            rcases List.mem_cons.1 hmem with rfl | hm
            · exact hyn HXL.out
            · exact hyn (hh.2 y hm)
          have f2 : ((y.D.length : Int) == (n : Int)) = false := by simp; omega
          have f3 : ((y.D.length : Int) != (n : Int)) = true := by simp; omega
          clear hmy hmem
          generalize y.D.length = yl at *
          generalize y.a = ya at *
          generalize y.c = yc at *
          go_wp2_with fail
          go_quiet ((go_at_call 42; exact Calls.quiet_of_same (HM _).out))
          clear HM
          go_wp2
          go_ret2
          exact ⟨.inr ⟨BAD.out, rfl⟩, below_drewN hb nq⟩
      · rw [decide_eq_false hmy] at HM
        have BAD : Hid (¬ ((1 ≤ n ∧ n ≤ 7) ∧ ∀ y, y ∈ T → y.D.length = n)) := fun hh => by
          rcases List.mem_cons.1 hmem with rfl | hm
          · exact hmy (by rw [HXL.out]; exact hh.1)
          · exact hmy (by rw [hh.2 y hm]; exact hh.1)
        clear hmy hmem
        generalize y.D.length = yl at *
        generalize y.a = ya at *
        generalize y.c = yc at *
        go_wp2_with fail
        go_quiet ((go_at_call 42; exact Calls.quiet_of_same (HM _).out))
        clear HM
        go_wp2
        go_ret2
        exact ⟨.inr ⟨BAD.out, rfl⟩, below_drewN hb nq⟩
    · obtain rfl : k = n1 := by omega
      rw [List.take_of_length_le (by rw [HN.out]; exact Nat.le_refl _)] at hall
      have hx7 := (hall x (by simp)).1
      rw [HXL.out] at hx7
      have GOOD : Hid ((1 ≤ n ∧ n ≤ 7) ∧ ∀ y, y ∈ T → y.D.length = n) := ⟨hx7, fun y hy => (hall y (List.mem_cons_of_mem _ hy)).2⟩
      have n0 : 1 ≤ n := hx7.1
      have n7 : n ≤ 7 := hx7.2
      clear hall hx7
      obtain ⟨w0, hw0⟩ : ∃ w0, w0 = wr := ⟨_, rfl⟩
      subst hw0
      have FL : Hid ((mer x.D (T.map (·.D))).length = n) := by show _ = _; rw [mer_length]; exact HXL.out
      go_wp2_with fail
      go_loopw [6, 5] (fun i v wr => ∃ (k : Nat), i = .int .i64 (k : Int) ∧ k ≤ n ∧ OwnD w.heap.size wr v ((mer x.D (T.map (·.D))).take k) ∧ Below w.heap.size w wr) (fun i _ _ => n - (intOf i).toNat)
      case atStart => exact ⟨0, rfl, Nat.zero_le _, OwnD.nil _ _, hb⟩
      case round =>
        obtain ⟨j, rfl, hj, ho, hb2⟩ := hrel
        have hs2 := hb2.size
        have e2 := (hb2.cell (p := ⟨q, o, none⟩) hq).trans HE.out
        by_cases hlt2 : j < n
        · obtain ⟨w9, hw9⟩ : ∃ w9, w9 = wr := ⟨_, rfl⟩
          subst hw9
          have hxne : x.D ≠ [] := by
            intro e
            have := HXL.out
            rw [e] at this
            simp at this
            omega
          obtain ⟨qx, ox, hxa, hqx, hlx⟩ := Sl.place HX.out hxne
          have hd0 := some_at2 (A := x.D) (k := j) (by rw [HXL.out]; exact hlt2)
          obtain ⟨g0, g1⟩ := hlx.later hqx hb2 hqx j _ hd0
          have CI : Hid (col j (at2 x.D j) ((T.map (·.D)).take 0) = at2 x.D j) := rfl
          have CL : Hid (at2 (mer x.D (T.map (·.D))) j = col j (at2 x.D j) (T.map (·.D))) := mer_at j _ _ (by rw [HXL.out]; exact hlt2)
          have kx := Sl.cap HX.out
          have kxm := Sl.max HX.out
          unfold maxLen at kxm
          rw [HXL.out] at kx
          rw [hxa] at e2
          have HO := hide (ho.alloc (.cells #[.int .u64 (at2 x.D j).1, .int .u64 (at2 x.D j).2] 26))
          have HBK := hide (fun k hk => (ho.blk k hk).2)
          clear ho hlx hd0 hxa hxne e0
          generalize x.c = xc at *
          generalize hx0 : at2 x.D j = d0 at *
          obtain ⟨X0, Y0⟩ := d0
          simp only at g0 g1 HO
          have STX : Hid ((mer x.D (T.map (·.D))).take (j + 1) = (mer x.D (T.map (·.D))).take j ++ [at2 (mer x.D (T.map (·.D))) j]) := take_snoc_at2 (by rw [FL.out]; exact hlt2)
          have LNT : Hid (((mer x.D (T.map (·.D))).take j).length = j) := by show _ = _; rw [List.length_take, FL.out]; omega
          generalize (mer x.D (T.map (·.D))).take j = FT at *
          go_wp2_with fail
          go_loopw [8] (fun i ws => ∃ i' : Nat, i = .int .i64 (i' : Int) ∧ 1 ≤ i' ∧ i' ≤ k ∧ Below w.heap.size w ws ∧ w9.heap.size < ws.heap.size ∧ OwnD w.heap.size ws u5 FT ∧ ws.cell? ⟨w9.heap.size, 0, none⟩ = some (.int .u64 (col j (X0, Y0) ((T.map (·.D)).take (i' - 1))).1) ∧ ws.cell? ⟨w9.heap.size, 1, none⟩ = some (.int .u64 (col j (X0, Y0) ((T.map (·.D)).take (i' - 1))).2) ∧ ws.frozen? ⟨w9.heap.size, 0, none⟩ = false ∧ ws.frozen? ⟨w9.heap.size, 1, none⟩ = false) (fun i _ => k - (intOf i).toNat)
          case atStart => exact ⟨1, rfl, Nat.le_refl _, p1, hb2.alloc hs2 _, by simp, HO.out, by simp [col], by simp [col], by simp, by simp⟩
          case round =>
            obtain ⟨i, rfl, hi1, hik, hb3, hs3, ho3, c0, c1, fz0, fz1⟩ := hrel
            by_cases hlt3 : i < k
            · obtain ⟨y, hy⟩ : ∃ y, (x :: T)[i]? = some y := ⟨_, List.getElem?_eq_getElem (by rw [HN.out]; exact hlt3)⟩
              have hyT : T[i - 1]? = some y := by
                obtain ⟨i2, rfl⟩ : ∃ i2, i = i2 + 1 := ⟨i - 1, by omega⟩
                simpa using hy
              have hyl := GOOD.out.2 y (List.mem_of_getElem? hyT)
              have hyne : y.D ≠ [] := by
                intro e
                rw [e] at hyl
                simp at hyl
                omega
              obtain ⟨ey, vy⟩ := HL.out i y hy
              have ey := (hb3.cell (p := ⟨q, o + i, none⟩) hq).trans ey
              obtain ⟨qy, oy, hya, hqy, hly⟩ := Sl.place vy hyne
              have hdy := some_at2 (A := y.D) (k := j) (by rw [hyl]; exact hlt2)
              obtain ⟨r0, r1⟩ := hly.later hqy hb3 hqy j _ hdy
              have ky := Sl.cap vy
              have kym := Sl.max vy
              unfold maxLen at kym
              rw [hyl] at ky ey
              rw [hya] at ey
              have CS : Hid (col j (X0, Y0) ((T.map (·.D)).take (i + 1 - 1)) = mx (col j (X0, Y0) ((T.map (·.D)).take (i - 1))) (at2 y.D j)) := by
                show _ = _
                rw [← col_snoc]
                congr 1
                rw [Nat.add_sub_cancel]
                obtain ⟨i2, rfl⟩ : ∃ i2, i = i2 + 1 := ⟨i - 1, by omega⟩
                rw [Nat.add_sub_cancel] at hyT ⊢
                rw [List.take_add_one]
                simp [hyT]
              have OO := hide ho3
              clear hy hyT hyl hyne vy hya hly hdy ho3
              generalize y.c = yc at *
              generalize at2 y.D j = d2 at *
              generalize col j (X0, Y0) ((T.map (·.D)).take (i - 1)) = d1 at *
              obtain ⟨a1, a2⟩ := d1
              obtain ⟨b1, b2⟩ := d2
              simp only at c0 c1 r0 r1
              have KS : ∀ v, Below wr.heap.size wr v → (Below wr.heap.size wr v ∧ v.cell? ⟨w9.heap.size, 0, none⟩ = some (.int .u64 a1) ∧ v.cell? ⟨w9.heap.size, 1, none⟩ = some (.int .u64 a2) ∧ v.cell? ⟨q, o + i, none⟩ = some (.slice (some ⟨qy, oy, none⟩) n yc) ∧ v.cell? ⟨qy, oy + j * 2, none⟩ = some (.int .u64 b1) ∧ v.cell? ⟨qy, oy + j * 2 + 1, none⟩ = some (.int .u64 b2)) := fun v b =>
                ⟨b, (b.cell (p := ⟨w9.heap.size, 0, none⟩) hs3).trans c0, (b.cell (p := ⟨w9.heap.size, 1, none⟩) hs3).trans c1, (b.cell (p := ⟨q, o + i, none⟩) (by show q < wr.heap.size; omega)).trans ey, (b.cell (p := ⟨qy, oy + j * 2, none⟩) (by show qy < wr.heap.size; omega)).trans r0, (b.cell (p := ⟨qy, oy + j * 2 + 1, none⟩) (by show qy < wr.heap.size; omega)).trans r1⟩
              have KH := hide KS
              clear KS
              go_wp2_with fail
              go_region_held3 (fun v => Below wr.heap.size wr v ∧ v.cell? ⟨w9.heap.size, 0, none⟩ = some (.int .u64 a1) ∧ v.cell? ⟨w9.heap.size, 1, none⟩ = some (.int .u64 a2) ∧ v.cell? ⟨q, o + i, none⟩ = some (.slice (some ⟨qy, oy, none⟩) n yc) ∧ v.cell? ⟨qy, oy + j * 2, none⟩ = some (.int .u64 b1) ∧ v.cell? ⟨qy, oy + j * 2 + 1, none⟩ = some (.int .u64 b2))
                (first | exact KH.out _ (Below.refl _ _).drew | exact KH.out _ (by assumption))
                (first
                  | (go_at_call 47; refine (refbelow_any _ _ _ _ _).mono ?_; rintro e v ⟨rfl, bv⟩; have bb : Below wr.heap.size wr v := Below.on (Nat.le_refl _) (by first | assumption | exact (Below.refl _ _).drew) bv; clear bv))
              obtain ⟨_, v0, v1, v2, v3, v4⟩ := KH.out v bb
              have vf0 := (bb.frozen (p := ⟨w9.heap.size, 0, none⟩) hs3).trans fz0
              have vf1 := (bb.frozen (p := ⟨w9.heap.size, 1, none⟩) hs3).trans fz1
              have hbv : Below w.heap.size w v := hb3.trans (bb.mono hb3.size)
              have OV := hide (OO.out.bel bb (Nat.le_refl _))
              have hsv : w9.heap.size < v.heap.size := Nat.lt_of_lt_of_le hs3 bb.size
              clear KH c0 c1 ey r0 r1 fz0 fz1 OO bb
              by_cases hc : cmpD a1 a2 b1 b2 < 0
              · have CM : Hid (mx (a1, a2) (b1, b2) = (b1, b2)) := by
                  show _ = _
                  unfold mx
                  rw [if_pos]
                  rw [← cm_swap]
                  exact hc
                have OV2 : Hid (OwnD w.heap.size ((v.setCell ⟨w9.heap.size, 0, none⟩ (.int .u64 b1)).setCell ⟨w9.heap.size, 1, none⟩ (.int .u64 b2)) u5 FT) := (OV.out.other (fun e => by have := HBK.out _ e; simp at this) _).other (fun e => by have := HBK.out _ e; simp at this) _
                go_wp2
                go_round
                case rel =>
                  refine ⟨i + 1, by go_num, by omega, by omega, (hbv.setCell (by show w.heap.size ≤ w9.heap.size; exact hs2) _).setCell (by show w.heap.size ≤ w9.heap.size; exact hs2) _, by simpa [World.setCell] using hsv, OV2.out, ?_, ?_, ?_, ?_⟩
                  · rw [CS.out, CM.out]; go_simp
                  · rw [CS.out, CM.out]; go_simp
                  · go_simp
                  · go_simp
                case measure => simp [intOf]; omega
              · have CM : Hid (mx (a1, a2) (b1, b2) = (a1, a2)) := by
                  show _ = _
                  unfold mx
                  rw [if_neg]
                  rw [← cm_swap]
                  exact hc
                go_wp2
                go_round
                case rel =>
                  refine ⟨i + 1, by go_num, by omega, by omega, hbv, hsv, OV.out, ?_, ?_, vf0, vf1⟩
                  · rw [CS.out, CM.out]; exact v0
                  · rw [CS.out, CM.out]; exact v1
                case measure => simp [intOf]; omega
            · obtain rfl : i = k := by omega
              rw [List.take_of_length_le (by rw [List.length_map]; have := hT.out; omega)] at c0 c1
              have CLL := hide (CL.out)
              clear CL
              generalize col j (X0, Y0) (T.map (·.D)) = d1 at *
              obtain ⟨a1, a2⟩ := d1
              simp only at c0 c1
              have OO := hide (ho3.alloc (.cells #[.int .u64 a1, .int .u64 a2] 26))
              clear ho3
              go_wp2_with (at_builtin; go_must (refine app_draw _ rfl (.tmp 72) (.tmp 74) rfl w.heap.size FT _ rfl ⟨wr.heap.size, 0, none⟩ rfl a1 a2 (by simp) (by simp [Addr.add]) OO.out (by have := hb3.size; simp; omega) (by rw [LNT.out]; omega) ?_))
              intro v' w2 o2 _ g2
              have b2' : Below w.heap.size w w2 := OO.out.grown (hb3.alloc hb3.size _) g2 (by have := hb3.size; simp; omega)
              have O2 := hide o2
              clear OO o2 g2
              go_wp2
              go_round
              case rel => exact ⟨j + 1, by go_num, by omega, by rw [STX.out, CLL.out]; exact O2.out, b2'⟩
              case measure => simp [intOf]; omega
        · obtain rfl : j = n := by omega
          rw [List.take_of_length_le (by rw [FL.out]; exact Nat.le_refl _)] at ho
          obtain ⟨a', c', hv, hs, _⟩ := ho.form
          rw [FL.out] at hv
          subst hv
          have HO := hide ho
          clear ho
          go_wp2
          go_ret2
          have hsl := HO.out.sl
          obtain ⟨a2, c2, hsl, _⟩ := hsl
          have hf := hsl.form
          injection hf with g1 g2 g3
          subst g1 g3
          exact ⟨.inl ⟨GOOD.out, _, _, rfl, ⟨FL.out, by rw [FL.out]; exact hsl⟩⟩, hb2⟩

end Go.Proofs.Ytcchnaldanibgaa
