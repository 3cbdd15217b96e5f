import Derived.Test.YtifhdelkmhlcoaaTv
namespace Go.Proofs.Ytifhdelkmhlcoaa
open Go.RowKit
set_option linter.unusedVariables false

/-- A slice of draws of the call's own, whatever they are. -/
def OwnX (B : Nat) (w : World) (v : Value) (n : Nat) : Prop := ∃ xs, w.ownsRow B 24 2 v n xs
theorem OwnX.stored {B : Nat} {w : World} {g n c : Nat} (h : OwnX B w (.slice (some ⟨g, 0, none⟩) n c) n) (i : Nat) (x y : Value) : OwnX B ((w.setCell ⟨g, i * 2, none⟩ x).setCell ⟨g, i * 2 + 1, none⟩ y) (.slice (some ⟨g, 0, none⟩) n c) n := by
  obtain ⟨xs, h⟩ := h
  exact ⟨_, (World.ownsRow.stored (World.ownsRow.stored h (i * 2) x).1 (i * 2 + 1) y).1⟩
theorem OwnX.cell {B : Nat} {w : World} {g n c : Nat} (h : OwnX B w (.slice (some ⟨g, 0, none⟩) n c) n) (i : Nat) (hi : i < n) : (∃ u, w.cell? ⟨g, i * 2, none⟩ = some u) ∧ (∃ u, w.cell? ⟨g, i * 2 + 1, none⟩ = some u) ∧ w.frozen? ⟨g, i * 2, none⟩ = false ∧ w.frozen? ⟨g, i * 2 + 1, none⟩ = false := by
  obtain ⟨xs, h⟩ := h
  have hl := h.1
  have e0 := World.ownsRow.cellAt h (i * 2) (by omega)
  have e1 := World.ownsRow.cellAt h (i * 2 + 1) (by omega)
  rw [List.getElem?_eq_getElem (by omega)] at e0 e1
  exact ⟨⟨_, e0⟩, ⟨_, e1⟩, World.ownsRow.frozenAt h _, World.ownsRow.frozenAt h _⟩
theorem app_three (w : World) {ops : Array Oper} {rest : List Oper} {o : Oper} {a : Act} {Q : Exit → Act → World → Prop} (hgd : o.guard = none) (s x : Operand)
    (ho : o.op = .call { callee := .builtin .append, args := #[s, x], argTypes := #[33, 33] }) (B n : Nat) (v : Value) (hs : a.eval s = v)
    (ad : Addr) (hx : a.eval x = .slice (some ad) 3 3) (news : List Value) (hl : news.length = 6) (hc : ∀ j u, news[j]? = some u → w.cell? (ad.add j) = some u) (h1 : ∀ u ∈ news, u.oneCell' = true) (hown : OwnX B w v n) (hB : B ≤ w.heap.size) (hb : (n + 3) * 16 ≤ 140737488355328)
    (hk : ∀ v' w', w.grownBy w' v.ownBlock → wpList Try.prog ops Q rest (a.put o.dst v') w') : wpList Try.prog ops Q (o :: rest) a w := by
  obtain ⟨xs, hown⟩ := hown
  obtain ⟨i0, hi, hz0, hz1, hz2⟩ := info_parts info_draw
  refine wpList_append_own _ hgd s x 33 ho B 24 i0 (.agg #[.int .u64 0, .int .u64 0]) 2 16 Try.underlying33 hi hz0 hz1 hz2 rfl (by decide) v n xs hs hown ad 3 3 news hx (by omega) hc h1 (by unfold maxLen; omega) hb hB ?_
  intro v' w' h2 h3 h4
  exact hk v' w' h3
theorem wrapn (n : Nat) (h : n ≤ 9223372036854775807) : IntKind.i64.wrap (n : Int) = n := by
  rw [IntKind.wrap_i64]
  omega

theorem TS.keep {w0 w w6 : World} {s : Nat} {E : List (Int × Int)} {aw : Option Addr} {cw : Nat} (h : TS w0 w s E aw cw) (b : Below w.heap.size w w6) : TS w0 w6 s E aw cw := by
  obtain ⟨h1, h2, ⟨a', c', T, hz⟩, h4, h5⟩ := h
  have u : Upd (fun _ => False) w w6 := Upd.of_below b
  exact ⟨h1.upd u (fun _ _ _ => id), h2, ⟨a', c', T.upd u id (fun _ _ => id), hz⟩, h4, h5.trans (b.mono h5.size)⟩

set_option maxRecDepth 100000 in
set_option maxHeartbeats 3200000 in
theorem takes_walk (D : List (Int × Int)) (a : Option Addr) (c : Nat) (n m : Int) (w : World) (h : Sl w (.slice a D.length c) D a c) (hb : D.length * 16 ≤ 140737488351232) (hz0 : ∀ z, a = some z → D ≠ [] → z.block < w.heap.size) :
    Calls Try.prog 6 #[.slice a D.length c, .int .i64 n, .int .i64 m] w fun e w' => e = .returned (.bool true) ∧ Below w.heap.size w w' := by
  go_enter Try.func6, Try.ntmps6
  go_wp2_with fail
  refine (newstream_any D a c w h (by omega)).mono ?_
  rintro e w1 ⟨s, a1, c1, rfl, T1, hs, hz1, b1⟩
  have I0 : TS w w1 s D a c := ⟨h.upd (S := fun _ => False) (Upd.of_below b1) (fun _ _ _ => id), hz0, ⟨a1, c1, T1, hz1⟩, hs, b1⟩
  clear h T1 hz1 b1
  go_wp2
  go_loopw [8, 9, 10] (fun vl vw i wr => ∃ (t : Nat) (E : List (Int × Int)) (aw : Option Addr) (cw : Nat), i = .int .i64 (t : Int) ∧ t ≤ 2 ∧ vl = .int .i64 (E.length : Int) ∧ vw = .slice aw E.length cw ∧ E.length ≤ D.length ∧ TS w wr s E aw cw) (fun _ _ i _ => 2 - (intOf i).toNat)
  case atStart => exact ⟨0, D, a, c, rfl, by omega, rfl, rfl, Nat.le_refl _, I0⟩
  case round =>
    obtain ⟨t, E, aw, cw, rfl, ht, rfl, rfl, hED, I⟩ := hrel
    clear I0
    obtain ⟨wo, rfl⟩ : ∃ x, x = wr := ⟨wr, rfl⟩
    generalize hl : E.length = l at *
    have HL := hide hl
    clear hl
    have hl0 : (0 : Int) ≤ (l : Int) := by omega
    have hl1 : (l : Int) ≤ 9223372036854775807 := by omega
    by_cases ht0 : t = 0
    · subst ht0
      by_cases hA : n < 0 ∨ 65535 < n
      · rcases hA with hA | hA
        · have q1 : decide (n < 0) = true := by simp; omega
          go_wp2_with fail
          refine (take_arg s _ _ (by omega)).mono ?_
          rintro e w2 ⟨rfl, hw2⟩
          have hw2 := hw2.symm
          subst hw2
          have J := hide I
          obtain ⟨i1, i2, ⟨a3, c3, T3, hz3⟩, i4, i5⟩ := I
          have hcw := i1.cap
          rw [HL.out] at hcw
          have N1 : Sl wo (.slice none 0 0) ([] : List (Int × Int)) none 0 := ⟨rfl, Nat.le_refl _, by unfold maxLen; omega, fun _ => ⟨rfl, rfl⟩, fun x hx => by cases hx⟩
          have N2 := i1.take 0 (Nat.zero_le _)
          rw [List.take_zero] at N2
          clear i1 i2 hz3
          go_wp2_with fail
          refine (same_n [] 0 rfl none aw 0 cw _ N1 N2).mono ?_
          rintro e w3 ⟨rfl, k3, rfl⟩
          have T4 := T3.upd (S := fun _ => False) ((Upd.refl _ wo).drewN k3) id (fun _ _ => id)
          clear N1 N2 T3
          go_wp2_with fail
          refine (sleft_any _ _ _ _ _ T4).mono ?_
          rintro e w4 ⟨rfl, e4⟩
          rw [e4, HL.out]
          clear e4 T4
          go_wp2
          go_loopw [14] (fun i wq => i = .int .i64 0 ∧ Below wo.heap.size wo wq) (fun i _ => 0)
          case atStart => exact ⟨rfl, below_drewN (Below.refl _ _) _⟩
          case round =>
            obtain ⟨rfl, bq⟩ := hrel
            have lq := bq.size
            go_wp2_with (at_builtin; go_must (refine app_three _ rfl (.tmp 87) (.tmp 91) rfl wo.heap.size 0 _ rfl ⟨wr.heap.size, 0, none⟩ rfl [.int .u64 6, .int .u64 0, .int .u64 6, .int .u64 0, .int .u64 6, .int .u64 0] rfl ?z1c ?z1o ?z1x ?z1B ?z1b ?z1k))
            case z1c =>
              intro jj u hu
              match jj, hu with
              | 0, hu | 1, hu | 2, hu | 3, hu | 4, hu | 5, hu => simp at hu; subst hu; simp [Addr.add]
              | jj + 6, hu => simp at hu
            case z1o => intro u hu; simp at hu; rcases hu with rfl | rfl | rfl | rfl | rfl | rfl <;> rfl
            case z1x => exact ⟨[], World.ownsRow_nil _ _ _ _⟩
            case z1B => simp; omega
            case z1b => omega
            intro v6 w6 g6
            have B6 : Below wo.heap.size wo w6 := (bq.alloc (by omega) _).grown g6 (by simp; omega) (fun k hk => by cases hk)
            have I6 := J.out.keep B6
            clear g6 bq J
            go_wp2
            go_round
            case rel => exact ⟨0 + 1, E, aw, cw, by go_num, by omega, by rw [HL.out], by rw [HL.out], by rw [HL.out]; exact hED, I6⟩
            case measure => simp [intOf]
        · have q1 : decide (n < 0) = false := by simp; omega
          have q2 : decide (65535 < n) = true := by simp; omega
          go_wp2_with fail
          refine (take_arg s _ _ (by omega)).mono ?_
          rintro e w2 ⟨rfl, hw2⟩
          have hw2 := hw2.symm
          subst hw2
          have J := hide I
          obtain ⟨i1, i2, ⟨a3, c3, T3, hz3⟩, i4, i5⟩ := I
          have hcw := i1.cap
          rw [HL.out] at hcw
          have N1 : Sl wo (.slice none 0 0) ([] : List (Int × Int)) none 0 := ⟨rfl, Nat.le_refl _, by unfold maxLen; omega, fun _ => ⟨rfl, rfl⟩, fun x hx => by cases hx⟩
          have N2 := i1.take 0 (Nat.zero_le _)
          rw [List.take_zero] at N2
          clear i1 i2 hz3
          go_wp2_with fail
          refine (same_n [] 0 rfl none aw 0 cw _ N1 N2).mono ?_
          rintro e w3 ⟨rfl, k3, rfl⟩
          have T4 := T3.upd (S := fun _ => False) ((Upd.refl _ wo).drewN k3) id (fun _ _ => id)
          clear N1 N2 T3
          go_wp2_with fail
          refine (sleft_any _ _ _ _ _ T4).mono ?_
          rintro e w4 ⟨rfl, e4⟩
          rw [e4, HL.out]
          clear e4 T4
          go_wp2
          go_loopw [14] (fun i wq => i = .int .i64 0 ∧ Below wo.heap.size wo wq) (fun i _ => 0)
          case atStart => exact ⟨rfl, below_drewN (Below.refl _ _) _⟩
          case round =>
            obtain ⟨rfl, bq⟩ := hrel
            have lq := bq.size
            go_wp2_with (at_builtin; go_must (refine app_three _ rfl (.tmp 87) (.tmp 91) rfl wo.heap.size 0 _ rfl ⟨wr.heap.size, 0, none⟩ rfl [.int .u64 6, .int .u64 0, .int .u64 6, .int .u64 0, .int .u64 6, .int .u64 0] rfl ?z2c ?z2o ?z2x ?z2B ?z2b ?z2k))
            case z2c =>
              intro jj u hu
              match jj, hu with
              | 0, hu | 1, hu | 2, hu | 3, hu | 4, hu | 5, hu => simp at hu; subst hu; simp [Addr.add]
              | jj + 6, hu => simp at hu
            case z2o => intro u hu; simp at hu; rcases hu with rfl | rfl | rfl | rfl | rfl | rfl <;> rfl
            case z2x => exact ⟨[], World.ownsRow_nil _ _ _ _⟩
            case z2B => simp; omega
            case z2b => omega
            intro v6 w6 g6
            have B6 : Below wo.heap.size wo w6 := (bq.alloc (by omega) _).grown g6 (by simp; omega) (fun k hk => by cases hk)
            have I6 := J.out.keep B6
            clear g6 bq J
            go_wp2
            go_round
            case rel => exact ⟨0 + 1, E, aw, cw, by go_num, by omega, by rw [HL.out], by rw [HL.out], by rw [HL.out]; exact hED, I6⟩
            case measure => simp [intOf]
      · obtain ⟨j, rfl⟩ := Int.eq_ofNat_of_zero_le (show 0 ≤ n by omega)
        by_cases hC : j ≤ l
        · have hj5 : j ≤ 65535 := by omega
          have q1 : decide ((j : Int) < 0) = false := by simp
          have q2 : decide (65535 < (j : Int)) = false := by simp; omega
          have q3 : decide ((l : Int) < (j : Int)) = false := by simp; omega
          have q4 : IntKind.i64.wrap ((l : Int) - (j : Int)) = (l : Int) - (j : Int) := by rw [show (l : Int) - (j : Int) = ((l - j : Nat) : Int) from by omega]; exact wrapn _ (by omega)
          have q5 : (((l - j : Nat) : Int) == (l : Int) - (j : Int)) = true := by simp; omega
          have HJ : Hid ((E.take j).length = j) := by show _ = _; rw [List.length_take, HL.out]; omega
          have HD : Hid ((E.drop j).length = l - j) := by show _ = _; rw [List.length_drop, HL.out]
          go_wp2_with fail
          refine (I.take j hj5).mono ?_
          rintro e w2 ⟨v, rfl, o2, TT2⟩
          rw [show tkE j E.length = 0 from if_pos (by rw [HL.out]; exact hC)]
          clear I
          obtain ⟨ao, co, rfl, hso, hzo⟩ := o2.sln HJ.out
          have hcap := hso.cap
          rw [HJ.out] at hcap
          have HNO : Hid (ao = none → j = 0) := fun e => by have := (hso.nil e).1; have h2 := HJ.out; rw [this] at h2; exact h2.symm
          have X2 : OwnX wo.heap.size w2 (.slice ao j co) j := ⟨_, by have := o2; unfold OwnD at this; rw [HJ.out] at this; exact this⟩
          have hwant := (TT2.sl).take j (by have := HL.out; omega)
          have hcw := TT2.sl.cap
          rw [HL.out] at hcw
          clear o2
          go_wp2_with fail
          refine (same_n (E.take j) j HJ.out ao aw co cw _ hso hwant).mono ?_
          rintro e w3 ⟨rfl, k3, rfl⟩
          obtain ⟨a3, c3, T3, hz3⟩ := TT2.str
          have T4 := T3.upd (S := fun _ => False) ((Upd.refl _ w2).drewN k3) id (fun _ _ => id)
          clear hso hwant T3 hz3
          go_wp2_with fail
          refine (sleft_any _ _ _ _ _ T4).mono ?_
          rintro e w4 ⟨rfl, e4⟩
          rw [e4, HD.out]
          clear e4 T4
          go_wp2
          go_loopw [14] (fun i wq => ∃ k : Nat, i = .int .i64 (k : Int) ∧ k ≤ j ∧ OwnX wo.heap.size wq (.slice ao j co) j ∧ Below wo.heap.size w2 wq) (fun i _ => j - (intOf i).toNat)
          case atStart => exact ⟨0, rfl, Nat.zero_le _, X2, below_drewN (Below.refl _ _) _⟩
          case round =>
            obtain ⟨k, rfl, hk, X, bq⟩ := hrel
            by_cases hkj : k < j
            · cases ao with
              | none => have := HNO.out rfl; omega
              | some x =>
                obtain ⟨g, rfl, hg, hg2⟩ := hzo x rfl
                obtain ⟨⟨y0, k0⟩, ⟨y1, k1⟩, z0, z1⟩ := X.cell k hkj
                have X3 := X.stored k (.int .u64 5) (.int .u64 0)
                have b3 := (bq.setCell (p := ⟨g, k * 2, none⟩) hg (.int .u64 5)).setCell (p := ⟨g, k * 2 + 1, none⟩) hg (.int .u64 0)
                clear X bq
                go_wp2
                go_round
                case rel => exact ⟨k + 1, by go_num, by omega, X3, b3⟩
                case measure => simp [intOf]; omega
            · obtain rfl : j = k := by omega
              have lq := bq.size
              have sz := TT2.siz
              go_wp2_with (at_builtin; go_must (refine app_three _ rfl (.tmp 87) (.tmp 91) rfl wo.heap.size j _ rfl ⟨wr.heap.size, 0, none⟩ rfl [.int .u64 6, .int .u64 0, .int .u64 6, .int .u64 0, .int .u64 6, .int .u64 0] rfl ?z3c ?z3o ?z3x ?z3B ?z3b ?z3k))
              case z3c =>
                intro jj u hu
                match jj, hu with
                | 0, hu | 1, hu | 2, hu | 3, hu | 4, hu | 5, hu => simp at hu; subst hu; simp [Addr.add]
                | jj + 6, hu => simp at hu
              case z3o => intro u hu; simp at hu; rcases hu with rfl | rfl | rfl | rfl | rfl | rfl <;> rfl
              case z3x => obtain ⟨xs, hx⟩ := X; exact ⟨xs, hx.alloc _⟩
              case z3B => simp; omega
              case z3b => omega
              intro v6 w6 g6
              have hown : ∀ q, (Value.slice ao j co).ownBlock = some q → wo.heap.size ≤ q := by
                intro q hq
                obtain ⟨xs, hx⟩ := X
                exact (World.ownsRow.lt hx q hq).1
              have B6 : Below wo.heap.size w2 w6 := (bq.alloc (by omega) _).grown g6 (by simp; omega) hown
              clear g6 hown X X2 bq
              cases aw with
              | none =>
                obtain ⟨he1, he2⟩ := (TT2.sl.nil rfl)
                have HC := hide he2
                clear he2
                go_wp2
                go_round
                case rel => exact ⟨0 + 1, E.drop j, none, cw - j, by go_num, by omega, by rw [HD.out]; exact int_eq (by omega), by first | (rw [HD.out]; done) | simp [HL.out], by rw [HD.out]; omega, TT2.next B6 (by rw [HL.out]; omega) _ _ (.inr (.inr ⟨rfl, rfl, by have := HC.out; omega⟩))⟩
                case measure => simp [intOf]
              | some z =>
                by_cases hcj : cw = j
                · go_wp2
                  go_round
                  case rel => exact ⟨0 + 1, E.drop j, some z, 0, by go_num, by omega, by rw [HD.out]; exact int_eq (by omega), by first | (rw [HD.out]; done) | simp [HL.out], by rw [HD.out]; omega, TT2.next B6 (by rw [HL.out]; omega) _ _ (.inl ⟨z, rfl, hcj, rfl, rfl⟩)⟩
                  case measure => simp [intOf]
                · obtain ⟨qw, ow, rfl⟩ : ∃ q o, z = ⟨q, o, none⟩ := by
                    rcases TT2.sl.at_ z rfl with ⟨e1, e2⟩ | ⟨q, o, h, _⟩
                    · have := HL.out
                      rw [e1] at this
                      simp at this
                      omega
                    · exact ⟨q, o, h⟩
                  go_wp2
                  go_round
                  case rel => exact ⟨0 + 1, E.drop j, some ⟨qw, ow + j * 2, none⟩, cw - j, by go_num, by omega, by rw [HD.out]; exact int_eq (by omega), by first | (rw [HD.out]; done) | simp [HL.out], by rw [HD.out]; omega, TT2.next B6 (by rw [HL.out]; omega) _ _ (.inr (.inl ⟨qw, ow, rfl, hcj, rfl, rfl⟩))⟩
                  case measure => simp [intOf]
        · have hj5 : j ≤ 65535 := by omega
          have q1 : decide ((j : Int) < 0) = false := by simp
          have q2 : decide (65535 < (j : Int)) = false := by simp; omega
          have q3 : decide ((l : Int) < (j : Int)) = true := by simp; omega
          have HJ : Hid ((E.take l).length = l) := by show _ = _; rw [List.length_take, HL.out]; omega
          have HD : Hid ((E.drop l).length = l - l) := by show _ = _; rw [List.length_drop, HL.out]
          go_wp2_with fail
          refine (I.take j hj5).mono ?_
          rintro e w2 ⟨v, rfl, o2, TT0⟩
          rw [show tkE j E.length = 20 from if_neg (by rw [HL.out]; exact hC)]
          have e1 : E.take j = E.take l := by rw [List.take_of_length_le (by rw [HL.out]; omega), List.take_of_length_le (by rw [HL.out]; omega)]
          have e2 : E.drop j = E.drop l := by rw [List.drop_eq_nil_of_le (by rw [HL.out]; omega), List.drop_eq_nil_of_le (by rw [HL.out]; omega)]
          rw [e1] at o2
          have TT2 : TT w wo w2 s E l aw cw := by
            obtain ⟨t1, t2, t3, t4, t5, t6, t7, t8⟩ := TT0
            exact ⟨t1, t2, by rw [← e2]; exact t3, t4, t5, t6, t7, t8⟩
          have HJ5 := hide hj5
          clear I TT0 e1 e2 q1 q2 hj5
          obtain ⟨ao, co, rfl, hso, hzo⟩ := o2.sln HJ.out
          have hcap := hso.cap
          rw [HJ.out] at hcap
          have HNO : Hid (ao = none → l = 0) := fun e => by have := (hso.nil e).1; have h2 := HJ.out; rw [this] at h2; exact h2.symm
          have X2 : OwnX wo.heap.size w2 (.slice ao l co) l := ⟨_, by have := o2; unfold OwnD at this; rw [HJ.out] at this; exact this⟩
          have hwant := (TT2.sl).take l (by have := HL.out; omega)
          have hcw := TT2.sl.cap
          rw [HL.out] at hcw
          clear o2
          go_wp2_with fail
          refine (same_n (E.take l) l HJ.out ao aw co cw _ hso hwant).mono ?_
          rintro e w3 ⟨rfl, k3, rfl⟩
          obtain ⟨a3, c3, T3, hz3⟩ := TT2.str
          have T4 := T3.upd (S := fun _ => False) ((Upd.refl _ w2).drewN k3) id (fun _ _ => id)
          clear hso hwant T3 hz3
          go_wp2_with fail
          refine (sleft_any _ _ _ _ _ T4).mono ?_
          rintro e w4 ⟨rfl, e4⟩
          rw [e4, HD.out]
          clear e4 T4
          go_wp2
          go_loopw [14] (fun i wq => ∃ k : Nat, i = .int .i64 (k : Int) ∧ k ≤ l ∧ OwnX wo.heap.size wq (.slice ao l co) l ∧ Below wo.heap.size w2 wq) (fun i _ => l - (intOf i).toNat)
          case atStart => exact ⟨0, rfl, Nat.zero_le _, X2, below_drewN (Below.refl _ _) _⟩
          case round =>
            obtain ⟨k, rfl, hk, X, bq⟩ := hrel
            by_cases hkj : k < l
            · cases ao with
              | none => have := HNO.out rfl; omega
              | some x =>
                obtain ⟨g, rfl, hg, hg2⟩ := hzo x rfl
                obtain ⟨⟨y0, k0⟩, ⟨y1, k1⟩, z0, z1⟩ := X.cell k hkj
                have X3 := X.stored k (.int .u64 5) (.int .u64 0)
                have b3 := (bq.setCell (p := ⟨g, k * 2, none⟩) hg (.int .u64 5)).setCell (p := ⟨g, k * 2 + 1, none⟩) hg (.int .u64 0)
                clear X bq
                go_wp2
                go_round
                case rel => exact ⟨k + 1, by go_num, by omega, X3, b3⟩
                case measure => simp [intOf]; omega
            · obtain rfl : l = k := by omega
              have lq := bq.size
              have sz := TT2.siz
              go_wp2_with (at_builtin; go_must (refine app_three _ rfl (.tmp 87) (.tmp 91) rfl wo.heap.size l _ rfl ⟨wr.heap.size, 0, none⟩ rfl [.int .u64 6, .int .u64 0, .int .u64 6, .int .u64 0, .int .u64 6, .int .u64 0] rfl ?z4c ?z4o ?z4x ?z4B ?z4b ?z4k))
              case z4c =>
                intro jj u hu
                match jj, hu with
                | 0, hu | 1, hu | 2, hu | 3, hu | 4, hu | 5, hu => simp at hu; subst hu; simp [Addr.add]
                | jj + 6, hu => simp at hu
              case z4o => intro u hu; simp at hu; rcases hu with rfl | rfl | rfl | rfl | rfl | rfl <;> rfl
              case z4x => obtain ⟨xs, hx⟩ := X; exact ⟨xs, hx.alloc _⟩
              case z4B => simp; omega
              case z4b => omega
              intro v6 w6 g6
              have hown : ∀ q, (Value.slice ao l co).ownBlock = some q → wo.heap.size ≤ q := by
                intro q hq
                obtain ⟨xs, hx⟩ := X
                exact (World.ownsRow.lt hx q hq).1
              have B6 : Below wo.heap.size w2 w6 := (bq.alloc (by omega) _).grown g6 (by simp; omega) hown
              clear g6 hown X X2 bq
              cases aw with
              | none =>
                obtain ⟨he1, he2⟩ := (TT2.sl.nil rfl)
                have HC := hide he2
                clear he2
                go_wp2
                go_round
                case rel => exact ⟨0 + 1, E.drop l, none, cw - l, by go_num, by omega, by rw [HD.out]; exact int_eq (by omega), by first | (rw [HD.out]; done) | simp [HL.out], by rw [HD.out]; omega, TT2.next B6 (by rw [HL.out]; omega) _ _ (.inr (.inr ⟨rfl, rfl, by have := HC.out; omega⟩))⟩
                case measure => simp [intOf]
              | some z =>
                by_cases hcj : cw = l
                · go_wp2
                  go_round
                  case rel => exact ⟨0 + 1, E.drop l, some z, 0, by go_num, by omega, by rw [HD.out]; exact int_eq (by omega), by first | (rw [HD.out]; done) | simp [HL.out], by rw [HD.out]; omega, TT2.next B6 (by rw [HL.out]; omega) _ _ (.inl ⟨z, rfl, hcj, rfl, rfl⟩)⟩
                  case measure => simp [intOf]
                · obtain ⟨qw, ow, rfl⟩ : ∃ q o, z = ⟨q, o, none⟩ := by
                    rcases TT2.sl.at_ z rfl with ⟨e1, e2⟩ | ⟨q, o, h, _⟩
                    · have := HL.out
                      rw [e1] at this
                      simp at this
                      omega
                    · exact ⟨q, o, h⟩
                  go_wp2
                  go_round
                  case rel => exact ⟨0 + 1, E.drop l, some ⟨qw, ow + l * 2, none⟩, cw - l, by go_num, by omega, by rw [HD.out]; exact int_eq (by omega), by first | (rw [HD.out]; done) | simp [HL.out], by rw [HD.out]; omega, TT2.next B6 (by rw [HL.out]; omega) _ _ (.inr (.inl ⟨qw, ow, rfl, hcj, rfl, rfl⟩))⟩
                  case measure => simp [intOf]
    · by_cases ht1 : t = 1
      · subst ht1
        by_cases hA : m < 0 ∨ 65535 < m
        · rcases hA with hA | hA
          · have q1 : decide (m < 0) = true := by simp; omega
            go_wp2_with fail
            refine (take_arg s _ _ (by omega)).mono ?_
            rintro e w2 ⟨rfl, hw2⟩
            have hw2 := hw2.symm
            subst hw2
            have J := hide I
            obtain ⟨i1, i2, ⟨a3, c3, T3, hz3⟩, i4, i5⟩ := I
            have hcw := i1.cap
            rw [HL.out] at hcw
            have N1 : Sl wo (.slice none 0 0) ([] : List (Int × Int)) none 0 := ⟨rfl, Nat.le_refl _, by unfold maxLen; omega, fun _ => ⟨rfl, rfl⟩, fun x hx => by cases hx⟩
            have N2 := i1.take 0 (Nat.zero_le _)
            rw [List.take_zero] at N2
            clear i1 i2 hz3
            go_wp2_with fail
            refine (same_n [] 0 rfl none aw 0 cw _ N1 N2).mono ?_
            rintro e w3 ⟨rfl, k3, rfl⟩
            have T4 := T3.upd (S := fun _ => False) ((Upd.refl _ wo).drewN k3) id (fun _ _ => id)
            clear N1 N2 T3
            go_wp2_with fail
            refine (sleft_any _ _ _ _ _ T4).mono ?_
            rintro e w4 ⟨rfl, e4⟩
            rw [e4, HL.out]
            clear e4 T4
            go_wp2
            go_loopw [14] (fun i wq => i = .int .i64 0 ∧ Below wo.heap.size wo wq) (fun i _ => 0)
            case atStart => exact ⟨rfl, below_drewN (Below.refl _ _) _⟩
            case round =>
              obtain ⟨rfl, bq⟩ := hrel
              have lq := bq.size
              go_wp2_with (at_builtin; go_must (refine app_three _ rfl (.tmp 87) (.tmp 91) rfl wo.heap.size 0 _ rfl ⟨wr.heap.size, 0, none⟩ rfl [.int .u64 6, .int .u64 0, .int .u64 6, .int .u64 0, .int .u64 6, .int .u64 0] rfl ?z5c ?z5o ?z5x ?z5B ?z5b ?z5k))
              case z5c =>
                intro jj u hu
                match jj, hu with
                | 0, hu | 1, hu | 2, hu | 3, hu | 4, hu | 5, hu => simp at hu; subst hu; simp [Addr.add]
                | jj + 6, hu => simp at hu
              case z5o => intro u hu; simp at hu; rcases hu with rfl | rfl | rfl | rfl | rfl | rfl <;> rfl
              case z5x => exact ⟨[], World.ownsRow_nil _ _ _ _⟩
              case z5B => simp; omega
              case z5b => omega
              intro v6 w6 g6
              have B6 : Below wo.heap.size wo w6 := (bq.alloc (by omega) _).grown g6 (by simp; omega) (fun k hk => by cases hk)
              have I6 := J.out.keep B6
              clear g6 bq J
              go_wp2
              go_round
              case rel => exact ⟨1 + 1, E, aw, cw, by go_num, by omega, by rw [HL.out], by rw [HL.out], by rw [HL.out]; exact hED, I6⟩
              case measure => simp [intOf]
          · have q1 : decide (m < 0) = false := by simp; omega
            have q2 : decide (65535 < m) = true := by simp; omega
            go_wp2_with fail
            refine (take_arg s _ _ (by omega)).mono ?_
            rintro e w2 ⟨rfl, hw2⟩
            have hw2 := hw2.symm
            subst hw2
            have J := hide I
            obtain ⟨i1, i2, ⟨a3, c3, T3, hz3⟩, i4, i5⟩ := I
            have hcw := i1.cap
            rw [HL.out] at hcw
            have N1 : Sl wo (.slice none 0 0) ([] : List (Int × Int)) none 0 := ⟨rfl, Nat.le_refl _, by unfold maxLen; omega, fun _ => ⟨rfl, rfl⟩, fun x hx => by cases hx⟩
            have N2 := i1.take 0 (Nat.zero_le _)
            rw [List.take_zero] at N2
            clear i1 i2 hz3
            go_wp2_with fail
            refine (same_n [] 0 rfl none aw 0 cw _ N1 N2).mono ?_
            rintro e w3 ⟨rfl, k3, rfl⟩
            have T4 := T3.upd (S := fun _ => False) ((Upd.refl _ wo).drewN k3) id (fun _ _ => id)
            clear N1 N2 T3
            go_wp2_with fail
            refine (sleft_any _ _ _ _ _ T4).mono ?_
            rintro e w4 ⟨rfl, e4⟩
            rw [e4, HL.out]
            clear e4 T4
            go_wp2
            go_loopw [14] (fun i wq => i = .int .i64 0 ∧ Below wo.heap.size wo wq) (fun i _ => 0)
            case atStart => exact ⟨rfl, below_drewN (Below.refl _ _) _⟩
            case round =>
              obtain ⟨rfl, bq⟩ := hrel
              have lq := bq.size
              go_wp2_with (at_builtin; go_must (refine app_three _ rfl (.tmp 87) (.tmp 91) rfl wo.heap.size 0 _ rfl ⟨wr.heap.size, 0, none⟩ rfl [.int .u64 6, .int .u64 0, .int .u64 6, .int .u64 0, .int .u64 6, .int .u64 0] rfl ?z6c ?z6o ?z6x ?z6B ?z6b ?z6k))
              case z6c =>
                intro jj u hu
                match jj, hu with
                | 0, hu | 1, hu | 2, hu | 3, hu | 4, hu | 5, hu => simp at hu; subst hu; simp [Addr.add]
                | jj + 6, hu => simp at hu
              case z6o => intro u hu; simp at hu; rcases hu with rfl | rfl | rfl | rfl | rfl | rfl <;> rfl
              case z6x => exact ⟨[], World.ownsRow_nil _ _ _ _⟩
              case z6B => simp; omega
              case z6b => omega
              intro v6 w6 g6
              have B6 : Below wo.heap.size wo w6 := (bq.alloc (by omega) _).grown g6 (by simp; omega) (fun k hk => by cases hk)
              have I6 := J.out.keep B6
              clear g6 bq J
              go_wp2
              go_round
              case rel => exact ⟨1 + 1, E, aw, cw, by go_num, by omega, by rw [HL.out], by rw [HL.out], by rw [HL.out]; exact hED, I6⟩
              case measure => simp [intOf]
        · obtain ⟨j, rfl⟩ := Int.eq_ofNat_of_zero_le (show 0 ≤ m by omega)
          by_cases hC : j ≤ l
          · have hj5 : j ≤ 65535 := by omega
            have q1 : decide ((j : Int) < 0) = false := by simp
            have q2 : decide (65535 < (j : Int)) = false := by simp; omega
            have q3 : decide ((l : Int) < (j : Int)) = false := by simp; omega
            have q4 : IntKind.i64.wrap ((l : Int) - (j : Int)) = (l : Int) - (j : Int) := by rw [show (l : Int) - (j : Int) = ((l - j : Nat) : Int) from by omega]; exact wrapn _ (by omega)
            have q5 : (((l - j : Nat) : Int) == (l : Int) - (j : Int)) = true := by simp; omega
            have HJ : Hid ((E.take j).length = j) := by show _ = _; rw [List.length_take, HL.out]; omega
            have HD : Hid ((E.drop j).length = l - j) := by show _ = _; rw [List.length_drop, HL.out]
            go_wp2_with fail
            refine (I.take j hj5).mono ?_
            rintro e w2 ⟨v, rfl, o2, TT2⟩
            rw [show tkE j E.length = 0 from if_pos (by rw [HL.out]; exact hC)]
            clear I
            obtain ⟨ao, co, rfl, hso, hzo⟩ := o2.sln HJ.out
            have hcap := hso.cap
            rw [HJ.out] at hcap
            have HNO : Hid (ao = none → j = 0) := fun e => by have := (hso.nil e).1; have h2 := HJ.out; rw [this] at h2; exact h2.symm
            have X2 : OwnX wo.heap.size w2 (.slice ao j co) j := ⟨_, by have := o2; unfold OwnD at this; rw [HJ.out] at this; exact this⟩
            have hwant := (TT2.sl).take j (by have := HL.out; omega)
            have hcw := TT2.sl.cap
            rw [HL.out] at hcw
            clear o2
            go_wp2_with fail
            refine (same_n (E.take j) j HJ.out ao aw co cw _ hso hwant).mono ?_
            rintro e w3 ⟨rfl, k3, rfl⟩
            obtain ⟨a3, c3, T3, hz3⟩ := TT2.str
            have T4 := T3.upd (S := fun _ => False) ((Upd.refl _ w2).drewN k3) id (fun _ _ => id)
            clear hso hwant T3 hz3
            go_wp2_with fail
            refine (sleft_any _ _ _ _ _ T4).mono ?_
            rintro e w4 ⟨rfl, e4⟩
            rw [e4, HD.out]
            clear e4 T4
            go_wp2
            go_loopw [14] (fun i wq => ∃ k : Nat, i = .int .i64 (k : Int) ∧ k ≤ j ∧ OwnX wo.heap.size wq (.slice ao j co) j ∧ Below wo.heap.size w2 wq) (fun i _ => j - (intOf i).toNat)
            case atStart => exact ⟨0, rfl, Nat.zero_le _, X2, below_drewN (Below.refl _ _) _⟩
            case round =>
              obtain ⟨k, rfl, hk, X, bq⟩ := hrel
              by_cases hkj : k < j
              · cases ao with
                | none => have := HNO.out rfl; omega
                | some x =>
                  obtain ⟨g, rfl, hg, hg2⟩ := hzo x rfl
                  obtain ⟨⟨y0, k0⟩, ⟨y1, k1⟩, z0, z1⟩ := X.cell k hkj
                  have X3 := X.stored k (.int .u64 5) (.int .u64 0)
                  have b3 := (bq.setCell (p := ⟨g, k * 2, none⟩) hg (.int .u64 5)).setCell (p := ⟨g, k * 2 + 1, none⟩) hg (.int .u64 0)
                  clear X bq
                  go_wp2
                  go_round
                  case rel => exact ⟨k + 1, by go_num, by omega, X3, b3⟩
                  case measure => simp [intOf]; omega
              · obtain rfl : j = k := by omega
                have lq := bq.size
                have sz := TT2.siz
                go_wp2_with (at_builtin; go_must (refine app_three _ rfl (.tmp 87) (.tmp 91) rfl wo.heap.size j _ rfl ⟨wr.heap.size, 0, none⟩ rfl [.int .u64 6, .int .u64 0, .int .u64 6, .int .u64 0, .int .u64 6, .int .u64 0] rfl ?z7c ?z7o ?z7x ?z7B ?z7b ?z7k))
                case z7c =>
                  intro jj u hu
                  match jj, hu with
                  | 0, hu | 1, hu | 2, hu | 3, hu | 4, hu | 5, hu => simp at hu; subst hu; simp [Addr.add]
                  | jj + 6, hu => simp at hu
                case z7o => intro u hu; simp at hu; rcases hu with rfl | rfl | rfl | rfl | rfl | rfl <;> rfl
                case z7x => obtain ⟨xs, hx⟩ := X; exact ⟨xs, hx.alloc _⟩
                case z7B => simp; omega
                case z7b => omega
                intro v6 w6 g6
                have hown : ∀ q, (Value.slice ao j co).ownBlock = some q → wo.heap.size ≤ q := by
                  intro q hq
                  obtain ⟨xs, hx⟩ := X
                  exact (World.ownsRow.lt hx q hq).1
                have B6 : Below wo.heap.size w2 w6 := (bq.alloc (by omega) _).grown g6 (by simp; omega) hown
                clear g6 hown X X2 bq
                cases aw with
                | none =>
                  obtain ⟨he1, he2⟩ := (TT2.sl.nil rfl)
                  have HC := hide he2
                  clear he2
                  go_wp2
                  go_round
                  case rel => exact ⟨1 + 1, E.drop j, none, cw - j, by go_num, by omega, by rw [HD.out]; exact int_eq (by omega), by first | (rw [HD.out]; done) | simp [HL.out], by rw [HD.out]; omega, TT2.next B6 (by rw [HL.out]; omega) _ _ (.inr (.inr ⟨rfl, rfl, by have := HC.out; omega⟩))⟩
                  case measure => simp [intOf]
                | some z =>
                  by_cases hcj : cw = j
                  · go_wp2
                    go_round
                    case rel => exact ⟨1 + 1, E.drop j, some z, 0, by go_num, by omega, by rw [HD.out]; exact int_eq (by omega), by first | (rw [HD.out]; done) | simp [HL.out], by rw [HD.out]; omega, TT2.next B6 (by rw [HL.out]; omega) _ _ (.inl ⟨z, rfl, hcj, rfl, rfl⟩)⟩
                    case measure => simp [intOf]
                  · obtain ⟨qw, ow, rfl⟩ : ∃ q o, z = ⟨q, o, none⟩ := by
                      rcases TT2.sl.at_ z rfl with ⟨e1, e2⟩ | ⟨q, o, h, _⟩
                      · have := HL.out
                        rw [e1] at this
                        simp at this
                        omega
                      · exact ⟨q, o, h⟩
                    go_wp2
                    go_round
                    case rel => exact ⟨1 + 1, E.drop j, some ⟨qw, ow + j * 2, none⟩, cw - j, by go_num, by omega, by rw [HD.out]; exact int_eq (by omega), by first | (rw [HD.out]; done) | simp [HL.out], by rw [HD.out]; omega, TT2.next B6 (by rw [HL.out]; omega) _ _ (.inr (.inl ⟨qw, ow, rfl, hcj, rfl, rfl⟩))⟩
                    case measure => simp [intOf]
          · have hj5 : j ≤ 65535 := by omega
            have q1 : decide ((j : Int) < 0) = false := by simp
            have q2 : decide (65535 < (j : Int)) = false := by simp; omega
            have q3 : decide ((l : Int) < (j : Int)) = true := by simp; omega
            have HJ : Hid ((E.take l).length = l) := by show _ = _; rw [List.length_take, HL.out]; omega
            have HD : Hid ((E.drop l).length = l - l) := by show _ = _; rw [List.length_drop, HL.out]
            go_wp2_with fail
            refine (I.take j hj5).mono ?_
            rintro e w2 ⟨v, rfl, o2, TT0⟩
            rw [show tkE j E.length = 20 from if_neg (by rw [HL.out]; exact hC)]
            have e1 : E.take j = E.take l := by rw [List.take_of_length_le (by rw [HL.out]; omega), List.take_of_length_le (by rw [HL.out]; omega)]
            have e2 : E.drop j = E.drop l := by rw [List.drop_eq_nil_of_le (by rw [HL.out]; omega), List.drop_eq_nil_of_le (by rw [HL.out]; omega)]
            rw [e1] at o2
            have TT2 : TT w wo w2 s E l aw cw := by
              obtain ⟨t1, t2, t3, t4, t5, t6, t7, t8⟩ := TT0
              exact ⟨t1, t2, by rw [← e2]; exact t3, t4, t5, t6, t7, t8⟩
            have HJ5 := hide hj5
            clear I TT0 e1 e2 q1 q2 hj5
            obtain ⟨ao, co, rfl, hso, hzo⟩ := o2.sln HJ.out
            have hcap := hso.cap
            rw [HJ.out] at hcap
            have HNO : Hid (ao = none → l = 0) := fun e => by have := (hso.nil e).1; have h2 := HJ.out; rw [this] at h2; exact h2.symm
            have X2 : OwnX wo.heap.size w2 (.slice ao l co) l := ⟨_, by have := o2; unfold OwnD at this; rw [HJ.out] at this; exact this⟩
            have hwant := (TT2.sl).take l (by have := HL.out; omega)
            have hcw := TT2.sl.cap
            rw [HL.out] at hcw
            clear o2
            go_wp2_with fail
            refine (same_n (E.take l) l HJ.out ao aw co cw _ hso hwant).mono ?_
            rintro e w3 ⟨rfl, k3, rfl⟩
            obtain ⟨a3, c3, T3, hz3⟩ := TT2.str
            have T4 := T3.upd (S := fun _ => False) ((Upd.refl _ w2).drewN k3) id (fun _ _ => id)
            clear hso hwant T3 hz3
            go_wp2_with fail
            refine (sleft_any _ _ _ _ _ T4).mono ?_
            rintro e w4 ⟨rfl, e4⟩
            rw [e4, HD.out]
            clear e4 T4
            go_wp2
            go_loopw [14] (fun i wq => ∃ k : Nat, i = .int .i64 (k : Int) ∧ k ≤ l ∧ OwnX wo.heap.size wq (.slice ao l co) l ∧ Below wo.heap.size w2 wq) (fun i _ => l - (intOf i).toNat)
            case atStart => exact ⟨0, rfl, Nat.zero_le _, X2, below_drewN (Below.refl _ _) _⟩
            case round =>
              obtain ⟨k, rfl, hk, X, bq⟩ := hrel
              by_cases hkj : k < l
              · cases ao with
                | none => have := HNO.out rfl; omega
                | some x =>
                  obtain ⟨g, rfl, hg, hg2⟩ := hzo x rfl
                  obtain ⟨⟨y0, k0⟩, ⟨y1, k1⟩, z0, z1⟩ := X.cell k hkj
                  have X3 := X.stored k (.int .u64 5) (.int .u64 0)
                  have b3 := (bq.setCell (p := ⟨g, k * 2, none⟩) hg (.int .u64 5)).setCell (p := ⟨g, k * 2 + 1, none⟩) hg (.int .u64 0)
                  clear X bq
                  go_wp2
                  go_round
                  case rel => exact ⟨k + 1, by go_num, by omega, X3, b3⟩
                  case measure => simp [intOf]; omega
              · obtain rfl : l = k := by omega
                have lq := bq.size
                have sz := TT2.siz
                go_wp2_with (at_builtin; go_must (refine app_three _ rfl (.tmp 87) (.tmp 91) rfl wo.heap.size l _ rfl ⟨wr.heap.size, 0, none⟩ rfl [.int .u64 6, .int .u64 0, .int .u64 6, .int .u64 0, .int .u64 6, .int .u64 0] rfl ?z8c ?z8o ?z8x ?z8B ?z8b ?z8k))
                case z8c =>
                  intro jj u hu
                  match jj, hu with
                  | 0, hu | 1, hu | 2, hu | 3, hu | 4, hu | 5, hu => simp at hu; subst hu; simp [Addr.add]
                  | jj + 6, hu => simp at hu
                case z8o => intro u hu; simp at hu; rcases hu with rfl | rfl | rfl | rfl | rfl | rfl <;> rfl
                case z8x => obtain ⟨xs, hx⟩ := X; exact ⟨xs, hx.alloc _⟩
                case z8B => simp; omega
                case z8b => omega
                intro v6 w6 g6
                have hown : ∀ q, (Value.slice ao l co).ownBlock = some q → wo.heap.size ≤ q := by
                  intro q hq
                  obtain ⟨xs, hx⟩ := X
                  exact (World.ownsRow.lt hx q hq).1
                have B6 : Below wo.heap.size w2 w6 := (bq.alloc (by omega) _).grown g6 (by simp; omega) hown
                clear g6 hown X X2 bq
                cases aw with
                | none =>
                  obtain ⟨he1, he2⟩ := (TT2.sl.nil rfl)
                  have HC := hide he2
                  clear he2
                  go_wp2
                  go_round
                  case rel => exact ⟨1 + 1, E.drop l, none, cw - l, by go_num, by omega, by rw [HD.out]; exact int_eq (by omega), by first | (rw [HD.out]; done) | simp [HL.out], by rw [HD.out]; omega, TT2.next B6 (by rw [HL.out]; omega) _ _ (.inr (.inr ⟨rfl, rfl, by have := HC.out; omega⟩))⟩
                  case measure => simp [intOf]
                | some z =>
                  by_cases hcj : cw = l
                  · go_wp2
                    go_round
                    case rel => exact ⟨1 + 1, E.drop l, some z, 0, by go_num, by omega, by rw [HD.out]; exact int_eq (by omega), by first | (rw [HD.out]; done) | simp [HL.out], by rw [HD.out]; omega, TT2.next B6 (by rw [HL.out]; omega) _ _ (.inl ⟨z, rfl, hcj, rfl, rfl⟩)⟩
                    case measure => simp [intOf]
                  · obtain ⟨qw, ow, rfl⟩ : ∃ q o, z = ⟨q, o, none⟩ := by
                      rcases TT2.sl.at_ z rfl with ⟨e1, e2⟩ | ⟨q, o, h, _⟩
                      · have := HL.out
                        rw [e1] at this
                        simp at this
                        omega
                      · exact ⟨q, o, h⟩
                    go_wp2
                    go_round
                    case rel => exact ⟨1 + 1, E.drop l, some ⟨qw, ow + l * 2, none⟩, cw - l, by go_num, by omega, by rw [HD.out]; exact int_eq (by omega), by first | (rw [HD.out]; done) | simp [HL.out], by rw [HD.out]; omega, TT2.next B6 (by rw [HL.out]; omega) _ _ (.inr (.inl ⟨qw, ow, rfl, hcj, rfl, rfl⟩))⟩
                    case measure => simp [intOf]
      · obtain rfl : t = 2 := by omega
        have hj : ((l : Int) % 1000) = ((l % 1000 : Nat) : Int) := by omega
        have hjl : l % 1000 ≤ l := Nat.mod_le _ _
        have hj5 : l % 1000 < 1000 := Nat.mod_lt _ (by omega)
        generalize l % 1000 = j at *
        have HJ : Hid ((E.take j).length = j) := by show _ = _; rw [List.length_take, HL.out]; omega
        go_wp2_with fail
        refine (I.take j (by omega)).mono ?_
        rintro e w2 ⟨v, rfl, o2, TT2⟩
        rw [show tkE j E.length = 0 from if_pos (by rw [HL.out]; exact hjl)]
        obtain ⟨ao, co, rfl, hso, hzo⟩ := o2.sln HJ.out
        have hwant := (TT2.sl).take j (by have := HL.out; omega)
        have hcw := TT2.sl.cap
        rw [HL.out] at hcw
        clear I o2
        go_wp2_with fail
        refine (same_n (E.take j) j HJ.out ao aw co cw _ hso hwant).mono ?_
        rintro e w3 ⟨rfl, k3, rfl⟩
        clear hso hwant
        go_wp2_with fail
        refine (works_any _).mono ?_
        rintro e w4 ⟨rfl, b4⟩
        have bw := TT2.bel
        go_wp2
        go_ret
        exact ⟨rfl, (below_drewN bw k3).trans (b4.mono (below_drewN bw k3).size)⟩

end Go.Proofs.Ytifhdelkmhlcoaa
