import Derived.Test.YtegkkoggfjgkbaaHo
namespace Go.Proofs.Ytegkkoggfjgkbaa.Wi
open Go.RowKit
set_option linter.unusedVariables false

theorem be_eq (n j : Nat) : ((n : Int) / 2 ^ (24 - 8 * j) % 256) = M.beAt n j := by
  unfold M.beAt
  rw [Nat.shiftRight_eq_div_pow]
  simp
theorem le_eq (n j : Nat) : ((n : Int) / 2 ^ (8 * j) % 256) = M.leAt n j := by
  unfold M.leAt
  rw [Nat.shiftRight_eq_div_pow]
  simp
theorem sb_magic : sb { data := #[97, 109, 110, 49] } = M.magic := rfl

/-- 'make([]byte, 0, n)'. -/
theorem mk_own (w : World) {ops : Array Oper} {rest : List Oper} {o : Oper} {a : Act} {Q : Exit → Act → World → Prop} (hgd : o.guard = none) (c : Operand)
    (hop : o.op = Op.makeSlice 22 (.const (.int .i64 0)) c) (C : Int) (n : Nat) (hc : a.eval c = .int .i64 C) (hC : C = (n : Int)) (hm : n ≤ 281474976710656)
    (hK : ∀ w', Own w.heap.size w' (.slice (some ⟨w.heap.size, 0, none⟩) 0 n) [] → Below w.heap.size w w' → wpList Try.prog ops Q rest (a.put o.dst (.slice (some ⟨w.heap.size, 0, none⟩) 0 n)) w') : wpList Try.prog ops Q (o :: rest) a w := by
  obtain ⟨i0, hi, hz0, hz1, hz2⟩ := info_parts Try.info5
  refine wpList_make_own w hgd (.const (.int .i64 0)) c 22 hop w.heap.size 5 i0 (.int .u8 0) 1 Try.underlying22 hi hz0 hz1 .i64 .i64 C n rfl hc hC (by rw [hz2]; omega) (by unfold maxLen; omega) (Nat.le_refl _) ?_
  intro w' h1 h2
  exact hK w' h1 ((Below.refl _ _).grown h2 (Nat.le_refl _) (fun k hk => by cases hk))

theorem seal_long (a : Option Addr) (n c : Nat) (w : World) (h : 32756 < n) :
    Calls Try.prog 8 #[.slice a n c] w fun e w' => e = .returned (.tuple #[.slice none 0 0, .int .i64 11]) ∧ w' = w := by
  go_enter Try.func8, Try.ntmps8
  go_wp2
  go_ret2
  exact ⟨rfl, rfl⟩

set_option maxHeartbeats 400000 in
theorem seal_ok (a : Option Addr) (n c : Nat) (l : List Int) (w : World) (hh : Hs w a n c l) (h : n ≤ 32756) :
    Calls Try.prog 8 #[.slice a n c] w fun e w' => ∃ v', e = .returned (.tuple #[v', .int .i64 0]) ∧ Own w.heap.size w' v' (M.frame l) ∧ v' ≠ .slice none 0 0 ∧ Below w.heap.size w w' := by
  have hH := hide hh.len
  go_enter Try.func8, Try.ntmps8
  go_wp2_with (at_make; go_must (refine mk_own _ rfl (.tmp 13) rfl ((n : Int) + 12) (n + 12) rfl ?zc ?zm ?zk))
  case zc => omega
  case zm => omega
  case zk =>
    intro w1 ho1 hb1
    have hs1 := hb1.size
    go_wp2_with (at_builtin; go_must (refine app_str _ rfl (.tmp 15) (.const (.string { data := #[97, 109, 110, 49] })) rfl w.heap.size [] _ rfl { data := #[97, 109, 110, 49] } rfl ?yo ?yB ?yb ?yk))
    case yo => exact ho1
    case yB => exact hs1
    case yb => decide
    case yk =>
      intro v2 w2 ho2 hk2 hg2
      rw [sb_magic] at ho2
      have hb2 : Below w.heap.size w w2 := ho1.grown hb1 hg2 hs1
      have hn2 := hk2 (.inr (by decide))
      clear hk2 hg2 ho1 hb1 hs1
      have ho2' : Own w.heap.size w2 v2 (M.magic ++ M.be n 0) := by rw [show M.be n 0 = [] from rfl, List.append_nil]; exact ho2
      clear ho2
      go_wp2_with fail
      go_loopw [4, 5, 17] (fun b _ i wr => ∃ j : Nat, j ≤ 4 ∧ i = .int .i64 j ∧ Own w.heap.size wr b (M.magic ++ M.be n j) ∧ Below w.heap.size w wr ∧ b ≠ .slice none 0 0) (fun _ _ i _ => 4 - (intOf i).toNat)
      case atStart => exact ⟨0, by omega, rfl, ho2', hb2, hn2⟩
      case round =>
        obtain ⟨j, hj, rfl, hr, hbr, hnr⟩ := hrel
        have hsr := hbr.size
        by_cases hlt : j < 4
        · go_wp2_with (at_builtin; go_must (refine app_one _ rfl (.tmp 20) (.tmp 28) rfl w.heap.size (M.magic ++ M.be n j) u4 rfl _ rfl ((n : Int) / 2 ^ (24 - 8 * j) % 256) ?xc ?xo ?xB ?xb ?xk))
          case xc => simp
          case xo => exact hr.alloc _
          case xB => simp; omega
          case xb => simp [M.be_length, M.magic]; omega
          case xk =>
            intro v3 w3 k1 k2 k3
            have hb3 : Below w.heap.size w w3 := (hr.alloc _).grown (hbr.alloc hsr (.cells #[.int .u8 ((n : Int) / 2 ^ (24 - 8 * j) % 256)] 5)) k3 (by simp; omega)
            have k4 : Own w.heap.size w3 v3 (M.magic ++ M.be n (j + 1)) := by rw [M.be_succ, ← be_eq]; exact k1
            clear k1 k3 hr hbr
            go_wp2
            go_roundw
            case rel => exact ⟨j + 1, by omega, by go_num, k4, hb3, k2⟩
            case measure => simp [intOf]; omega
        · obtain rfl : j = 4 := by omega
          clear ho2' hb2 hn2
          go_wp2_with (at_builtin; go_must (refine app_hs _ rfl (.tmp 31) (.tmp 32) rfl w.heap.size (M.magic ++ M.be n 4) u4 rfl a n c rfl l ?xh ?xo ?xB ?xb ?xk))
          case xh => exact hh.later hbr
          case xo => exact hr
          case xB => exact hsr
          case xb => simp [M.be_length, M.magic]; omega
          case xk =>
            intro v3 w3 k1 k2 k3
            have hb3 : Below w.heap.size w w3 := hr.grown hbr k3 hsr
            have k4 := k2 (.inl hnr)
            have k5 : Own w.heap.size w3 v3 (M.bare l) := by unfold M.bare; rw [hH.out]; simpa using k1
            have hbb := M.bare_byte l hh.byte
            obtain ⟨g3, c3, hv3, hg3, hg4⟩ := k5.shape k4
            have hbl := M.bare_length l
            rw [hH.out] at hbl
            rw [hbl] at hv3
            subst hv3
            clear k1 k2 k3 hr hbr hnr k4
            have hr3 := k5.row
            go_wp2_with fail
            refine (sum_any ⟨g3, 0, none⟩ (n + 8) c3 (M.bare l) w3 (by omega) (by unfold maxLen; omega) hr3 hbb).mono ?_
            rintro e w4 ⟨rfl, rfl⟩
            rw [List.take_of_length_le (by omega)]
            have hS := M.sum_lt (M.bare l) (fun z hz => (hbb z hz).2)
            have hfr : M.frame l = M.bare l ++ M.le (M.sum (M.bare l)) 4 := rfl
            have HF := hide hfr
            clear hfr hr3 hbb
            generalize hSS : M.sum (M.bare l) = S at *
            generalize hBB : M.bare l = L at *
            have HBL := hide hbl
            clear hSS hBB hbl
            have k6 : Own w.heap.size w4 (.slice (some ⟨g3, 0, none⟩) (n + 8) c3) (L ++ M.le S 0) := by rw [show M.le S 0 = [] from rfl, List.append_nil]; exact k5
            have kn : (Value.slice (some ⟨g3, 0, none⟩) (n + 8) c3) ≠ .slice none 0 0 := by intro hh; cases hh
            clear k5
            go_wp2_with fail
            go_loopw [4, 7, 36] (fun b _ i wr => ∃ j : Nat, j ≤ 4 ∧ i = .int .i64 j ∧ Own w.heap.size wr b (L ++ M.le S j) ∧ Below w.heap.size w wr ∧ b ≠ .slice none 0 0) (fun _ _ i _ => 4 - (intOf i).toNat)
            case atStart => exact ⟨0, by omega, rfl, k6, hb3, kn⟩
            case round =>
              obtain ⟨j, hj, rfl, hr, hbr, hnr⟩ := hrel
              have hsr := hbr.size
              clear k6 hb3 kn
              by_cases hlt : j < 4
              · go_wp2_with (at_builtin; go_must (refine app_one _ rfl (.tmp 39) (.tmp 45) rfl w.heap.size (L ++ M.le S j) u4 rfl _ rfl ((S : Int) / 2 ^ (8 * j) % 256) ?xc ?xo ?xB ?xb ?xk))
                case xc => simp
                case xo => exact hr.alloc _
                case xB => simp; omega
                case xb => simp [M.le_length, HBL.out]; omega
                case xk =>
                  intro v3 w3 k1 k2 k3
                  have hb3 : Below w.heap.size w w3 := (hr.alloc _).grown (hbr.alloc hsr (.cells #[.int .u8 ((S : Int) / 2 ^ (8 * j) % 256)] 5)) k3 (by simp; omega)
                  have k4 : Own w.heap.size w3 v3 (L ++ M.le S (j + 1)) := by rw [M.le_succ, ← le_eq]; exact k1
                  clear k1 k3 hr hbr
                  go_wp2
                  go_roundw
                  case rel => exact ⟨j + 1, by omega, by go_num, k4, hb3, k2⟩
                  case measure => simp [intOf]; omega
              · obtain rfl : j = 4 := by omega
                go_wp2
                go_ret2
                exact ⟨_, rfl, by rw [HF.out]; exact hr, hnr, hbr⟩
#print axioms seal_ok
end Go.Proofs.Ytegkkoggfjgkbaa.Wi
