import Derived.Test.YtaagoneajngdcaaIa
import Derived.Deep.RegionLaw
import Derived.Lib.ConvBytes
namespace Go.Proofs.Ytaagoneajngdcaa
open Go.RowKit
set_option linter.unusedVariables false
set_option linter.unusedSimpArgs false

/-- What a thing comes to: its bytes, or none. -/
def ptOut (K V N m : Int) (s : ByteArray) : List Int := if ptErr K N m s = 0 then ptBytes K V N s else []
theorem ptOut_bad {K V N m : Int} {s : ByteArray} {E : Int} (h : ptErr K N m s = E) (hE : E ≠ 0) : ptOut K V N m s = [] := by unfold ptOut; rw [if_neg (by rw [h]; exact hE)]
theorem ptOut_ok {K V N m : Int} {s : ByteArray} (h : ptErr K N m s = 0) : ptOut K V N m s = ptBytes K V N s := by unfold ptOut; rw [if_pos h]
theorem box_bel (w : World) (o : Obj) : Below w.heap.size w (w.alloc o) := (Below.refl _ _).alloc (Nat.le_refl _) o
theorem bel_bytes (W : World) (s : ByteArray) : Below W.heap.size W (Lib.bytesWorld W 5 s) :=
  ⟨rfl, rfl, rfl, by rw [Lib.bytesWorld_size]; omega, fun k hk => Lib.bytesWorld_at_old W _ s k hk⟩
theorem row_bytes (W : World) (s : ByteArray) : Row (Lib.bytesWorld W 5 s) ⟨W.heap.size, 0, none⟩ (sb s) := fun j hj => by
  rw [sb_length] at hj
  rw [Addr.add_lit, Nat.zero_add, Lib.bytesWorld_cell W _ s j hj]
  have h2 : j < s.data.toList.length := by simpa using hj
  simp [sb, List.getD]
  cases s.data[j]? <;> rfl
theorem step_form {ops : Array Oper} {o : Oper} {a : Act} {w : World} {K : Act → World → Prop} {Q : Exit → Act → World → Prop} {E : Prop} (hg : o.guard = none) (x : Operand)
    (ho : o.op = .call { callee := .value (.func 20), args := #[x], argTypes := #[33] }) (v : Nat) (hv : v < 2 ^ 64) (hx : a.eval x = .int .u64 (v : Int))
    (hK : ∀ v' w', Own w.heap.size w' v' (M.form v) → v' ≠ .slice none 0 0 → Below w.heap.size w w' → K (a.put o.dst v') w') :
    if Region.wanted o (yielded ops a.tmps) = true then Oper.wp Try.prog o a w K Q else E := by
  have hw : Region.wanted o (yielded ops a.tmps) = true := by simp [Region.wanted, hg]
  rw [if_pos hw]
  have hr : (execOp a.eval o).run Try.prog w = .ok (.enter 20 #[.int .u64 (v : Int)]) w := by
    unfold execOp
    simp only [ho, resolve, invoke, Sem.run_bind, List.map_toArray, List.map_cons, List.map_nil, hx]
    rfl
  unfold Oper.wp
  rw [hr, Oper.upon_enter]
  refine (refform_any v hv w).mono ?_
  rintro e w' ⟨v', rfl, h1, h2, h3⟩
  exact hK v' w' h1 h2 h3
set_option maxRecDepth 100000 in
set_option maxHeartbeats 2000000 in
theorem refone_any (K V N m : Int) (s : ByteArray) (w : World) (hV0 : 0 ≤ V) (hV : V < 18446744073709551616) (hN : N ≤ 9223372036854775807) (hs : 9 + s.size ≤ 140737488355328) :
    Calls Try.prog 15 #[putV K V N m s] w fun e w' => ∃ v', e = .returned (.tuple #[v', .int .i64 (ptErr K N m s)]) ∧ Own w.heap.size w' v' (ptOut K V N m s) ∧ Below w.heap.size w w' := by
  have HF := hide (fun (v : Nat) (hv : v < 2 ^ 64) (W : World) (hb : Below w.heap.size w W) => (refform_any v hv W).mono (fun e w' h => (⟨h.choose, h.choose_spec.1, h.choose_spec.2.1.low hb.size, h.choose_spec.2.2.1, hb.trans (h.choose_spec.2.2.2.mono hb.size)⟩ : ∃ v', e = .returned v' ∧ Own w.heap.size w' v' (M.form v) ∧ v' ≠ .slice none 0 0 ∧ Below w.heap.size w w')))
  unfold putV
  by_cases hK0 : K = 0
  · subst hK0
    obtain ⟨v, rfl⟩ := Int.eq_ofNat_of_zero_le hV0
    have e1 : ptErr 0 N m s = 0 := rfl
    have e2 : ptOut 0 (v : Int) N m s = M.form v := by rw [ptOut_ok e1]; rfl
    go_enter Try.func15, Try.ntmps15
    go_wp2_with fail
    refine (HF.out v (by omega) _ (box_bel _ _)).mono ?_
    rintro e w1 ⟨v1, rfl, o1, _, b1⟩
    have O1 := hide o1
    have B1 := hide b1
    clear o1 b1 HF
    go_wp2
    go_ret2
    exact ⟨_, by first | rfl | (rw [e1]; rfl), by rw [e2]; exact O1.out, B1.out⟩
  · have n0 : (K == 0) = false := by simp [hK0]
    by_cases hK1 : K = 1
    · subst hK1
      by_cases hN0 : N < 0
      · have e1 : ptErr 1 N m s = 3 := by unfold ptErr; rw [if_neg (by decide), if_pos rfl, if_pos hN0]
        clear HF
        go_enter Try.func15, Try.ntmps15
        go_wp2
        go_ret2
        exact ⟨_, by first | rfl | (rw [e1]; rfl), by rw [ptOut_bad e1 (by decide)]; exact Own.nil _ _, box_bel _ _⟩
      · obtain ⟨v, rfl⟩ := Int.eq_ofNat_of_zero_le (Int.not_lt.1 hN0)
        have e1 : ptErr 1 (v : Int) m s = 0 := by unfold ptErr; rw [if_neg (by decide), if_pos rfl, if_neg hN0]
        have e2 : ptOut 1 V (v : Int) m s = M.form v := by rw [ptOut_ok e1]; rfl
        have hwr : IntKind.wrap .u64 (v : Int) = (v : Int) := by
          unfold IntKind.wrap
          simp [IntKind.bits, IntKind.signed]
          omega
        go_enter Try.func15, Try.ntmps15
        go_wp2_with fail
        refine (HF.out v (by omega) _ (box_bel _ _)).mono ?_
        rintro e w1 ⟨v1, rfl, o1, _, b1⟩
        have O1 := hide o1
        have B1 := hide b1
        clear o1 b1 HF
        go_wp2
        go_ret2
        exact ⟨_, by first | rfl | (rw [e1]; rfl), by rw [e2]; exact O1.out, B1.out⟩
    · have n1 : (K == 1) = false := by simp [hK1]
      by_cases hK2 : K = 2
      · subst hK2
        by_cases hN0 : N < 0
        · have e1 : ptErr 2 N m s = 3 := by unfold ptErr; rw [if_neg (by decide), if_neg (by decide), if_pos rfl, if_pos (.inl hN0)]
          clear HF
          go_enter Try.func15, Try.ntmps15
          go_wp2
          go_ret2
          exact ⟨_, by first | rfl | (rw [e1]; rfl), by rw [ptOut_bad e1 (by decide)]; exact Own.nil _ _, box_bel _ _⟩
        · by_cases hm0 : m < 0
          · have e1 : ptErr 2 N m s = 3 := by unfold ptErr; rw [if_neg (by decide), if_neg (by decide), if_pos rfl, if_pos (.inr hm0)]
            clear HF
            go_enter Try.func15, Try.ntmps15
            go_wp2
            go_ret2
            exact ⟨_, by first | rfl | (rw [e1]; rfl), by rw [ptOut_bad e1 (by decide)]; exact Own.nil _ _, box_bel _ _⟩
          · by_cases hmN : m < N
            · have e1 : ptErr 2 N m s = 11 := by unfold ptErr; rw [if_neg (by decide), if_neg (by decide), if_pos rfl, if_neg (by omega), if_pos hmN]
              clear HF
              go_enter Try.func15, Try.ntmps15
              go_wp2
              go_ret2
              exact ⟨_, by first | rfl | (rw [e1]; rfl), by rw [ptOut_bad e1 (by decide)]; exact Own.nil _ _, box_bel _ _⟩
            · obtain ⟨v, rfl⟩ := Int.eq_ofNat_of_zero_le (Int.not_lt.1 hN0)
              have e1 : ptErr 2 (v : Int) m s = 0 := by unfold ptErr; rw [if_neg (by decide), if_neg (by decide), if_pos rfl, if_neg (by omega), if_neg hmN]
              have e2 : ptOut 2 V (v : Int) m s = M.form v := by rw [ptOut_ok e1]; rfl
              have hwr : IntKind.wrap .u64 (v : Int) = (v : Int) := by
                unfold IntKind.wrap
                simp [IntKind.bits, IntKind.signed]
                omega
              go_enter Try.func15, Try.ntmps15
              go_wp2_with fail
              refine (HF.out v (by omega) _ (box_bel _ _)).mono ?_
              rintro e w1 ⟨v1, rfl, o1, _, b1⟩
              have O1 := hide o1
              have B1 := hide b1
              clear o1 b1 HF
              go_wp2
              go_ret2
              exact ⟨_, by first | rfl | (rw [e1]; rfl), by rw [e2]; exact O1.out, B1.out⟩
      · have n2 : (K == 2) = false := by simp [hK2]
        by_cases hm0 : m < 0
        · have e1 : ptErr K N m s = 3 := by unfold ptErr; rw [if_neg hK0, if_neg hK1, if_neg hK2, if_pos hm0]
          clear HF
          go_enter Try.func15, Try.ntmps15
          go_wp2
          go_ret2
          exact ⟨_, by first | rfl | (rw [e1]; rfl), by rw [ptOut_bad e1 (by decide)]; exact Own.nil _ _, box_bel _ _⟩
        · by_cases hms : m < (s.size : Int)
          · have e1 : ptErr K N m s = 11 := by unfold ptErr; rw [if_neg hK0, if_neg hK1, if_neg hK2, if_neg hm0, if_pos hms]
            clear HF
            go_enter Try.func15, Try.ntmps15
            go_wp2
            go_ret2
            exact ⟨_, by first | rfl | (rw [e1]; rfl), by rw [ptOut_bad e1 (by decide)]; exact Own.nil _ _, box_bel _ _⟩
          · have e1 : ptErr K N m s = 0 := by unfold ptErr; rw [if_neg hK0, if_neg hK1, if_neg hK2, if_neg hm0, if_neg hms]
            have e2 : ptOut K V N m s = M.form s.size ++ sb s := by
              rw [ptOut_ok e1]
              unfold ptBytes
              rw [if_neg hK0, if_neg (by omega)]
            have hwr : IntKind.wrap .u64 (s.size : Int) = (s.size : Int) := by
              unfold IntKind.wrap
              simp [IntKind.bits, IntKind.signed]
              omega
            have E1 := hide e1
            have E2 := hide e2
            have hb0 := box_bel w (.cells #[.int .i64 K, .int .u64 V, .int .i64 N, .int .i64 m, .string s] 35)
            clear e1 e2
            go_enter Try.func15, Try.ntmps15
            go_wp2_with fail
            have c4 : (w.alloc (.cells #[.int .i64 K, .int .u64 V, .int .i64 N, .int .i64 m, .string s] 35)).cell? ⟨w.heap.size, 4, none⟩ = some (.string s) := by simp
            have hz0 : (w.alloc (.cells #[.int .i64 K, .int .u64 V, .int .i64 N, .int .i64 m, .string s] 35)).heap.size = w.heap.size + 1 := by simp
            generalize w.alloc (.cells #[.int .i64 K, .int .u64 V, .int .i64 N, .int .i64 m, .string s] 35) = W at *
            have hconv : ∀ X : World, (convert 9 27 (.string s)).run Try.prog X = .ok (.slice (some ⟨X.heap.size, 0, none⟩) s.size (grownCap X s.size 0 5)) (Lib.bytesWorld X 5 s) := fun X => Lib.run_convert_string_bytes X 9 27 5 s Try.underlying9 Try.underlying27 Try.underlying5
            have HZ0 := hide hz0
            clear hz0
            have bd : Below W.heap.size W W.drew := (Below.refl _ _).drew
            have d0 : (Lib.bytesWorld W.drew 5 s).cell? ⟨w.heap.size, 4, none⟩ = some (.string s) := ((bel_bytes W.drew s).cell (p := ⟨w.heap.size, 4, none⟩) (by show w.heap.size < W.heap.size; (have hz0 := HZ0.out; omega))).trans c4
            have HC4 := hide c4
            have HD0 := hide d0
            have HB0 := hide hb0
            go_region_law (first
              | (refine step_bytes rfl (.tmp 52) (.tmp 55) rfl w.heap.size (M.form s.size) v1 rfl ⟨w1.heap.size, 0, none⟩ s.size _ rfl (sb s) (sb_length s) (row_bytes w1 s) (O1.out.kept (bel_bytes w1 s)) (by rw [Lib.bytesWorld_size]; have := B1.out.size; (have hz0 := HZ0.out; omega)) (by rw [M.form_length]; have := M.nb_le s.size (by (have hz0 := HZ0.out; omega)); (have hz0 := HZ0.out; omega)) ?_; intro v8 w8 o8 k8 g8; have O8 := hide o8; have B8 := hide ((O1.out.kept (bel_bytes w1 s)).grown (B1.out.trans ((bel_bytes w1 s).mono B1.out.size)) g8 (by rw [Lib.bytesWorld_size]; have := B1.out.size; (have hz0 := HZ0.out; omega))); clear o8 k8 g8)
              | (refine step_bytes rfl (.tmp 52) (.tmp 55) rfl w.heap.size (M.form s.size) v1 rfl ⟨W.heap.size, 0, none⟩ s.size _ rfl (sb s) (sb_length s) ((row_bytes W.drew s).later bx) O1.out B1.out.size (by rw [M.form_length]; have := M.nb_le s.size (by (have hz0 := HZ0.out; omega)); (have hz0 := HZ0.out; omega)) ?_; intro v8 w8 o8 k8 g8; have O8 := hide o8; have B8 := hide (O1.out.grown B1.out g8 B1.out.size); clear o8 k8 g8)
              | (refine step_form rfl (.tmp 51) rfl s.size (by (have hz0 := HZ0.out; omega)) rfl ?_; intro v1 w1 o1 n1 bx; have d1 : w1.cell? ⟨w.heap.size, 4, none⟩ = some (.string s) := (bx.cell (p := ⟨w.heap.size, 4, none⟩) (by first | (show w.heap.size < W.heap.size; (have hz0 := HZ0.out; omega)) | (rw [Lib.bytesWorld_size]; show w.heap.size < W.heap.size + 1; (have hz0 := HZ0.out; omega)))).trans (by first | exact HC4.out | exact HD0.out); have O1 : Hid (Own w.heap.size w1 v1 (M.form s.size)) := o1.low (by first | (show w.heap.size ≤ W.heap.size; (have hz0 := HZ0.out; omega)) | (rw [Lib.bytesWorld_size]; show w.heap.size ≤ W.heap.size + 1; (have hz0 := HZ0.out; omega))); have B1 : Hid (Below w.heap.size w w1) := (by first | exact HB0.out.drew.trans (bx.mono (show w.heap.size ≤ W.heap.size by (have hz0 := HZ0.out; omega))) | exact (HB0.out.drew.trans ((bel_bytes W.drew s).mono (show w.heap.size ≤ W.heap.size by (have hz0 := HZ0.out; omega)))).trans (bx.mono (by rw [Lib.bytesWorld_size]; show w.heap.size ≤ W.heap.size + 1; (have hz0 := HZ0.out; omega)))); clear o1))
            all_goals
              clear hconv d0 d1 bx n1 c4 HC4 HD0 HB0 hb0 HF
              go_wp2
              go_ret2
              exact ⟨_, by first | rfl | (rw [E1.out]; rfl), by rw [E2.out]; exact O8.out, B8.out⟩

end Go.Proofs.Ytaagoneajngdcaa
