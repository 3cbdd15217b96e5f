import Derived.Test.YtegkkoggfjgkbaaAl
import Derived.Test.YtegkkoggfjgkbaaGFv
import Derived.Test.YtegkkoggfjgkbaaGFm
import Derived.Test.YtegkkoggfjgkbaaSm
import Derived.Deep.RegionLaw
import Derived.Lib.ConvBytes
namespace Go.Proofs.Ytegkkoggfjgkbaa.Wi
open Go.RowKit
set_option linter.unusedVariables false
set_option linter.unusedSimpArgs false

theorem Own.low {B B' : Nat} {w : World} {v : Value} {l : List Int} (h : Own B w v l) (hb : B' ≤ B) : Own B' w v l := by
  obtain ⟨h1, h2⟩ := h
  refine ⟨h1, ?_⟩
  rcases h2 with h2 | ⟨g, cap, cur, e1, e2, r⟩
  · exact .inl h2
  · exact .inr ⟨g, cap, cur, e1, Nat.le_trans hb e2, r⟩
theorem rb_from (r : List Int) : ∀ v : Nat, r.foldl (fun v z => v * 256 + z.toNat) v = v * 256 ^ r.length + M.rb r := by
  induction r with
  | nil => intro v; simp [M.rb]
  | cons z r ih =>
    intro v
    have h1 := ih (v * 256 + z.toNat)
    have h2 := ih (0 * 256 + z.toNat)
    simp only [List.foldl_cons, List.length_cons, M.rb] at h1 h2 ⊢
    rw [h1, h2, Nat.pow_succ, Nat.add_mul, Nat.zero_mul, Nat.zero_add, Nat.mul_assoc, Nat.mul_comm 256]
    omega
theorem rb_cons (z : Int) (r : List Int) : M.rb (z :: r) = z.toNat * 256 ^ r.length + M.rb r := by
  have := rb_from r (0 * 256 + z.toNat)
  rw [Nat.zero_mul, Nat.zero_add] at this
  show (z :: r).foldl _ 0 = _
  rw [List.foldl_cons, Nat.zero_mul, Nat.zero_add]
  exact this
/-- One digit more. -/
theorem form_round {v u : Nat} {ds : List Int} (h : v = u * 256 ^ ds.length + M.rb ds) : v = u / 256 * 256 ^ (((u % 256 : Nat) : Int) :: ds).length + M.rb (((u % 256 : Nat) : Int) :: ds) := by
  rw [rb_cons, List.length_cons, Nat.pow_succ, Int.toNat_natCast]
  have := Nat.div_add_mod u 256
  rw [h]
  conv => lhs; rw [← this]
  rw [Nat.add_mul, Nat.mul_comm 256 (u / 256), Nat.mul_assoc, Nat.mul_comm (256 ^ ds.length) 256, Nat.add_assoc]
theorem form_len {v u : Nat} {ds : List Int} (hv : v < 2 ^ 64) (h : v = u * 256 ^ ds.length + M.rb ds) (hu : 0 < u) : ds.length < 8 := by
  refine Nat.lt_of_not_le fun h8 => ?_
  have h1 : 256 ^ 8 ≤ 256 ^ ds.length := Nat.pow_le_pow_right (by decide) h8
  have h2 : 256 ^ ds.length ≤ u * 256 ^ ds.length := Nat.le_mul_of_pos_left _ hu
  have h3 : (256 : Nat) ^ 8 = 2 ^ 64 := by decide
  omega
set_option maxRecDepth 100000 in
set_option maxHeartbeats 1000000 in
theorem refform_any (v : Nat) (hv : v < 2 ^ 64) (w : World) :
    Calls Try.prog 67 #[.int .u64 v] w fun e w' => ∃ v', e = .returned v' ∧ Own w.heap.size w' v' (M.form v) ∧ v' ≠ .slice none 0 0 ∧ Below w.heap.size w w' := by
  go_enter Try.func67, Try.ntmps67
  go_wp2_with fail
  go_loopw [0, 3] (fun x b wr => ∃ (u : Nat) (ds : List Int), x = .int .u64 (u : Int) ∧ Own w.heap.size wr b ds ∧ (∀ z ∈ ds, 0 ≤ z ∧ z < 256) ∧ v = u * 256 ^ ds.length + M.rb ds ∧ (u = 0 → 0 < ds.length → ds.getD 0 0 ≠ 0) ∧ ds.length ≤ 8 ∧ Below w.heap.size w wr) (fun x _ _ => (intOf x).toNat)
  case atStart => exact ⟨v, [], rfl, Own.nil _ _, by simp, by simp [M.rb], by simp, by simp, Below.refl _ _⟩
  case round =>
    obtain ⟨u, ds, rfl, hO, hd, hvv, hf, hl8, hB⟩ := hrel
    obtain ⟨g, n, c, hb, hs, _⟩ := hO.hs hd
    subst hb
    have hn := hs.len
    have HS := hide hs
    have HO := hide hO
    have HD := hide hd
    have HV := hide hvv
    have HF := hide hf
    have HB := hide hB
    have hz := hB.size
    clear hO hd hvv hf hB hs
    by_cases hu : 0 < u
    · have hlen := form_len hv HV.out hu
      have hu' : (0 : Int) < (u : Int) := by omega
      have O1 : Own w.heap.size (wr.alloc (.cells #[.int .u8 ((u : Int) % 256)] 5)) (.slice (some ⟨wr.heap.size, 0, none⟩) 1 1) [((u % 256 : Nat) : Int)] := (own_built wr #[.int .u8 ((u : Int) % 256)] 1 [((u % 256 : Nat) : Int)] rfl (by simp [bs]) (by unfold maxLen; omega)).low hz
      have HO1 := hide O1
      have HS1 := hide (HS.out.later ((Below.refl wr.heap.size wr).alloc (Nat.le_refl _) (.cells #[.int .u8 ((u : Int) % 256)] 5)))
      have HB1 := hide (HB.out.alloc hz (.cells #[.int .u8 ((u : Int) % 256)] 5))
      clear O1
      go_wp2_with (at_builtin; go_must (refine app_hs _ rfl (.tmp 9) (.tmp 10) rfl w.heap.size [((u % 256 : Nat) : Int)] _ rfl g n c rfl ds HS1.out HO1.out (by simp; omega) (by simp; omega) ?_))
      intro v2 w2 o2 k2 g2
      have b2 : Below w.heap.size w w2 := HO1.out.grown HB1.out g2 (by simp; omega)
      have hdv : (u : Int).tdiv 256 = (u : Int) / 256 := Int.tdiv_eq_ediv_of_nonneg (by omega)
      have huv : u ≤ v := by
        have h1 := HV.out
        have h2 : u ≤ u * 256 ^ ds.length := Nat.le_mul_of_pos_right _ (Nat.pow_pos (by decide))
        omega
      have hwr : IntKind.wrap .u64 ((u : Int) / 256) = (u : Int) / 256 := by
        unfold IntKind.wrap
        simp [IntKind.bits, IntKind.signed]
        omega
      have O2 := hide o2
      have B2 := hide b2
      clear o2 b2 k2 g2 HO1 HS1 HB1 HS HO HB
      go_wp2
      go_round
      case rel =>
        refine ⟨u / 256, ((u % 256 : Nat) : Int) :: ds, by go_num, O2.out, ?_, form_round HV.out, ?_, by simp; omega, B2.out⟩
        · intro z hz
          rcases List.mem_cons.1 hz with rfl | hz
          · omega
          · exact HD.out z hz
        · intro h0 _
          simp
          omega
      case measure => simp [intOf]; omega
    · obtain rfl : u = 0 := by omega
      have hds : v = M.rb ds := by have := HV.out; rw [Nat.zero_mul, Nat.zero_add] at this; exact this
      have HFm : Hid (M.form v = (ds.length : Int) :: ds) := by
        show _ = _
        rw [hds]
        exact form_rb ds HD.out (fun h => HF.out rfl h)
      have hn8 : n ≤ 8 := by omega
      have O1 : Own w.heap.size (wr.alloc (.cells #[.int .u8 (n : Int)] 5)) (.slice (some ⟨wr.heap.size, 0, none⟩) 1 1) [(n : Int)] := (own_built wr #[.int .u8 (n : Int)] 1 [(n : Int)] rfl (by simp [bs]) (by unfold maxLen; omega)).low hz
      have HO1 := hide O1
      have HS1 := hide (HS.out.later ((Below.refl wr.heap.size wr).alloc (Nat.le_refl _) (.cells #[.int .u8 (n : Int)] 5)))
      have HB1 := hide (HB.out.alloc hz (.cells #[.int .u8 (n : Int)] 5))
      have hwn : IntKind.wrap .u8 (n : Int) = (n : Int) := by
        unfold IntKind.wrap
        simp [IntKind.bits, IntKind.signed]
        omega
      clear O1
      go_wp2_with (at_builtin; go_must (refine app_hs _ rfl (.tmp 17) (.tmp 18) rfl w.heap.size [(n : Int)] _ rfl g n c rfl ds HS1.out HO1.out (by simp; omega) (by simp; omega) ?_))
      intro v2 w2 o2 k2 g2
      have b2 : Below w.heap.size w w2 := HO1.out.grown HB1.out g2 (by simp; omega)
      have hk := k2 (.inl (by intro h; cases h))
      have O2 := hide o2
      have B2 := hide b2
      clear o2 b2 k2 g2 HO1 HS1 HB1 HS HO HB
      go_wp2
      go_ret
      refine ⟨_, rfl, ?_, hk, B2.out⟩
      rw [HFm.out, hn]
      exact O2.out

end Go.Proofs.Ytegkkoggfjgkbaa.Wi

namespace Go.Proofs.Ytegkkoggfjgkbaa.Wi
open Go.RowKit
set_option linter.unusedVariables false
set_option linter.unusedSimpArgs false

/-- What a thing comes to: its bytes, or none. -/
def ptOut (K V N m : Int) (s : ByteArray) : List Int := if ptErr K N m s = 0 then ptBytes K V N s else []
theorem ptOut_bad {K V N m : Int} {s : ByteArray} {E : Int} (h : ptErr K N m s = E) (hE : E ≠ 0) : ptOut K V N m s = [] := by unfold ptOut; rw [if_neg (by rw [h]; exact hE)]
theorem ptOut_ok {K V N m : Int} {s : ByteArray} (h : ptErr K N m s = 0) : ptOut K V N m s = ptBytes K V N s := by unfold ptOut; rw [if_pos h]
theorem box_bel (w : World) (o : Obj) : Below w.heap.size w (w.alloc o) := (Below.refl _ _).alloc (Nat.le_refl _) o
theorem bel_bytes (W : World) (s : ByteArray) : Below W.heap.size W (Lib.bytesWorld W 5 s) :=
  ⟨rfl, rfl, rfl, by rw [Lib.bytesWorld_size]; omega, fun k hk => Lib.bytesWorld_at_old W _ s k hk⟩
theorem row_bytes (W : World) (s : ByteArray) : Row (Lib.bytesWorld W 5 s) ⟨W.heap.size, 0, none⟩ (sb s) := fun j hj => by
  rw [sb_length] at hj
  rw [Addr.add_lit, Nat.zero_add, Lib.bytesWorld_cell W _ s j hj]
  have h2 : j < s.data.toList.length := by simpa using hj
  simp [sb, List.getD]
  cases s.data[j]? <;> rfl
theorem step_form {ops : Array Oper} {o : Oper} {a : Act} {w : World} {K : Act → World → Prop} {Q : Exit → Act → World → Prop} {E : Prop} (hg : o.guard = none) (x : Operand)
    (ho : o.op = .call { callee := .value (.func 67), args := #[x], argTypes := #[52] }) (v : Nat) (hv : v < 2 ^ 64) (hx : a.eval x = .int .u64 (v : Int))
    (hK : ∀ v' w', Own w.heap.size w' v' (M.form v) → v' ≠ .slice none 0 0 → Below w.heap.size w w' → K (a.put o.dst v') w') :
    if Region.wanted o (yielded ops a.tmps) = true then Oper.wp Try.prog o a w K Q else E := by
  have hw : Region.wanted o (yielded ops a.tmps) = true := by simp [Region.wanted, hg]
  rw [if_pos hw]
  have hr : (execOp a.eval o).run Try.prog w = .ok (.enter 67 #[.int .u64 (v : Int)]) w := by
    unfold execOp
    simp only [ho, resolve, invoke, Sem.run_bind, List.map_toArray, List.map_cons, List.map_nil, hx]
    rfl
  unfold Oper.wp
  rw [hr, Oper.upon_enter]
  refine (refform_any v hv w).mono ?_
  rintro e w' ⟨v', rfl, h1, h2, h3⟩
  exact hK v' w' h1 h2 h3
set_option maxRecDepth 100000 in
set_option maxHeartbeats 2000000 in
theorem refone_any (K V N m : Int) (s : ByteArray) (w : World) (hV0 : 0 ≤ V) (hV : V < 18446744073709551616) (hN : N ≤ 9223372036854775807) (hs : 9 + s.size ≤ 140737488355328) :
    Calls Try.prog 45 #[putV K V N m s] w fun e w' => ∃ v', e = .returned (.tuple #[v', .int .i64 (ptErr K N m s)]) ∧ Own w.heap.size w' v' (ptOut K V N m s) ∧ Below w.heap.size w w' := by
  have HF := hide (fun (v : Nat) (hv : v < 2 ^ 64) (W : World) (hb : Below w.heap.size w W) => (refform_any v hv W).mono (fun e w' h => (⟨h.choose, h.choose_spec.1, h.choose_spec.2.1.low hb.size, h.choose_spec.2.2.1, hb.trans (h.choose_spec.2.2.2.mono hb.size)⟩ : ∃ v', e = .returned v' ∧ Own w.heap.size w' v' (M.form v) ∧ v' ≠ .slice none 0 0 ∧ Below w.heap.size w w')))
  unfold putV
  by_cases hK0 : K = 0
  · subst hK0
    obtain ⟨v, rfl⟩ := Int.eq_ofNat_of_zero_le hV0
    have e1 : ptErr 0 N m s = 0 := rfl
    have e2 : ptOut 0 (v : Int) N m s = M.form v := by rw [ptOut_ok e1]; rfl
    go_enter Try.func45, Try.ntmps45
    go_wp2_with fail
    refine (HF.out v (by omega) _ (box_bel _ _)).mono ?_
    rintro e w1 ⟨v1, rfl, o1, _, b1⟩
    have O1 := hide o1
    have B1 := hide b1
    clear o1 b1 HF
    go_wp2
    go_ret2
    exact ⟨_, by first | rfl | (rw [e1]; rfl), by rw [e2]; exact O1.out, B1.out⟩
  · have n0 : (K == 0) = false := by simp [hK0]
    by_cases hK1 : K = 1
    · subst hK1
      by_cases hN0 : N < 0
      · have e1 : ptErr 1 N m s = 3 := by unfold ptErr; rw [if_neg (by decide), if_pos rfl, if_pos hN0]
        clear HF
        go_enter Try.func45, Try.ntmps45
        go_wp2
        go_ret2
        exact ⟨_, by first | rfl | (rw [e1]; rfl), by rw [ptOut_bad e1 (by decide)]; exact Own.nil _ _, box_bel _ _⟩
      · obtain ⟨v, rfl⟩ := Int.eq_ofNat_of_zero_le (Int.not_lt.1 hN0)
        have e1 : ptErr 1 (v : Int) m s = 0 := by unfold ptErr; rw [if_neg (by decide), if_pos rfl, if_neg hN0]
        have e2 : ptOut 1 V (v : Int) m s = M.form v := by rw [ptOut_ok e1]; rfl
        have hwr : IntKind.wrap .u64 (v : Int) = (v : Int) := by
          unfold IntKind.wrap
          simp [IntKind.bits, IntKind.signed]
          omega
        go_enter Try.func45, Try.ntmps45
        go_wp2_with fail
        refine (HF.out v (by omega) _ (box_bel _ _)).mono ?_
        rintro e w1 ⟨v1, rfl, o1, _, b1⟩
        have O1 := hide o1
        have B1 := hide b1
        clear o1 b1 HF
        go_wp2
        go_ret2
        exact ⟨_, by first | rfl | (rw [e1]; rfl), by rw [e2]; exact O1.out, B1.out⟩
    · have n1 : (K == 1) = false := by simp [hK1]
      by_cases hK2 : K = 2
      · subst hK2
        by_cases hN0 : N < 0
        · have e1 : ptErr 2 N m s = 3 := by unfold ptErr; rw [if_neg (by decide), if_neg (by decide), if_pos rfl, if_pos (.inl hN0)]
          clear HF
          go_enter Try.func45, Try.ntmps45
          go_wp2
          go_ret2
          exact ⟨_, by first | rfl | (rw [e1]; rfl), by rw [ptOut_bad e1 (by decide)]; exact Own.nil _ _, box_bel _ _⟩
        · by_cases hm0 : m < 0
          · have e1 : ptErr 2 N m s = 3 := by unfold ptErr; rw [if_neg (by decide), if_neg (by decide), if_pos rfl, if_pos (.inr hm0)]
            clear HF
            go_enter Try.func45, Try.ntmps45
            go_wp2
            go_ret2
            exact ⟨_, by first | rfl | (rw [e1]; rfl), by rw [ptOut_bad e1 (by decide)]; exact Own.nil _ _, box_bel _ _⟩
          · by_cases hmN : m < N
            · have e1 : ptErr 2 N m s = 11 := by unfold ptErr; rw [if_neg (by decide), if_neg (by decide), if_pos rfl, if_neg (by omega), if_pos hmN]
              clear HF
              go_enter Try.func45, Try.ntmps45
              go_wp2
              go_ret2
              exact ⟨_, by first | rfl | (rw [e1]; rfl), by rw [ptOut_bad e1 (by decide)]; exact Own.nil _ _, box_bel _ _⟩
            · obtain ⟨v, rfl⟩ := Int.eq_ofNat_of_zero_le (Int.not_lt.1 hN0)
              have e1 : ptErr 2 (v : Int) m s = 0 := by unfold ptErr; rw [if_neg (by decide), if_neg (by decide), if_pos rfl, if_neg (by omega), if_neg hmN]
              have e2 : ptOut 2 V (v : Int) m s = M.form v := by rw [ptOut_ok e1]; rfl
              have hwr : IntKind.wrap .u64 (v : Int) = (v : Int) := by
                unfold IntKind.wrap
                simp [IntKind.bits, IntKind.signed]
                omega
              go_enter Try.func45, Try.ntmps45
              go_wp2_with fail
              refine (HF.out v (by omega) _ (box_bel _ _)).mono ?_
              rintro e w1 ⟨v1, rfl, o1, _, b1⟩
              have O1 := hide o1
              have B1 := hide b1
              clear o1 b1 HF
              go_wp2
              go_ret2
              exact ⟨_, by first | rfl | (rw [e1]; rfl), by rw [e2]; exact O1.out, B1.out⟩
      · have n2 : (K == 2) = false := by simp [hK2]
        by_cases hm0 : m < 0
        · have e1 : ptErr K N m s = 3 := by unfold ptErr; rw [if_neg hK0, if_neg hK1, if_neg hK2, if_pos hm0]
          clear HF
          go_enter Try.func45, Try.ntmps45
          go_wp2
          go_ret2
          exact ⟨_, by first | rfl | (rw [e1]; rfl), by rw [ptOut_bad e1 (by decide)]; exact Own.nil _ _, box_bel _ _⟩
        · by_cases hms : m < (s.size : Int)
          · have e1 : ptErr K N m s = 11 := by unfold ptErr; rw [if_neg hK0, if_neg hK1, if_neg hK2, if_neg hm0, if_pos hms]
            clear HF
            go_enter Try.func45, Try.ntmps45
            go_wp2
            go_ret2
            exact ⟨_, by first | rfl | (rw [e1]; rfl), by rw [ptOut_bad e1 (by decide)]; exact Own.nil _ _, box_bel _ _⟩
          · have e1 : ptErr K N m s = 0 := by unfold ptErr; rw [if_neg hK0, if_neg hK1, if_neg hK2, if_neg hm0, if_neg hms]
            have e2 : ptOut K V N m s = M.form s.size ++ sb s := by
              rw [ptOut_ok e1]
              unfold ptBytes
              rw [if_neg hK0, if_neg (by omega)]
            have hwr : IntKind.wrap .u64 (s.size : Int) = (s.size : Int) := by
              unfold IntKind.wrap
              simp [IntKind.bits, IntKind.signed]
              omega
            have E1 := hide e1
            have E2 := hide e2
            have hb0 := box_bel w (.cells #[.int .i64 K, .int .u64 V, .int .i64 N, .int .i64 m, .string s] 54)
            clear e1 e2
            go_enter Try.func45, Try.ntmps45
            go_wp2_with fail
            have c4 : (w.alloc (.cells #[.int .i64 K, .int .u64 V, .int .i64 N, .int .i64 m, .string s] 54)).cell? ⟨w.heap.size, 4, none⟩ = some (.string s) := by simp
            have hz0 : (w.alloc (.cells #[.int .i64 K, .int .u64 V, .int .i64 N, .int .i64 m, .string s] 54)).heap.size = w.heap.size + 1 := by simp
            generalize w.alloc (.cells #[.int .i64 K, .int .u64 V, .int .i64 N, .int .i64 m, .string s] 54) = W at *
            have hconv : ∀ X : World, (convert 9 22 (.string s)).run Try.prog X = .ok (.slice (some ⟨X.heap.size, 0, none⟩) s.size (grownCap X s.size 0 5)) (Lib.bytesWorld X 5 s) := fun X => Lib.run_convert_string_bytes X 9 22 5 s Try.underlying9 Try.underlying22 Try.underlying5
            have HZ0 := hide hz0
            clear hz0
            have bd : Below W.heap.size W W.drew := (Below.refl _ _).drew
            have d0 : (Lib.bytesWorld W.drew 5 s).cell? ⟨w.heap.size, 4, none⟩ = some (.string s) := ((bel_bytes W.drew s).cell (p := ⟨w.heap.size, 4, none⟩) (by show w.heap.size < W.heap.size; (have hz0 := HZ0.out; omega))).trans c4
            have HC4 := hide c4
            have HD0 := hide d0
            have HB0 := hide hb0
            go_region_law (first
              | (refine step_bytes rfl (.tmp 52) (.tmp 55) rfl w.heap.size (M.form s.size) v1 rfl ⟨w1.heap.size, 0, none⟩ s.size _ rfl (sb s) (sb_length s) (row_bytes w1 s) (O1.out.kept (bel_bytes w1 s)) (by rw [Lib.bytesWorld_size]; have := B1.out.size; (have hz0 := HZ0.out; omega)) (by rw [M.form_length]; have := M.nb_le s.size (by (have hz0 := HZ0.out; omega)); (have hz0 := HZ0.out; omega)) ?_; intro v8 w8 o8 k8 g8; have O8 := hide o8; have B8 := hide ((O1.out.kept (bel_bytes w1 s)).grown (B1.out.trans ((bel_bytes w1 s).mono B1.out.size)) g8 (by rw [Lib.bytesWorld_size]; have := B1.out.size; (have hz0 := HZ0.out; omega))); clear o8 k8 g8)
              | (refine step_bytes rfl (.tmp 52) (.tmp 55) rfl w.heap.size (M.form s.size) v1 rfl ⟨W.heap.size, 0, none⟩ s.size _ rfl (sb s) (sb_length s) ((row_bytes W.drew s).later bx) O1.out B1.out.size (by rw [M.form_length]; have := M.nb_le s.size (by (have hz0 := HZ0.out; omega)); (have hz0 := HZ0.out; omega)) ?_; intro v8 w8 o8 k8 g8; have O8 := hide o8; have B8 := hide (O1.out.grown B1.out g8 B1.out.size); clear o8 k8 g8)
              | (refine step_form rfl (.tmp 51) rfl s.size (by (have hz0 := HZ0.out; omega)) rfl ?_; intro v1 w1 o1 n1 bx; have d1 : w1.cell? ⟨w.heap.size, 4, none⟩ = some (.string s) := (bx.cell (p := ⟨w.heap.size, 4, none⟩) (by first | (show w.heap.size < W.heap.size; (have hz0 := HZ0.out; omega)) | (rw [Lib.bytesWorld_size]; show w.heap.size < W.heap.size + 1; (have hz0 := HZ0.out; omega)))).trans (by first | exact HC4.out | exact HD0.out); have O1 : Hid (Own w.heap.size w1 v1 (M.form s.size)) := o1.low (by first | (show w.heap.size ≤ W.heap.size; (have hz0 := HZ0.out; omega)) | (rw [Lib.bytesWorld_size]; show w.heap.size ≤ W.heap.size + 1; (have hz0 := HZ0.out; omega))); have B1 : Hid (Below w.heap.size w w1) := (by first | exact HB0.out.drew.trans (bx.mono (show w.heap.size ≤ W.heap.size by (have hz0 := HZ0.out; omega))) | exact (HB0.out.drew.trans ((bel_bytes W.drew s).mono (show w.heap.size ≤ W.heap.size by (have hz0 := HZ0.out; omega)))).trans (bx.mono (by rw [Lib.bytesWorld_size]; show w.heap.size ≤ W.heap.size + 1; (have hz0 := HZ0.out; omega)))); clear o1))
            all_goals
              clear hconv d0 d1 bx n1 c4 HC4 HD0 HB0 hb0 HF
              go_wp2
              go_ret2
              exact ⟨_, by first | rfl | (rw [E1.out]; rfl), by rw [E2.out]; exact O8.out, B8.out⟩

end Go.Proofs.Ytegkkoggfjgkbaa.Wi

namespace Go.Proofs.Ytegkkoggfjgkbaa.Wi
open Go.RowKit
set_option linter.unusedVariables false
set_option linter.unusedSimpArgs false

theorem firstErr_append (A B : List Pt) : firstErr (A ++ B) = if firstErr A = 0 then firstErr B else firstErr A := by
  induction A with
  | nil => simp [firstErr]
  | cons p r ih =>
    by_cases h : p.err = 0
    · simp only [List.cons_append, firstErr, h, if_true]; exact ih
    · simp only [List.cons_append, firstErr, if_neg h]
theorem firstErr_at {P : List Pt} {k : Nat} (hk : k < P.length) (h0 : firstErr (P.take k) = 0) (he : P[k].err ≠ 0) : firstErr P = P[k].err := by
  have h : P = P.take k ++ (P[k] :: P.drop (k + 1)) := by rw [← List.drop_eq_getElem_cons hk, List.take_append_drop]
  have h2 : firstErr P = firstErr (P.take k ++ (P[k] :: P.drop (k + 1))) := congrArg firstErr h
  rw [h2, firstErr_append, if_pos h0, firstErr, if_neg he]
theorem Puts.take {w : World} {a : Option Addr} {P : List Pt} (h : Puts w a P) (k : Nat) : Puts w a (P.take k) := fun i hi => by
  have hi' : i < P.length := by rw [List.length_take] at hi; omega
  have e : (P.take k)[i] = P[i] := List.getElem_take
  rw [e]
  exact h i hi'
theorem Puts.later' {w w' : World} {a : Option Addr} {P : List Pt} (h : Puts w a P) (hb : Below w.heap.size w w') : Puts w' a P := by
  intro i hi
  obtain ⟨hf, b, o, ha, e0, e1, e2, e3, e4⟩ := h i hi
  exact ⟨hf, b, o, ha, cell_later hb e0, cell_later hb e1, cell_later hb e2, cell_later hb e3, cell_later hb e4⟩
def wOut (P : List Pt) : List Int := if firstErr P = 0 then allBytes P else []
set_option maxRecDepth 100000 in
set_option maxHeartbeats 2000000 in
theorem refwrite_any (P : List Pt) (a : Option Addr) (n c : Nat) (w : World) (hP : Puts w a P) (hlen : P.length = n) (hcap : n ≤ c) (hmx : n ≤ 9223372036854775807) (hLm : (allBytes P).length ≤ 140737488355328) (hsz : ∀ k (h : k < P.length), (allBytes (P.take k)).length + 9 + P[k].s.size ≤ 140737488355328) :
    Calls Try.prog 14 #[.slice a n c] w fun e w' => ∃ v', e = .returned (.tuple #[v', .int .i64 (firstErr P)]) ∧ Own w.heap.size w' v' (wOut P) ∧ Below w.heap.size w w' := by
  have HP := hide hP
  have HLN := hide hlen
  have HSZ := hide hsz
  have HL := hide hLm
  clear hP hlen hsz hLm
  go_enter Try.func14, Try.ntmps14
  go_wp2_with fail
  go_loopw [4, 5] (fun b i wr => ∃ k : Nat, i = .int .i64 (k : Int) ∧ k ≤ n ∧ firstErr (P.take k) = 0 ∧ Own w.heap.size wr b (allBytes (P.take k)) ∧ Below w.heap.size w wr) (fun _ i _ => n - (intOf i).toNat)
  case atStart => exact ⟨0, rfl, Nat.zero_le _, rfl, Own.nil _ _, Below.refl _ _⟩
  case round =>
    obtain ⟨k, rfl, hk, hE, hO, hB⟩ := hrel
    have HE := hide hE
    have HO := hide hO
    have HB := hide hB
    have hz := hB.size
    clear hE hO hB
    by_cases hlt : k < n
    · have hkP : k < P.length := by rw [HLN.out]; exact hlt
      obtain ⟨hf, gb, go, ha, e0, e1, e2, e3, e4⟩ := HP.out k hkP
      subst ha
      have e0 := cell_later HB.out e0
      have e1 := cell_later HB.out e1
      have e2 := cell_later HB.out e2
      have e3 := cell_later HB.out e3
      have e4 := cell_later HB.out e4
      have hs := HSZ.out k hkP
      have H1 := hide (refone_any P[k].K P[k].V P[k].N P[k].m P[k].s wr hf.1 hf.2.1 hf.2.2.2.1 (by omega))
      have HA := hide (firstErr_at hkP HE.out)
      have HT := hide (take_snoc P k hkP)
      have HPB := hide (pt_byte P[k] hf (by omega))
      have hpl : Hid (P[k].bytes.length ≤ 9 + P[k].s.size) := pt_short P[k] hf (by omega)
      have HX : Hid (ptErr P[k].K P[k].N P[k].m P[k].s = P[k].err) := rfl
      have HY : Hid (ptBytes P[k].K P[k].V P[k].N P[k].s = P[k].bytes) := rfl
      unfold putV at H1
      generalize P[k] = p at *
      obtain ⟨K, V, N, m, s⟩ := p
      dsimp only at *
      clear hf
      go_wp2_with fail
      refine H1.out.mono ?_
      rintro e w1 ⟨v1, rfl, o1, b1⟩
      have O1 := hide o1
      have B1 := hide b1
      clear o1 b1 H1 e0 e1 e2 e3 e4
      by_cases he : ptErr K N m s = 0
      · have hout : ptOut K V N m s = ptBytes K V N s := ptOut_ok he
        have O2 : Hid (Own wr.heap.size w1 v1 (ptBytes K V N s)) := by rw [← hout]; exact O1.out
        obtain ⟨g, n1, c1, hv, hs1, _⟩ := O2.out.hs (fun z hz => HPB.out z (by rw [← HY.out]; exact hz))
        subst hv
        have HS1 := hide hs1
        have hl1 : n1 ≤ 9 + s.size := by have := hs1.len; rw [HY.out] at this; have := hpl.out; omega
        have HE1 := hide he
        clear hout O1 hs1 he
        rw [HE1.out]
        go_wp2_with (at_builtin; go_must (refine app_hs _ rfl (.tmp 25) (.tmp 26) rfl w.heap.size (allBytes (P.take k)) _ rfl g n1 c1 rfl (ptBytes K V N s) HS1.out (HO.out.kept B1.out) (Nat.le_trans hz B1.out.size) (by omega) ?_))
        intro v2 w2 o2 _ g2
        have b2 : Below w.heap.size w w2 := (HO.out.kept B1.out).grown (HB.out.trans (B1.out.mono hz)) g2 (Nat.le_trans hz B1.out.size)
        have O3 := hide o2
        have B3 := hide b2
        clear o2 g2 b2 HS1 O2 HO B1 HB
        go_wp2
        go_round
        case rel => exact ⟨k + 1, by go_num, by omega, by rw [HT.out, firstErr_append, if_pos HE.out]; simp only [firstErr]; rw [if_pos (HX.out.symm.trans HE1.out)], by rw [HT.out, allBytes_snoc, ← HY.out]; exact O3.out, B3.out⟩
        case measure => simp [intOf]; omega
      · have hb : (ptErr K N m s != 0) = true := by simp [he]
        have hF : firstErr P = ptErr K N m s := (HA.out (fun h => he (HX.out.trans h))).trans HX.out.symm
        have HF := hide hF
        have HEN := hide he
        generalize ptErr K N m s = E at *
        clear HA hF he
        go_wp2
        go_ret2
        refine ⟨_, by rw [HF.out]; rfl, ?_, HB.out.trans (B1.out.mono hz)⟩
        unfold wOut
        rw [if_neg (by rw [HF.out]; exact HEN.out)]
        exact Own.nil _ _
    · obtain rfl : k = n := by omega
      have hT : P.take k = P := List.take_of_length_le (by rw [HLN.out]; exact Nat.le_refl _)
      have HE2 : Hid (firstErr P = 0) := by have := HE.out; rw [hT] at this; exact this
      have HO2 : Hid (Own w.heap.size wr u4 (allBytes P)) := by have := HO.out; rw [hT] at this; exact this
      clear hT HE HO
      go_wp2
      go_ret2
      refine ⟨_, by rw [HE2.out]; rfl, ?_, HB.out⟩
      unfold wOut
      rw [if_pos HE2.out]
      exact HO2.out

end Go.Proofs.Ytegkkoggfjgkbaa.Wi
