import Derived.Test.YtaagoneajngdcaaAl
import Derived.Test.YtaagoneajngdcaaBu
import Derived.Test.YtaagoneajngdcaaFm
import Derived.Test.YtaagoneajngdcaaSm
namespace Go.Proofs.Ytaagoneajngdcaa
open Go.RowKit
set_option linter.unusedVariables false
set_option linter.unusedSimpArgs false

theorem Own.low {B B' : Nat} {w : World} {v : Value} {l : List Int} (h : Own B w v l) (hb : B' ≤ B) : Own B' w v l := by
  obtain ⟨h1, h2⟩ := h
  refine ⟨h1, ?_⟩
  rcases h2 with h2 | ⟨g, cap, cur, e1, e2, r⟩
  · exact .inl h2
  · exact .inr ⟨g, cap, cur, e1, Nat.le_trans hb e2, r⟩
theorem rb_from (r : List Int) : ∀ v : Nat, r.foldl (fun v z => v * 256 + z.toNat) v = v * 256 ^ r.length + M.rb r := by
  induction r with
  | nil => intro v; simp [M.rb]
  | cons z r ih =>
    intro v
    have h1 := ih (v * 256 + z.toNat)
    have h2 := ih (0 * 256 + z.toNat)
    simp only [List.foldl_cons, List.length_cons, M.rb] at h1 h2 ⊢
    rw [h1, h2, Nat.pow_succ, Nat.add_mul, Nat.zero_mul, Nat.zero_add, Nat.mul_assoc, Nat.mul_comm 256]
    omega
theorem rb_cons (z : Int) (r : List Int) : M.rb (z :: r) = z.toNat * 256 ^ r.length + M.rb r := by
  have := rb_from r (0 * 256 + z.toNat)
  rw [Nat.zero_mul, Nat.zero_add] at this
  show (z :: r).foldl _ 0 = _
  rw [List.foldl_cons, Nat.zero_mul, Nat.zero_add]
  exact this
/-- One digit more. -/
theorem form_round {v u : Nat} {ds : List Int} (h : v = u * 256 ^ ds.length + M.rb ds) : v = u / 256 * 256 ^ (((u % 256 : Nat) : Int) :: ds).length + M.rb (((u % 256 : Nat) : Int) :: ds) := by
  rw [rb_cons, List.length_cons, Nat.pow_succ, Int.toNat_natCast]
  have := Nat.div_add_mod u 256
  rw [h]
  conv => lhs; rw [← this]
  rw [Nat.add_mul, Nat.mul_comm 256 (u / 256), Nat.mul_assoc, Nat.mul_comm (256 ^ ds.length) 256, Nat.add_assoc]
theorem form_len {v u : Nat} {ds : List Int} (hv : v < 2 ^ 64) (h : v = u * 256 ^ ds.length + M.rb ds) (hu : 0 < u) : ds.length < 8 := by
  refine Nat.lt_of_not_le fun h8 => ?_
  have h1 : 256 ^ 8 ≤ 256 ^ ds.length := Nat.pow_le_pow_right (by decide) h8
  have h2 : 256 ^ ds.length ≤ u * 256 ^ ds.length := Nat.le_mul_of_pos_left _ hu
  have h3 : (256 : Nat) ^ 8 = 2 ^ 64 := by decide
  omega
set_option maxRecDepth 100000 in
set_option maxHeartbeats 1000000 in
theorem refform_any (v : Nat) (hv : v < 2 ^ 64) (w : World) :
    Calls Try.prog 20 #[.int .u64 v] w fun e w' => ∃ v', e = .returned v' ∧ Own w.heap.size w' v' (M.form v) ∧ v' ≠ .slice none 0 0 ∧ Below w.heap.size w w' := by
  go_enter Try.func20, Try.ntmps20
  go_wp2_with fail
  go_loopw [0, 3] (fun x b wr => ∃ (u : Nat) (ds : List Int), x = .int .u64 (u : Int) ∧ Own w.heap.size wr b ds ∧ (∀ z ∈ ds, 0 ≤ z ∧ z < 256) ∧ v = u * 256 ^ ds.length + M.rb ds ∧ (u = 0 → 0 < ds.length → ds.getD 0 0 ≠ 0) ∧ ds.length ≤ 8 ∧ Below w.heap.size w wr) (fun x _ _ => (intOf x).toNat)
  case atStart => exact ⟨v, [], rfl, Own.nil _ _, by simp, by simp [M.rb], by simp, by simp, Below.refl _ _⟩
  case round =>
    obtain ⟨u, ds, rfl, hO, hd, hvv, hf, hl8, hB⟩ := hrel
    obtain ⟨g, n, c, hb, hs, _⟩ := hO.hs hd
    subst hb
    have hn := hs.len
    have HS := hide hs
    have HO := hide hO
    have HD := hide hd
    have HV := hide hvv
    have HF := hide hf
    have HB := hide hB
    have hz := hB.size
    clear hO hd hvv hf hB hs
    by_cases hu : 0 < u
    · have hlen := form_len hv HV.out hu
      have hu' : (0 : Int) < (u : Int) := by omega
      have O1 : Own w.heap.size (wr.alloc (.cells #[.int .u8 ((u : Int) % 256)] 5)) (.slice (some ⟨wr.heap.size, 0, none⟩) 1 1) [((u % 256 : Nat) : Int)] := (own_built wr #[.int .u8 ((u : Int) % 256)] 1 [((u % 256 : Nat) : Int)] rfl (by simp [bs]) (by unfold maxLen; omega)).low hz
      have HO1 := hide O1
      have HS1 := hide (HS.out.later ((Below.refl wr.heap.size wr).alloc (Nat.le_refl _) (.cells #[.int .u8 ((u : Int) % 256)] 5)))
      have HB1 := hide (HB.out.alloc hz (.cells #[.int .u8 ((u : Int) % 256)] 5))
      clear O1
      go_wp2_with (at_builtin; go_must (refine app_hs _ rfl (.tmp 9) (.tmp 10) rfl w.heap.size [((u % 256 : Nat) : Int)] _ rfl g n c rfl ds HS1.out HO1.out (by simp; omega) (by simp; omega) ?_))
      intro v2 w2 o2 k2 g2
      have b2 : Below w.heap.size w w2 := HO1.out.grown HB1.out g2 (by simp; omega)
      have hdv : (u : Int).tdiv 256 = (u : Int) / 256 := Int.tdiv_eq_ediv_of_nonneg (by omega)
      have huv : u ≤ v := by
        have h1 := HV.out
        have h2 : u ≤ u * 256 ^ ds.length := Nat.le_mul_of_pos_right _ (Nat.pow_pos (by decide))
        omega
      have hwr : IntKind.wrap .u64 ((u : Int) / 256) = (u : Int) / 256 := by
        unfold IntKind.wrap
        simp [IntKind.bits, IntKind.signed]
        omega
      have O2 := hide o2
      have B2 := hide b2
      clear o2 b2 k2 g2 HO1 HS1 HB1 HS HO HB
      go_wp2
      go_round
      case rel =>
        refine ⟨u / 256, ((u % 256 : Nat) : Int) :: ds, by go_num, O2.out, ?_, form_round HV.out, ?_, by simp; omega, B2.out⟩
        · intro z hz
          rcases List.mem_cons.1 hz with rfl | hz
          · omega
          · exact HD.out z hz
        · intro h0 _
          simp
          omega
      case measure => simp [intOf]; omega
    · obtain rfl : u = 0 := by omega
      have hds : v = M.rb ds := by have := HV.out; rw [Nat.zero_mul, Nat.zero_add] at this; exact this
      have HFm : Hid (M.form v = (ds.length : Int) :: ds) := by
        show _ = _
        rw [hds]
        exact form_rb ds HD.out (fun h => HF.out rfl h)
      have hn8 : n ≤ 8 := by omega
      have O1 : Own w.heap.size (wr.alloc (.cells #[.int .u8 (n : Int)] 5)) (.slice (some ⟨wr.heap.size, 0, none⟩) 1 1) [(n : Int)] := (own_built wr #[.int .u8 (n : Int)] 1 [(n : Int)] rfl (by simp [bs]) (by unfold maxLen; omega)).low hz
      have HO1 := hide O1
      have HS1 := hide (HS.out.later ((Below.refl wr.heap.size wr).alloc (Nat.le_refl _) (.cells #[.int .u8 (n : Int)] 5)))
      have HB1 := hide (HB.out.alloc hz (.cells #[.int .u8 (n : Int)] 5))
      have hwn : IntKind.wrap .u8 (n : Int) = (n : Int) := by
        unfold IntKind.wrap
        simp [IntKind.bits, IntKind.signed]
        omega
      clear O1
      go_wp2_with (at_builtin; go_must (refine app_hs _ rfl (.tmp 17) (.tmp 18) rfl w.heap.size [(n : Int)] _ rfl g n c rfl ds HS1.out HO1.out (by simp; omega) (by simp; omega) ?_))
      intro v2 w2 o2 k2 g2
      have b2 : Below w.heap.size w w2 := HO1.out.grown HB1.out g2 (by simp; omega)
      have hk := k2 (.inl (by intro h; cases h))
      have O2 := hide o2
      have B2 := hide b2
      clear o2 b2 k2 g2 HO1 HS1 HB1 HS HO HB
      go_wp2
      go_ret
      refine ⟨_, rfl, ?_, hk, B2.out⟩
      rw [HFm.out, hn]
      exact O2.out

end Go.Proofs.Ytaagoneajngdcaa
