import Derived.Test.YtomiifnhcojilaaAl
import Derived.Test.YtomiifnhcojilaaGFv
import Derived.Test.YtomiifnhcojilaaGFm
import Derived.Test.YtomiifnhcojilaaSm
import Derived.Deep.RegionLaw
import Derived.Lib.ConvBytes
namespace Go.Proofs.Ytomiifnhcojilaa.Wi
open Go.RowKit
set_option linter.unusedVariables false
set_option linter.unusedSimpArgs false

theorem Own.low {B B' : Nat} {w : World} {v : Value} {l : List Int} (h : Own B w v l) (hb : B' ≤ B) : Own B' w v l := by
  obtain ⟨h1, h2⟩ := h
  refine ⟨h1, ?_⟩
  rcases h2 with h2 | ⟨g, cap, cur, e1, e2, r⟩
  · exact .inl h2
  · exact .inr ⟨g, cap, cur, e1, Nat.le_trans hb e2, r⟩
theorem rb_from (r : List Int) : ∀ v : Nat, r.foldl (fun v z => v * 256 + z.toNat) v = v * 256 ^ r.length + M.rb r := by
  induction r with
  | nil => intro v; simp [M.rb]
  | cons z r ih =>
    intro v
    have h1 := ih (v * 256 + z.toNat)
    have h2 := ih (0 * 256 + z.toNat)
    simp only [List.foldl_cons, List.length_cons, M.rb] at h1 h2 ⊢
    rw [h1, h2, Nat.pow_succ, Nat.add_mul, Nat.zero_mul, Nat.zero_add, Nat.mul_assoc, Nat.mul_comm 256]
    omega
theorem rb_cons (z : Int) (r : List Int) : M.rb (z :: r) = z.toNat * 256 ^ r.length + M.rb r := by
  have := rb_from r (0 * 256 + z.toNat)
  rw [Nat.zero_mul, Nat.zero_add] at this
  show (z :: r).foldl _ 0 = _
  rw [List.foldl_cons, Nat.zero_mul, Nat.zero_add]
  exact this
/-- One digit more. -/
theorem form_round {v u : Nat} {ds : List Int} (h : v = u * 256 ^ ds.length + M.rb ds) : v = u / 256 * 256 ^ (((u % 256 : Nat) : Int) :: ds).length + M.rb (((u % 256 : Nat) : Int) :: ds) := by
  rw [rb_cons, List.length_cons, Nat.pow_succ, Int.toNat_natCast]
  have := Nat.div_add_mod u 256
  rw [h]
  conv => lhs; rw [← this]
  rw [Nat.add_mul, Nat.mul_comm 256 (u / 256), Nat.mul_assoc, Nat.mul_comm (256 ^ ds.length) 256, Nat.add_assoc]
theorem form_len {v u : Nat} {ds : List Int} (hv : v < 2 ^ 64) (h : v = u * 256 ^ ds.length + M.rb ds) (hu : 0 < u) : ds.length < 8 := by
  refine Nat.lt_of_not_le fun h8 => ?_
  have h1 : 256 ^ 8 ≤ 256 ^ ds.length := Nat.pow_le_pow_right (by decide) h8
  have h2 : 256 ^ ds.length ≤ u * 256 ^ ds.length := Nat.le_mul_of_pos_left _ hu
  have h3 : (256 : Nat) ^ 8 = 2 ^ 64 := by decide
  omega
set_option maxRecDepth 100000 in
set_option maxHeartbeats 1000000 in
theorem refform_any (v : Nat) (hv : v < 2 ^ 64) (w : World) :
    Calls Try.prog 100 #[.int .u64 v] w fun e w' => ∃ v', e = .returned v' ∧ Own w.heap.size w' v' (M.form v) ∧ v' ≠ .slice none 0 0 ∧ Below w.heap.size w w' := by
  go_enter Try.func100, Try.ntmps100
  go_wp2_with fail
  go_loopw [0, 3] (fun x b wr => ∃ (u : Nat) (ds : List Int), x = .int .u64 (u : Int) ∧ Own w.heap.size wr b ds ∧ (∀ z ∈ ds, 0 ≤ z ∧ z < 256) ∧ v = u * 256 ^ ds.length + M.rb ds ∧ (u = 0 → 0 < ds.length → ds.getD 0 0 ≠ 0) ∧ ds.length ≤ 8 ∧ Below w.heap.size w wr) (fun x _ _ => (intOf x).toNat)
  case atStart => exact ⟨v, [], rfl, Own.nil _ _, by simp, by simp [M.rb], by simp, by simp, Below.refl _ _⟩
  case round =>
    obtain ⟨u, ds, rfl, hO, hd, hvv, hf, hl8, hB⟩ := hrel
    obtain ⟨g, n, c, hb, hs, _⟩ := hO.hs hd
    subst hb
    have hn := hs.len
    have HS := hide hs
    have HO := hide hO
    have HD := hide hd
    have HV := hide hvv
    have HF := hide hf
    have HB := hide hB
    have hz := hB.size
    clear hO hd hvv hf hB hs
    by_cases hu : 0 < u
    · have hlen := form_len hv HV.out hu
      have hu' : (0 : Int) < (u : Int) := by omega
      have O1 : Own w.heap.size (wr.alloc (.cells #[.int .u8 ((u : Int) % 256)] 5)) (.slice (some ⟨wr.heap.size, 0, none⟩) 1 1) [((u % 256 : Nat) : Int)] := (own_built wr #[.int .u8 ((u : Int) % 256)] 1 [((u % 256 : Nat) : Int)] rfl (by simp [bs]) (by unfold maxLen; omega)).low hz
      have HO1 := hide O1
      have HS1 := hide (HS.out.later ((Below.refl wr.heap.size wr).alloc (Nat.le_refl _) (.cells #[.int .u8 ((u : Int) % 256)] 5)))
      have HB1 := hide (HB.out.alloc hz (.cells #[.int .u8 ((u : Int) % 256)] 5))
      clear O1
      go_wp2_with (at_builtin; go_must (refine app_hs _ rfl (.tmp 9) (.tmp 10) rfl w.heap.size [((u % 256 : Nat) : Int)] _ rfl g n c rfl ds HS1.out HO1.out (by simp; omega) (by simp; omega) ?_))
      intro v2 w2 o2 k2 g2
      have b2 : Below w.heap.size w w2 := HO1.out.grown HB1.out g2 (by simp; omega)
      have hdv : (u : Int).tdiv 256 = (u : Int) / 256 := Int.tdiv_eq_ediv_of_nonneg (by omega)
      have huv : u ≤ v := by
        have h1 := HV.out
        have h2 : u ≤ u * 256 ^ ds.length := Nat.le_mul_of_pos_right _ (Nat.pow_pos (by decide))
        omega
      have hwr : IntKind.wrap .u64 ((u : Int) / 256) = (u : Int) / 256 := by
        unfold IntKind.wrap
        simp [IntKind.bits, IntKind.signed]
        omega
      have O2 := hide o2
      have B2 := hide b2
      clear o2 b2 k2 g2 HO1 HS1 HB1 HS HO HB
      go_wp2
      go_round
      case rel =>
        refine ⟨u / 256, ((u % 256 : Nat) : Int) :: ds, by go_num, O2.out, ?_, form_round HV.out, ?_, by simp; omega, B2.out⟩
        · intro z hz
          rcases List.mem_cons.1 hz with rfl | hz
          · omega
          · exact HD.out z hz
        · intro h0 _
          simp
          omega
      case measure => simp [intOf]; omega
    · obtain rfl : u = 0 := by omega
      have hds : v = M.rb ds := by have := HV.out; rw [Nat.zero_mul, Nat.zero_add] at this; exact this
      have HFm : Hid (M.form v = (ds.length : Int) :: ds) := by
        show _ = _
        rw [hds]
        exact form_rb ds HD.out (fun h => HF.out rfl h)
      have hn8 : n ≤ 8 := by omega
      have O1 : Own w.heap.size (wr.alloc (.cells #[.int .u8 (n : Int)] 5)) (.slice (some ⟨wr.heap.size, 0, none⟩) 1 1) [(n : Int)] := (own_built wr #[.int .u8 (n : Int)] 1 [(n : Int)] rfl (by simp [bs]) (by unfold maxLen; omega)).low hz
      have HO1 := hide O1
      have HS1 := hide (HS.out.later ((Below.refl wr.heap.size wr).alloc (Nat.le_refl _) (.cells #[.int .u8 (n : Int)] 5)))
      have HB1 := hide (HB.out.alloc hz (.cells #[.int .u8 (n : Int)] 5))
      have hwn : IntKind.wrap .u8 (n : Int) = (n : Int) := by
        unfold IntKind.wrap
        simp [IntKind.bits, IntKind.signed]
        omega
      clear O1
      go_wp2_with (at_builtin; go_must (refine app_hs _ rfl (.tmp 17) (.tmp 18) rfl w.heap.size [(n : Int)] _ rfl g n c rfl ds HS1.out HO1.out (by simp; omega) (by simp; omega) ?_))
      intro v2 w2 o2 k2 g2
      have b2 : Below w.heap.size w w2 := HO1.out.grown HB1.out g2 (by simp; omega)
      have hk := k2 (.inl (by intro h; cases h))
      have O2 := hide o2
      have B2 := hide b2
      clear o2 b2 k2 g2 HO1 HS1 HB1 HS HO HB
      go_wp2
      go_ret
      refine ⟨_, rfl, ?_, hk, B2.out⟩
      rw [HFm.out, hn]
      exact O2.out

end Go.Proofs.Ytomiifnhcojilaa.Wi

namespace Go.Proofs.Ytomiifnhcojilaa.Wi
open Go.RowKit
set_option linter.unusedVariables false
set_option linter.unusedSimpArgs false

/-- What a thing comes to: its bytes, or none. -/
def ptOut (K V N m : Int) (s : ByteArray) : List Int := if ptErr K N m s = 0 then ptBytes K V N s else []
theorem ptOut_bad {K V N m : Int} {s : ByteArray} {E : Int} (h : ptErr K N m s = E) (hE : E ≠ 0) : ptOut K V N m s = [] := by unfold ptOut; rw [if_neg (by rw [h]; exact hE)]
theorem ptOut_ok {K V N m : Int} {s : ByteArray} (h : ptErr K N m s = 0) : ptOut K V N m s = ptBytes K V N s := by unfold ptOut; rw [if_pos h]
theorem box_bel (w : World) (o : Obj) : Below w.heap.size w (w.alloc o) := (Below.refl _ _).alloc (Nat.le_refl _) o
theorem bel_bytes (W : World) (s : ByteArray) : Below W.heap.size W (Lib.bytesWorld W 5 s) :=
  ⟨rfl, rfl, rfl, by rw [Lib.bytesWorld_size]; omega, fun k hk => Lib.bytesWorld_at_old W _ s k hk⟩
theorem row_bytes (W : World) (s : ByteArray) : Row (Lib.bytesWorld W 5 s) ⟨W.heap.size, 0, none⟩ (sb s) := fun j hj => by
  rw [sb_length] at hj
  rw [Addr.add_lit, Nat.zero_add, Lib.bytesWorld_cell W _ s j hj]
  have h2 : j < s.data.toList.length := by simpa using hj
  simp [sb, List.getD]
  cases s.data[j]? <;> rfl
set_option maxRecDepth 100000 in
theorem step_form {ops : Array Oper} {o : Oper} {a : Act} {w : World} {K : Act → World → Prop} {Q : Exit → Act → World → Prop} {E : Prop} (hg : o.guard = none) (x : Operand)
    (ho : o.op = .call { callee := .value (.func 100), args := #[x], argTypes := #[122] }) (v : Nat) (hv : v < 2 ^ 64) (hx : a.eval x = .int .u64 (v : Int))
    (hK : ∀ v' w', Own w.heap.size w' v' (M.form v) → v' ≠ .slice none 0 0 → Below w.heap.size w w' → K (a.put o.dst v') w') :
    if Region.wanted o (yielded ops a.tmps) = true then Oper.wp Try.prog o a w K Q else E := by
  have hw : Region.wanted o (yielded ops a.tmps) = true := by simp [Region.wanted, hg]
  rw [if_pos hw]
  have hr : (execOp a.eval o).run Try.prog w = .ok (.enter 100 #[.int .u64 (v : Int)]) w := by
    unfold execOp
    simp only [ho, resolve, invoke, Sem.run_bind, List.map_toArray, List.map_cons, List.map_nil, hx]
    rfl
  unfold Oper.wp
  rw [hr, Oper.upon_enter]
  refine (refform_any v hv w).mono ?_
  rintro e w' ⟨v', rfl, h1, h2, h3⟩
  exact hK v' w' h1 h2 h3
end Go.Proofs.Ytomiifnhcojilaa.Wi

namespace Go.Proofs.Ytomiifnhcojilaa.Wi
open Go.RowKit
set_option linter.unusedVariables false
set_option linter.unusedSimpArgs false

theorem firstErr_append (A B : List Pt) : firstErr (A ++ B) = if firstErr A = 0 then firstErr B else firstErr A := by
  induction A with
  | nil => simp [firstErr]
  | cons p r ih =>
    by_cases h : p.err = 0
    · simp only [List.cons_append, firstErr, h, if_true]; exact ih
    · simp only [List.cons_append, firstErr, if_neg h]
theorem firstErr_at {P : List Pt} {k : Nat} (hk : k < P.length) (h0 : firstErr (P.take k) = 0) (he : P[k].err ≠ 0) : firstErr P = P[k].err := by
  have h : P = P.take k ++ (P[k] :: P.drop (k + 1)) := by rw [← List.drop_eq_getElem_cons hk, List.take_append_drop]
  have h2 : firstErr P = firstErr (P.take k ++ (P[k] :: P.drop (k + 1))) := congrArg firstErr h
  rw [h2, firstErr_append, if_pos h0, firstErr, if_neg he]
theorem Puts.take {w : World} {a : Option Addr} {P : List Pt} (h : Puts w a P) (k : Nat) : Puts w a (P.take k) := fun i hi => by
  have hi' : i < P.length := by rw [List.length_take] at hi; omega
  have e : (P.take k)[i] = P[i] := List.getElem_take
  rw [e]
  exact h i hi'
theorem Puts.later' {w w' : World} {a : Option Addr} {P : List Pt} (h : Puts w a P) (hb : Below w.heap.size w w') : Puts w' a P := by
  intro i hi
  obtain ⟨hf, b, o, ha, e0, e1, e2, e3, e4⟩ := h i hi
  exact ⟨hf, b, o, ha, cell_later hb e0, cell_later hb e1, cell_later hb e2, cell_later hb e3, cell_later hb e4⟩
def wOut (P : List Pt) : List Int := if firstErr P = 0 then allBytes P else []
end Go.Proofs.Ytomiifnhcojilaa.Wi
