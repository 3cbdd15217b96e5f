import Derived.Test.YtifhdelkmhlcoaaDn
namespace Go.Proofs.Ytifhdelkmhlcoaa
open Go.RowKit
set_option linter.unusedVariables false

theorem take_arg (s : Nat) (n : Int) (w : World) (hn : n < 0 ∨ 65535 < n) :
    Calls Try.prog 23 #[.iface 41 (.pointer (some ⟨s, 0, none⟩)), .int .i64 n] w fun e w' => e = .returned (.tuple #[.slice none 0 0, .int .i64 3]) ∧ w' = w := by
  rcases hn with hn | hn
  · have h1 : decide (n < 0) = true := by simp; omega
    go_enter Try.func23, Try.ntmps23
    go_wp2
    go_ret2
    exact ⟨rfl, rfl⟩
  · have h1 : decide (n < 0) = false := by simp; omega
    have h2 : decide (65535 < n) = true := by simp; omega
    go_enter Try.func23, Try.ntmps23
    go_wp2
    go_ret2
    exact ⟨rfl, rfl⟩

/-- The error of a Take of n out of m. -/
def tkE (n m : Nat) : Int := if n ≤ m then 0 else 20
theorem Upd.of_below' {B : Nat} {w w' : World} (h : Below B w w') : Upd (fun k => B ≤ k) w w' := ⟨h.os, h.tape, h.output, h.size, fun k _ hs => h.block k (by omega)⟩
theorem Upd.then_below {S : Nat → Prop} {a b c : World} (h : Upd S a b) (k : Below a.heap.size b c) : Upd S a c :=
  ⟨k.os.trans h.os, k.tape.trans h.tape, k.output.trans h.output, Nat.le_trans h.size k.size, fun i hi hs => (k.block i hi).trans (h.block i hi hs)⟩

set_option maxRecDepth 100000 in
set_option maxHeartbeats 800000 in
theorem take_any (s n : Nat) (D : List (Int × Int)) (a : Option Addr) (c : Nat) (w : World) (h : Str w s D a c) (hn : n ≤ 65535) :
    Calls Try.prog 23 #[.iface 41 (.pointer (some ⟨s, 0, none⟩)), .int .i64 n] w fun e w' => ∃ v, e = .returned (.tuple #[v, .int .i64 (tkE n D.length)]) ∧ OwnD w.heap.size w' v (D.take n) ∧ StrIn w' s (D.drop n) a ∧ Upd (· = s) w w' := by
  have h1 : decide ((n : Int) < 0) = false := by simp
  have h2 : decide (65535 < (n : Int)) = false := by simp; omega
  go_enter Try.func23, Try.ntmps23
  have HI := hide (show StrIn w s D a from ⟨a, c, h, fun b hb => hb⟩)
  have hlt := h.lt
  have hat := fun z hz => h.blk z hz
  clear h
  go_wp2
  go_loopw [6, 20] (fun vd i wr => ∃ k : Nat, i = .int .i64 (k : Int) ∧ k ≤ n ∧ k ≤ D.length ∧ OwnD w.heap.size wr vd (D.take k) ∧ StrIn wr s (D.drop k) a ∧ Upd (· = s) w wr) (fun _ i _ => n - (intOf i).toNat)
  case atStart => exact ⟨0, rfl, Nat.zero_le _, Nat.zero_le _, OwnD.nil _ _, HI.out, Upd.refl _ _⟩
  case round =>
    obtain ⟨k, rfl, hk, hkD, o, ⟨a', c', T, hb⟩, u⟩ := hrel
    clear HI
    have hbl : ∀ z, a' = some z → z.block < w.heap.size := by
      intro z hz
      obtain ⟨z', hz', e⟩ := hb z.block ⟨z, hz, rfl⟩
      have hq := hat z' hz'
      omega
    have HB := hide hb
    have su := u.size
    clear hb hat
    by_cases hlt2 : k < n
    · cases hD : D.drop k with
      | nil =>
        have hle : D.length ≤ k := by simpa using List.drop_eq_nil_iff.1 hD
        rw [hD] at T
        go_wp2_with fail
        refine (one_end s a' c' _ T).mono ?_
        rintro e w2 ⟨rfl, b2⟩
        have o2 := o.upd (S := fun _ => False) (Upd.of_below b2) (fun _ _ => id)
        have T2 := T.upd (S := fun _ => False) (Upd.of_below b2) id (fun _ _ => id)
        have u2 := u.trans (Upd.of_below b2)
        go_wp2
        go_ret2
        refine ⟨u6, ?_, ?_, ?_, u2.alloc _⟩
        · rw [show tkE n D.length = 20 from if_neg (by omega)]; rfl
        · rw [List.take_of_length_le (by omega)]
          rw [List.take_of_length_le (by omega)] at o2
          exact o2.alloc _
        · rw [List.drop_eq_nil_of_le (by omega)]
          exact ⟨a', c', T2.upd (S := fun _ => False) ((Upd.refl _ _).alloc _) id (fun _ _ => id), HB.out⟩
      | cons d D' =>
        obtain ⟨x, y⟩ := d
        rw [hD] at T
        go_wp2_with fail
        refine (one_next s x y D' a' c' _ T).mono ?_
        rintro e w2 ⟨rfl, S2, u2⟩
        obtain ⟨_, d0, d1⟩ := Dr.new w2 x y 24
        obtain ⟨a2, c2, T2, hb2⟩ := S2
        have hk1 : D[k]? = some (x, y) := by
          have := congrArg (fun l => l[0]?) hD
          simpa using this
        have hkl : k < D.length := by
          rcases Nat.lt_or_ge k D.length with h | h
          · exact h
          · rw [List.getElem?_eq_none h] at hk1; cases hk1
        have HT : Hid (D.take (k + 1) = D.take k ++ [(x, y)]) := by show _ = _; rw [List.take_add_one, hk1]; rfl
        have HD : Hid (D.drop (k + 1) = D') := by show _ = _; rw [← List.drop_drop, hD]; rfl
        have HBL := hide hbl
        have o2 := o.upd u2 (fun q hq => by show ¬ q = s; omega)
        have u3 := u.trans u2
        have s2 := u3.size
        clear hD hk1 hbl T o u2
        go_wp2_with (at_builtin; go_must (refine app_draw _ rfl (.tmp 31) (.tmp 33) rfl w.heap.size (D.take k) _ rfl ⟨w2.heap.size + 1, 0, none⟩ rfl x y ?zc ?zd ?zo ?zB ?zb ?zk))
        case zc => simp
        case zd => simp [Addr.add]
        case zo => exact (o2.alloc _).alloc _
        case zB => simp; omega
        case zb => rw [List.length_take]; omega
        intro v4 w4 o4 n4 g4
        have B4 : Below w.heap.size w2 w4 := OwnD.grown ((o2.alloc _).alloc _) (((Below.refl _ w2).alloc s2 _).alloc (by simp; omega) _) g4 (by simp; omega)
        have u4 := u3.then_below B4
        have T4 : Str w4 s D' a2 c2 := T2.upd (Upd.of_below' B4) (by show ¬ w.heap.size ≤ s; omega) (fun z hz => by
          obtain ⟨z', hz', e⟩ := hb2 z.block ⟨z, hz, rfl⟩
          have := HBL.out z' hz'
          show ¬ w.heap.size ≤ z.block
          omega)
        have S4 : Hid (StrIn w4 s D' a) := ⟨a2, c2, T4, fun b h => by obtain ⟨z, hz, e⟩ := hb2 b h; exact HB.out b ⟨z, hz, e⟩⟩
        clear T2 T4 hb2 g4 o2 u3 d0 d1 B4
        go_wp2
        go_round
        case rel => exact ⟨k + 1, by go_num, by omega, by omega, by rw [HT.out]; exact o4, by rw [HD.out]; exact S4.out, u4⟩
        case measure => simp [intOf]; omega
    · obtain rfl : k = n := by omega
      go_wp2
      go_ret2
      exact ⟨u6, by rw [show tkE k D.length = 0 from if_pos hkD]; rfl, o, ⟨a', c', T, HB.out⟩, u⟩

end Go.Proofs.Ytifhdelkmhlcoaa
