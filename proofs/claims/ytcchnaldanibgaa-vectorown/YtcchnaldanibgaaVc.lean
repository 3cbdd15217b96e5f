import Derived.Test.YtcchnaldanibgaaVb
namespace Go.Proofs.Ytcchnaldanibgaa
open Go.RowKit
set_option linter.unusedVariables false

theorem Lie.later {w w' : World} {q o : Nat} {D : List (Int × Int)} (h : Lie w q o D) (hq : q < w.heap.size) {B : Nat} (hb : Below B w w') (hB : q < B) : Lie w' q o D := fun i d hd =>
  ⟨(hb.cell (p := ⟨q, o + i * 2, none⟩) hB).trans (h i d hd).1, (hb.cell (p := ⟨q, o + i * 2 + 1, none⟩) hB).trans (h i d hd).2⟩
theorem Sl.place {w : World} {v : Value} {D : List (Int × Int)} {a : Option Addr} {c : Nat} (h : Sl w v D a c) (hD : D ≠ []) : ∃ q o, a = some ⟨q, o, none⟩ ∧ q < w.heap.size ∧ Lie w q o D := by
  cases a with
  | none => exact absurd (h.nil rfl).1 hD
  | some x =>
    rcases h.at_ x rfl with ⟨e, _⟩ | ⟨q, o, rfl, hq, hl⟩
    · exact absurd e hD
    · exact ⟨q, o, rfl, hq, hl⟩

set_option maxRecDepth 100000 in
set_option maxHeartbeats 1000000 in
theorem veccmp_any (A B : List (Int × Int)) (a1 a2 : Option Addr) (c1 c2 : Nat) (w : World) (h1 : Sl w (.slice a1 A.length c1) A a1 c1) (h2 : Sl w (.slice a2 B.length c2) B a2 c2) :
    Calls Try.prog 22 #[.slice a1 A.length c1, .slice a2 B.length c2] w fun e w' => e = .returned (.int .i64 (rel A B)) ∧ Below w.heap.size w w' := by
  have m1 := h1.max
  have k1 := h1.cap
  have k2 := h2.cap
  unfold maxLen at m1
  have m2 := h2.max
  unfold maxLen at m2
  by_cases hl : A.length = B.length
  · by_cases hA : A = []
    · subst hA
      obtain rfl : B = [] := List.eq_nil_of_length_eq_zero (by simpa using hl.symm)
      have hr : rel [] [] = 1 := by decide
      rw [hr]
      clear hr h1 h2
      go_enter Try.func22, Try.ntmps22
      go_wp2
      go_loopw [17, 5, 6] (fun i b a wr => i = .int .i64 0 ∧ b = .bool false ∧ a = .bool false ∧ wr = w) (fun _ _ _ _ => 0)
      case atStart => exact ⟨rfl, rfl, rfl, rfl⟩
      case round =>
        obtain ⟨rfl, rfl, rfl, rfl⟩ := hrel
        go_wp2
        go_ret
        exact ⟨rfl, Below.refl _ _⟩
    · have hB : B ≠ [] := by
        rintro rfl
        exact hA (List.eq_nil_of_length_eq_zero (by simpa using hl))
      obtain ⟨q1, o1, rfl, b1, l1⟩ := h1.place hA
      obtain ⟨q2, o2, rfl, b2, l2⟩ := h2.place hB
      have hr : rel A B = relOf (bel A B A.length) (abv A B A.length) := by unfold rel; rw [if_pos hl]
      rw [hr]
      have L1 := hide l1
      have L2 := hide l2
      have HB := hide hl
      rw [← hl] at k2 ⊢
      clear h1 h2 l1 l2 hr hl hA hB
      generalize hn : A.length = n at *
      have HN := hide hn
      clear hn
      go_enter Try.func22, Try.ntmps22
      go_wp2
      go_loopw [17, 5, 6] (fun i b a wr => ∃ (k : Nat), i = .int .i64 (k : Int) ∧ b = .bool (bel A B k) ∧ a = .bool (abv A B k) ∧ k ≤ n ∧ Below w.heap.size w wr) (fun i _ _ _ => n - (intOf i).toNat)
      case atStart => exact ⟨0, rfl, rfl, rfl, Nat.zero_le _, Below.refl _ _⟩
      case round =>
        obtain ⟨k, rfl, rfl, rfl, hk, hb⟩ := hrel
        by_cases hlt : k < n
        · have hd1 := some_at2 (A := A) (k := k) (by have := HN.out; omega)
          have hd2 := some_at2 (A := B) (k := k) (by have := HN.out; have := HB.out; omega)
          have ebs : bel A B (k + 1) = (bel A B k || decide (cm (at2 A k) (at2 B k) < 0)) := rfl
          have eas : abv A B (k + 1) = (abv A B k || decide (0 < cm (at2 A k) (at2 B k))) := rfl
          have BS := hide ebs
          have AS := hide eas
          clear ebs eas
          unfold cm at BS AS
          generalize at2 A k = d1 at *
          generalize at2 B k = d2 at *
          obtain ⟨x, y⟩ := d1
          obtain ⟨x', y'⟩ := d2
          obtain ⟨e0, e1⟩ := L1.out.later b1 hb b1 k _ hd1
          obtain ⟨e2, e3⟩ := L2.out.later b2 hb b2 k _ hd2
          simp only at e0 e1 e2 e3 BS AS
          clear L1 L2 hd1 hd2
          have hsz := hb.size
          have KS : ∀ v, Below (wr.heap.size + 1) (wr.alloc (.cells #[.int .u64 x, .int .u64 y] 26)) v → (Below (wr.heap.size + 1) (wr.alloc (.cells #[.int .u64 x, .int .u64 y] 26)) v ∧ v.cell? ⟨wr.heap.size, 0, none⟩ = some (.int .u64 x) ∧ v.cell? ⟨wr.heap.size, 1, none⟩ = some (.int .u64 y) ∧ v.cell? ⟨q2, o2 + k * 2, none⟩ = some (.int .u64 x') ∧ v.cell? ⟨q2, o2 + k * 2 + 1, none⟩ = some (.int .u64 y')) := fun v b =>
            ⟨b, (b.cell (p := ⟨wr.heap.size, 0, none⟩) (Nat.lt_succ_self _)).trans (by simp), (b.cell (p := ⟨wr.heap.size, 1, none⟩) (Nat.lt_succ_self _)).trans (by simp), (b.cell (p := ⟨q2, o2 + k * 2, none⟩) (by show q2 < wr.heap.size + 1; omega)).trans ((World.cell?_alloc_past _ _ _ (by show q2 < wr.heap.size; omega)).trans e2), (b.cell (p := ⟨q2, o2 + k * 2 + 1, none⟩) (by show q2 < wr.heap.size + 1; omega)).trans ((World.cell?_alloc_past _ _ _ (by show q2 < wr.heap.size; omega)).trans e3)⟩
          have KH := hide KS
          clear KS
          go_wp2_with fail
          go_region_held3 (fun v => Below (wr.heap.size + 1) (wr.alloc (.cells #[.int .u64 x, .int .u64 y] 26)) v ∧ v.cell? ⟨wr.heap.size, 0, none⟩ = some (.int .u64 x) ∧ v.cell? ⟨wr.heap.size, 1, none⟩ = some (.int .u64 y) ∧ v.cell? ⟨q2, o2 + k * 2, none⟩ = some (.int .u64 x') ∧ v.cell? ⟨q2, o2 + k * 2 + 1, none⟩ = some (.int .u64 y'))
            (first | exact KH.out _ (Below.refl _ _).drew | exact KH.out _ (by assumption))
            (first
              | (go_at_call 48; refine (compare_any _ _ _ _ _).mono ?_; rintro e v ⟨rfl, bv⟩; have bb := Below.on (w := wr.alloc (.cells #[.int .u64 x, .int .u64 y] 26)) (B := wr.heap.size + 1) (by simp) (by first | assumption | exact (Below.refl _ _).drew) bv))
          have hw : Below w.heap.size w v := (hb.alloc hsz _).trans (bb.mono (by omega))
          generalize cmpD x y x' y' = cc at *
          clear KH bv bb
          cases hbb : bel A B k <;> cases haa : abv A B k <;> rcases Int.lt_trichotomy cc 0 with hc | hc | hc <;>
          (have f1 : ¬ (cc < 0 ∧ 0 < cc) := by omega
           go_wp2
           go_round
           case rel => exact ⟨k + 1, by go_num, by rw [BS.out, hbb]; simp <;> omega, by rw [AS.out, haa]; simp <;> omega, by omega, hw⟩
           case measure => simp [intOf]; omega)
        · obtain rfl : k = n := by omega
          cases hbb : bel A B k <;> cases haa : abv A B k <;> (go_wp2; go_ret; exact ⟨by simp only [hbb, haa]; rfl, hb⟩)
  · have hr : rel A B = 0 := by unfold rel; rw [if_neg hl]
    rw [hr]
    have f1 : ((A.length : Int) == (B.length : Int)) = false := by simp; omega
    clear hr h1 h2
    go_enter Try.func22, Try.ntmps22
    go_wp2
    go_ret
    exact ⟨rfl, Below.refl _ _⟩

end Go.Proofs.Ytcchnaldanibgaa
