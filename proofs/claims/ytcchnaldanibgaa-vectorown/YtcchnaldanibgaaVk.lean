import Derived.Test.YtcchnaldanibgaaVi
namespace Go.Proofs.Ytcchnaldanibgaa
open Go.RowKit
set_option linter.unusedVariables false
set_option linter.unusedSimpArgs false

/-- A slice of draws by its parts. -/
def SlN (w : World) (a : Option Addr) (n c : Nat) (D : List (Int × Int)) : Prop := D.length = n ∧ Sl w (.slice a D.length c) D a c
theorem SlN.bel {w w' : World} {a : Option Addr} {n c : Nat} {D : List (Int × Int)} (h : SlN w a n c D) (b : Below w.heap.size w w') : SlN w' a n c D :=
  ⟨h.1, h.2.upd (S := fun _ => False) (Upd.of_below b) (fun _ _ _ => id)⟩
theorem SlN.on {w0 w w' : World} {a : Option Addr} {n c : Nat} {D : List (Int × Int)} (h : SlN w a n c D) {B : Nat} (b : Below B w w') (hB : w.heap.size ≤ B) : SlN w' a n c D := h.bel (b.mono hB)
theorem SlN.vec {w : World} {a : Option Addr} {n c : Nat} {D : List (Int × Int)} (h : SlN w a n c D) : Vec.ok w ⟨a, c, D⟩ := h.2
theorem SlN.nil (w : World) : SlN w none 0 0 [] := ⟨rfl, ⟨rfl, Nat.le_refl _, by unfold maxLen; omega, fun _ => ⟨rfl, rfl⟩, fun x hx => by cases hx⟩⟩
theorem OwnD.sln {B : Nat} {w : World} {g n c : Nat} {D : List (Int × Int)} (h : OwnD B w (.slice (some ⟨g, 0, none⟩) n c) D) : SlN w (some ⟨g, 0, none⟩) n c D := ⟨h.len, h.vec⟩
theorem cmpN {w : World} {a1 a2 : Option Addr} {n1 n2 c1 c2 : Nat} {A B : List (Int × Int)} (h1 : SlN w a1 n1 c1 A) (h2 : SlN w a2 n2 c2 B) :
    Calls Try.prog 22 #[.slice a1 n1 c1, .slice a2 n2 c2] w fun e w' => e = .returned (.int .i64 (rel A B)) ∧ Below w.heap.size w w' := by
  obtain ⟨rfl, h1⟩ := h1
  obtain ⟨rfl, h2⟩ := h2
  exact veccmp_any A B a1 a2 c1 c2 w h1 h2
theorem sameN {w : World} {a1 a2 : Option Addr} {n1 n2 c1 c2 : Nat} {A B : List (Int × Int)} (h1 : SlN w a1 n1 c1 A) (h2 : SlN w a2 n2 c2 B) :
    Calls Try.prog 16 #[.slice a1 n1 c1, .slice a2 n2 c2] w fun e w' => e = .returned (.bool (decide (A = B))) ∧ ∃ k, w' = w.drewN k := by
  obtain ⟨rfl, h1⟩ := h1
  obtain ⟨rfl, h2⟩ := h2
  exact samevec_any A B a1 a2 c1 c2 w h1 h2
theorem lie2 {w : World} {a1 a2 : Option Addr} {n1 n2 c1 c2 : Nat} {A B : List (Int × Int)} (h1 : SlN w a1 n1 c1 A) (h2 : SlN w a2 n2 c2 B) (t : TypeId) :
    LieV (w.alloc (.cells #[.slice a1 n1 c1, .slice a2 n2 c2] t)) w.heap.size 0 [⟨a1, c1, A⟩, ⟨a2, c2, B⟩] := fun i m hm => by
  have b : ∀ o, Below w.heap.size w (w.alloc o) := fun o => (Below.refl _ _).alloc (Nat.le_refl _) o
  match i, hm with
  | 0, hm => simp at hm; subst hm; exact ⟨by simp [h1.1], h1.vec.bel (b _) (Nat.le_refl _)⟩
  | 1, hm => simp at hm; subst hm; exact ⟨by simp [h2.1], h2.vec.bel (b _) (Nat.le_refl _)⟩
  | i + 2, hm => simp at hm
theorem lie3 {w : World} {a1 a2 a3 : Option Addr} {n1 n2 n3 c1 c2 c3 : Nat} {A B C : List (Int × Int)} (h1 : SlN w a1 n1 c1 A) (h2 : SlN w a2 n2 c2 B) (h3 : SlN w a3 n3 c3 C) (t : TypeId) :
    LieV (w.alloc (.cells #[.slice a1 n1 c1, .slice a2 n2 c2, .slice a3 n3 c3] t)) w.heap.size 0 [⟨a1, c1, A⟩, ⟨a2, c2, B⟩, ⟨a3, c3, C⟩] := fun i m hm => by
  have b : ∀ o, Below w.heap.size w (w.alloc o) := fun o => (Below.refl _ _).alloc (Nat.le_refl _) o
  match i, hm with
  | 0, hm => simp at hm; subst hm; exact ⟨by simp [h1.1], h1.vec.bel (b _) (Nat.le_refl _)⟩
  | 1, hm => simp at hm; subst hm; exact ⟨by simp [h2.1], h2.vec.bel (b _) (Nat.le_refl _)⟩
  | 2, hm => simp at hm; subst hm; exact ⟨by simp [h3.1], h3.vec.bel (b _) (Nat.le_refl _)⟩
  | i + 3, hm => simp at hm
theorem lie4 {w : World} {a1 a2 a3 a4 : Option Addr} {n1 n2 n3 n4 c1 c2 c3 c4 : Nat} {A B C D : List (Int × Int)} (h1 : SlN w a1 n1 c1 A) (h2 : SlN w a2 n2 c2 B) (h3 : SlN w a3 n3 c3 C) (h4 : SlN w a4 n4 c4 D) (t : TypeId) :
    LieV (w.alloc (.cells #[.slice a1 n1 c1, .slice a2 n2 c2, .slice a3 n3 c3, .slice a4 n4 c4] t)) w.heap.size 0 [⟨a1, c1, A⟩, ⟨a2, c2, B⟩, ⟨a3, c3, C⟩, ⟨a4, c4, D⟩] := fun i m hm => by
  have b : ∀ o, Below w.heap.size w (w.alloc o) := fun o => (Below.refl _ _).alloc (Nat.le_refl _) o
  match i, hm with
  | 0, hm => simp at hm; subst hm; exact ⟨by simp [h1.1], h1.vec.bel (b _) (Nat.le_refl _)⟩
  | 1, hm => simp at hm; subst hm; exact ⟨by simp [h2.1], h2.vec.bel (b _) (Nat.le_refl _)⟩
  | 2, hm => simp at hm; subst hm; exact ⟨by simp [h3.1], h3.vec.bel (b _) (Nat.le_refl _)⟩
  | 3, hm => simp at hm; subst hm; exact ⟨by simp [h4.1], h4.vec.bel (b _) (Nat.le_refl _)⟩
  | i + 4, hm => simp at hm
/-- Merge of what a slice just built holds. -/
theorem mgN_ok {w : World} {o : Obj} {x : Vec} {L : List Vec} {m n : Nat} (h : LieV (w.alloc o) w.heap.size 0 (x :: L)) (hm : L.length + 1 = m) (hl : m ≤ 100) (hn : x.D.length = n) (h1 : 1 ≤ n ∧ n ≤ 7) (hall : ∀ y, y ∈ L → y.D.length = n) :
    Calls Try.prog 20 #[.slice (some ⟨w.heap.size, 0, none⟩) m m] (w.alloc o) fun e w' => ∃ g, e = .returned (.tuple #[.slice (some ⟨g, 0, none⟩) n n, .int .i64 0]) ∧ OwnD w.heap.size w' (.slice (some ⟨g, 0, none⟩) n n) (mer x.D (L.map (·.D))) ∧ Below w.heap.size w w' := by
  subst hm hn
  refine (merge_ok x L w.heap.size 0 _ (w.alloc o) h (by simp) (Nat.le_refl _) (by unfold maxLen; omega) h1 hall).mono ?_
  rintro e w' ⟨g, rfl, o2, b⟩
  exact ⟨g, rfl, o2.low (by simp), ((Below.refl _ _).alloc (Nat.le_refl _) _).trans (b.mono (by simp))⟩
theorem mgN_bad {w : World} {o : Obj} {x : Vec} {L : List Vec} {m n : Nat} (h : LieV (w.alloc o) w.heap.size 0 (x :: L)) (hm : L.length + 1 = m) (hl : m ≤ 100) (hn : x.D.length = n) (h1 : ¬ ((1 ≤ n ∧ n ≤ 7) ∧ ∀ y, y ∈ L → y.D.length = n)) :
    Calls Try.prog 20 #[.slice (some ⟨w.heap.size, 0, none⟩) m m] (w.alloc o) fun e w' => e = .returned (.tuple #[.slice none 0 0, .int .i64 30]) ∧ Below w.heap.size w w' := by
  subst hm hn
  by_cases hx : 1 ≤ x.D.length ∧ x.D.length ≤ 7
  · refine (merge_bad x L w.heap.size 0 _ (w.alloc o) h (by simp) (Nat.le_refl _) (by unfold maxLen; omega) hx (fun hh => h1 ⟨hx, hh⟩)).mono ?_
    rintro e w' ⟨rfl, b⟩
    exact ⟨rfl, ((Below.refl _ _).alloc (Nat.le_refl _) _).trans (b.mono (by simp))⟩
  · refine (merge_bad0 x L w.heap.size 0 _ (w.alloc o) h hx).mono ?_
    rintro e w' ⟨rfl, rfl⟩
    exact ⟨rfl, (Below.refl _ _).alloc (Nat.le_refl _) _⟩

theorem jn_comm {A B : List (Int × Int)} (h : A.length = B.length) : jn A B = jn B A := by
  refine ext_at2 (by rw [jn_length, jn_length, h]) fun k hk => ?_
  rw [jn_length] at hk
  rw [jn_at A B k hk, jn_at B A k (by omega), mx_comm]
theorem jn_assoc {A B C : List (Int × Int)} (h : A.length = B.length) : jn (jn A B) C = jn A (jn B C) := by
  refine ext_at2 (by rw [jn_length, jn_length, jn_length]) fun k hk => ?_
  rw [jn_length, jn_length] at hk
  rw [jn_at _ _ k (by rw [jn_length]; exact hk), jn_at A B k hk, jn_at A _ k hk, jn_at B C k (by omega), mx_assoc]
theorem jn_idem (A : List (Int × Int)) : jn A A = A := by
  refine ext_at2 (by rw [jn_length]) fun k hk => ?_
  rw [jn_length] at hk
  rw [jn_at A A k hk, mx_self]
theorem jn_up {A B : List (Int × Int)} (h : A.length = B.length) : jn (jn A B) B = jn A B := by
  rw [jn_assoc h, jn_idem]
theorem jn_up' {A B : List (Int × Int)} (h : A.length = B.length) : jn (jn A B) A = jn A B := by
  rw [jn_comm h]
  exact jn_up h.symm
theorem twice_eq {A B : List (Int × Int)} (h : A.length = B.length) : mer (jn A B) [B, A, jn A B] = jn A B := by
  simp only [mer]
  rw [jn_up h, jn_up' h, jn_idem]
theorem low_jn (A B : List (Int × Int)) : lowr A (jn A B) := fun k hk => by
  rw [jn_at A B k hk]
  exact mx_le _ _
theorem low_least {A B C : List (Int × Int)} (h : A.length = B.length) : lowr (jn A B) C ↔ lowr A C ∧ lowr B C := by
  constructor
  · intro hc
    refine ⟨fun k hk => ?_, fun k hk => ?_⟩
    · have := hc k (by rw [jn_length]; exact hk)
      rw [jn_at A B k hk] at this
      exact ((mx_least _ _ _).2 this).1
    · have := hc k (by rw [jn_length]; omega)
      rw [jn_at A B k (by omega)] at this
      exact ((mx_least _ _ _).2 this).2
  · rintro ⟨h1, h2⟩ k hk
    rw [jn_length] at hk
    rw [jn_at A B k hk]
    exact (mx_least _ _ _).1 ⟨h1 k hk, h2 k (by omega)⟩
theorem rel_low {A B : List (Int × Int)} (h : A.length = B.length) (hl : lowr A B) : rel A B = 1 ∨ rel A B = 2 := by
  rcases rel_cases A B with ⟨k, _⟩ | ⟨_, _, k⟩ | ⟨_, _, _, k⟩ | ⟨_, k, _⟩ | ⟨_, k, _⟩
  · exact absurd h k
  · exact .inl k
  · exact .inr k
  · exact absurd hl k
  · exact absurd hl k
/-- Is C above? -/
theorem rel_up {C A : List (Int × Int)} (h : C.length = A.length) : (lowr A C ∧ (rel C A = 1 ∨ rel C A = 3)) ∨ (¬ lowr A C ∧ rel C A ≠ 1 ∧ rel C A ≠ 3) := by
  rcases rel_cases C A with ⟨k, _⟩ | ⟨_, k1, k⟩ | ⟨_, _, k1, k⟩ | ⟨_, _, k1, k⟩ | ⟨_, _, k1, k⟩
  · exact absurd h k
  · exact .inl ⟨by rw [k1]; exact lowr_refl _, .inl k⟩
  · exact .inr ⟨k1, by rw [k]; decide, by rw [k]; decide⟩
  · exact .inl ⟨k1, .inr k⟩
  · exact .inr ⟨k1, by rw [k]; decide, by rw [k]; decide⟩
theorem up_cases {A B C : List (Int × Int)} (h : A.length = B.length) (h2 : C.length = A.length) :
    ((rel C A = 1 ∨ rel C A = 3) ∧ (rel C B = 1 ∨ rel C B = 3) ∧ (rel C (jn A B) = 1 ∨ rel C (jn A B) = 3))
    ∨ ((rel C A ≠ 1 ∧ rel C A ≠ 3) ∧ (rel C (jn A B) ≠ 1 ∧ rel C (jn A B) ≠ 3))
    ∨ ((rel C A = 1 ∨ rel C A = 3) ∧ (rel C B ≠ 1 ∧ rel C B ≠ 3) ∧ (rel C (jn A B) ≠ 1 ∧ rel C (jn A B) ≠ 3)) := by
  have hlow := low_least (A := A) (B := B) (C := C) h
  rcases rel_up h2 with ⟨l1, k1⟩ | ⟨l1, k1, k1'⟩ <;> rcases rel_up (A := B) (h2.trans h) with ⟨l2, k2⟩ | ⟨l2, k2, k2'⟩ <;> rcases rel_up (C := C) (A := jn A B) (by rw [jn_length]; exact h2) with ⟨l3, k3⟩ | ⟨l3, k3, k3'⟩
  · exact .inl ⟨k1, k2, k3⟩
  · exact absurd (hlow.2 ⟨l1, l2⟩) l3
  · exact absurd (hlow.1 l3).2 l2
  · exact .inr (.inr ⟨k1, ⟨k2, k2'⟩, k3, k3'⟩)
  · exact absurd (hlow.1 l3).1 l1
  · exact .inr (.inl ⟨⟨k1, k1'⟩, k3, k3'⟩)
  · exact absurd (hlow.1 l3).1 l1
  · exact .inr (.inl ⟨⟨k1, k1'⟩, k3, k3'⟩)

end Go.Proofs.Ytcchnaldanibgaa
