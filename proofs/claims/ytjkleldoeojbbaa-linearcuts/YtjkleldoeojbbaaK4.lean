import Derived.Test.YtjkleldoeojbbaaK2
namespace Go.Proofs.Ytjkleldoeojbbaa
open Go.RowKit Go.Maps
set_option linter.unusedVariables false
set_option linter.unusedSimpArgs false

/-- A call in a box. -/
structure KB (w : World) (q : Nat) (x : Kl) : Prop where
  lt : q < w.heap.size
  c0 : w.cell? ⟨q, 0, none⟩ = some (.int .i64 x.c)
  c1 : w.cell? ⟨q, 1, none⟩ = some (.int .i64 x.n)
  c2 : w.cell? ⟨q, 2, none⟩ = some (.int .i64 x.o.k)
  c3 : w.cell? ⟨q, 3, none⟩ = some (.int .i64 x.o.s)
  c4 : w.cell? ⟨q, 4, none⟩ = some (.string x.o.v)
  c5 : w.cell? ⟨q, 5, none⟩ = some (.int .i64 x.b)
  c6 : w.cell? ⟨q, 6, none⟩ = some (.int .i64 x.e)
  c7 : w.cell? ⟨q, 7, none⟩ = some (.int .i64 x.r.1)
  c8 : w.cell? ⟨q, 8, none⟩ = some (.int .i64 x.r.2.1)
  c9 : w.cell? ⟨q, 9, none⟩ = some (.string x.r.2.2)
theorem KB.new (w : World) (x : Kl) (T : TypeId) : KB (w.alloc (.cells x.cs.toArray T)) w.heap.size x := by
  unfold Kl.cs
  constructor <;> go_simp
theorem KB.upd {S : Nat → Prop} {w w' : World} {q : Nat} {x : Kl} (h : KB w q x) (u : Upd S w w') (hs : ¬ S q) : KB w' q x :=
  ⟨Nat.lt_of_lt_of_le h.lt u.size, (u.cell h.lt hs).trans h.c0, (u.cell h.lt hs).trans h.c1, (u.cell h.lt hs).trans h.c2, (u.cell h.lt hs).trans h.c3, (u.cell h.lt hs).trans h.c4, (u.cell h.lt hs).trans h.c5, (u.cell h.lt hs).trans h.c6, (u.cell h.lt hs).trans h.c7, (u.cell h.lt hs).trans h.c8, (u.cell h.lt hs).trans h.c9⟩
theorem KB.later {w w' : World} {q : Nat} {x : Kl} (h : KB w q x) (hb : Below w.heap.size w w') : KB w' q x := h.upd (S := fun _ => False) (Upd.of_below hb) id
theorem requestOf_any (c n k s : Int) (v : ByteArray) (w : World) : Calls Try.prog 61 #[.agg #[.int .i64 c, .int .i64 n, .int .i64 k, .int .i64 s, .string v]] w fun e w' => e = .returned (.agg #[.int .i64 c, .int .i64 n]) ∧ Below w.heap.size w w' := by
  go_enter Try.func61, Try.ntmps61
  go_wp2
  refine bodyPost_ret (v := .agg #[.int .i64 c, .int .i64 n]) (by simp [results, Try.results61, go_sem]) rfl ⟨rfl, ?_⟩
  repeat (first | exact Below.refl _ _ | refine Below.alloc ?_ (by first | exact Nat.le_refl _ | (simp [World.setCell]; done) | (simp [World.setCell]; omega)) _ | refine Below.setCell ?_ (by first | (simp; done) | (simp; omega)) _)
theorem entryOf_any (x : Kl) (w : World) : Calls Try.prog 55 #[x.val] w fun e w' => e = .returned (.agg #[.int .i64 x.c, .int .i64 x.n, .int .i64 x.o.k, .int .i64 x.o.s, .string x.o.v]) ∧ Below w.heap.size w w' := by
  unfold Kl.val
  go_enter Try.func55, Try.ntmps55
  go_wp2
  refine bodyPost_ret (v := .agg #[.int .i64 x.c, .int .i64 x.n, .int .i64 x.o.k, .int .i64 x.o.s, .string x.o.v]) (by simp [results, Try.results55, go_sem]) rfl ⟨rfl, ?_⟩
  repeat (first | exact Below.refl _ _ | refine Below.alloc ?_ (by first | exact Nat.le_refl _ | (simp [World.setCell]; done) | (simp [World.setCell]; omega)) _ | refine Below.setCell ?_ (by first | (simp; done) | (simp; omega)) _)
theorem isAnswered_any (x : Kl) (w : World) : Calls Try.prog 49 #[x.val] w fun e w' => e = .returned (.bool (ansK x)) ∧ Below w.heap.size w w' := by
  unfold Kl.val
  go_enter Try.func49, Try.ntmps49
  go_wp2
  go_ret
  exact ⟨rfl, (Below.refl _ w).alloc (Nat.le_refl _) _⟩
theorem precedes_any (x y : Kl) (w : World) : Calls Try.prog 87 #[x.val, y.val] w fun e w' => e = .returned (.bool (prcK x y)) ∧ Below w.heap.size w w' := by
  have ci := fun W => isAnswered_any x W
  have bA := ((Below.refl w.heap.size w).alloc (Nat.le_refl _) (.cells x.cs.toArray 66)).alloc (by simp) (.cells y.cs.toArray 66)
  have kx := (KB.new w x 66).later ((Below.refl _ _).alloc (Nat.le_refl _) (.cells y.cs.toArray 66))
  have ky := KB.new (w.alloc (.cells x.cs.toArray 66)) y 66
  rw [World.size_alloc] at ky
  have HX := hide kx
  have HY := hide ky
  clear kx ky
  unfold prcK
  cases h : ansK x with
  | false =>
    rw [h] at ci
    have h2 : decide (0 ≤ x.e) = false := h
    rw [h2]
    unfold Kl.val at *
    unfold Kl.cs at bA
    go_enter Try.func87, Try.ntmps87
    go_wp2_with (go_at_call 49; refine (ci _).mono ?_; rintro e w1 ⟨rfl, b1⟩)
    go_ret
    exact ⟨rfl, bA.trans (b1.mono (by simp; omega))⟩
  | true =>
    rw [h] at ci
    have h2 : decide (0 ≤ x.e) = true := h
    rw [h2]
    unfold Kl.val at *
    unfold Kl.cs at bA
    go_enter Try.func87, Try.ntmps87
    go_wp2_with (go_at_call 49; refine (ci _).mono ?_; rintro e w1 ⟨rfl, b1⟩; have k1 := (HX.out.later b1).c6; have k2 := (HY.out.later b1).c5)
    go_ret
    exact ⟨rfl, bA.trans (b1.mono (by simp; omega))⟩
theorem mayBeAsked_any (c n k s : Int) (v : ByteArray) (hf : (⟨k, s, v⟩ : Opn).fits) (w : World) : Calls Try.prog 76 #[.agg #[.int .i64 c, .int .i64 n, .int .i64 k, .int .i64 s, .string v]] w fun e w' => e = .returned (.bool (askB c n ⟨k, s, v⟩)) ∧ Below w.heap.size w w' := by
  have cc := fun W => check3 k s v hf W
  have bA := (Below.refl w.heap.size w).alloc (Nat.le_refl _) (.cells #[.int .i64 c, .int .i64 n, .int .i64 k, .int .i64 s, .string v] 92)
  unfold askB
  cases h1 : decide (0 ≤ c) with
  | false =>
    go_enter Try.func76, Try.ntmps76
    go_wp2
    go_ret
    exact ⟨rfl, bA⟩
  | true =>
    cases h2 : decide (c < 16) with
    | false =>
      go_enter Try.func76, Try.ntmps76
      go_wp2
      go_ret
      exact ⟨rfl, bA⟩
    | true =>
      cases h3 : decide (1 ≤ n) with
      | false =>
        go_enter Try.func76, Try.ntmps76
        go_wp2
        go_ret
        exact ⟨rfl, bA⟩
      | true =>
        generalize ck k s v = z at *
        go_enter Try.func76, Try.ntmps76
        go_wp2_with (go_at_call 47; refine (cc _).mono ?_; rintro e w1 ⟨rfl, b1⟩)
        go_ret
        refine ⟨?_, bA.trans (b1.mono (by simp))⟩
        by_cases hz : z = 0 <;> simp [hz]

end Go.Proofs.Ytjkleldoeojbbaa
