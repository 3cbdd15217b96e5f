import Derived.Test.YtdgelllmngdpkaaRa
import Derived.Test.YtdgelllmngdpkaaNs1
namespace Go.Proofs.Ytdgelllmngdpkaa
open Go.RowKit
set_option linter.unusedVariables false
set_option linter.unusedSimpArgs false

theorem setc_ne' {w : World} {b i j : Nat} {u x : Value} (h : w.cell? ⟨b, i, none⟩ = some x) (hne : i ≠ j) : (w.setCell ⟨b, j, none⟩ u).cell? ⟨b, i, none⟩ = some x := by
  have hn : j ≠ i := fun e => hne e.symm
  go_simp
theorem setc_eq' {w : World} {b i : Nat} {u x : Value} (h : w.cell? ⟨b, i, none⟩ = some x) : (w.setCell ⟨b, i, none⟩ u).cell? ⟨b, i, none⟩ = some u := by
  go_simp
def vAtD (v : World) (p : Addr) : Value := (v.cell? p).getD undef
theorem vAtD_of {v : World} {p : Addr} {x : Value} (h : v.cell? p = some x) : v.cell? p = some (vAtD v p) := by unfold vAtD; rw [h]; rfl
theorem set2u (w : World) (b : Nat) (x y : Value) : Upd (· = b) w ((w.setCell ⟨b, 0, none⟩ x).setCell ⟨b, 1, none⟩ y) := ((Upd.refl (· = b) w).setCell (p := ⟨b, 0, none⟩) (.inl rfl) x).setCell (p := ⟨b, 1, none⟩) (.inl rfl) y
theorem RPrs.upd2 {S : Nat → Prop} {B : Nat} {w w' : World} {p c : Nat} {rd : Int} {N : Nat} {v : Value} (h : RPrs B w p c rd N v) (u : Upd S w w') (hs : ¬ S p) (hb : ∀ k, v.ownBlock = some k → ¬ S k) : RPrs B w' p c rd N v :=
  ⟨Nat.lt_of_lt_of_le h.lt u.size, (u.cell h.lt hs).trans h.c0, (u.cell h.lt hs).trans h.c1, (u.frozen h.lt hs).trans h.f1, h.own.upd2 u hb, h.pB, h.ne, h.m1⟩
theorem OwnD.lo {B : Nat} {w : World} {v : Value} {l : List (Int × Int)} (h : OwnD B w v l) : ∀ k, v.ownBlock = some k → B ≤ k ∧ k < w.heap.size := World.ownsRow.lt h
/-- The sources of NonceSources: where each lies, and what it has. -/
structure SS (w : World) (b t c p q m s d x y z B : Nat) (L : List (Int × Int)) (al : Option Addr) (cl : Nat) (R rp : Int) (np : Nat) (rq : Int) (nq : Nat) (S : Int) (k : Nat) (vx vy : Value) (ax : Option Addr) (cs : Nat) : Prop where
  o : b ≤ c ∧ c < m ∧ m < s ∧ s < t ∧ t < p ∧ p < q ∧ q < d ∧ d < x ∧ x < y ∧ y < z ∧ z < B
  lt : t < w.heap.size
  t0 : w.cell? ⟨t, 0, none⟩ = some (.pointer (some ⟨c, 0, none⟩))
  t1 : w.cell? ⟨t, 1, none⟩ = some (.pointer (some ⟨p, 0, none⟩))
  t2 : w.cell? ⟨t, 2, none⟩ = some (.pointer (some ⟨q, 0, none⟩))
  t3 : w.cell? ⟨t, 3, none⟩ = some (.pointer (some ⟨m, 0, none⟩))
  t4 : w.cell? ⟨t, 4, none⟩ = some (.pointer (some ⟨s, 0, none⟩))
  t5 : w.cell? ⟨t, 5, none⟩ = some (.pointer (some ⟨d, 0, none⟩))
  t6 : w.cell? ⟨t, 6, none⟩ = some (.pointer (some ⟨x, 0, none⟩))
  t7 : w.cell? ⟨t, 7, none⟩ = some (.pointer (some ⟨y, 0, none⟩))
  t8 : w.cell? ⟨t, 8, none⟩ = some (.pointer (some ⟨z, 0, none⟩))
  t9 : w.cell? ⟨t, 9, none⟩ = some (.slice al L.length cl)
  t10 : w.cell? ⟨t, 10, none⟩ = some (.int .i64 (k : Int))
  f10 : w.frozen? ⟨t, 10, none⟩ = false
  C : Clk w c R
  P : Prs w p c rp (np : Int)
  Q : Prs w q c rq (nq : Int)
  M : Mix w m S
  A : Str w s (L.drop k) ax cs
  D : RClk w d R
  X : RPrs B w x d rp np vx
  Y : RPrs B w y d rq nq vy
  Z : Mix w z S
  l : Sl w (.slice al L.length cl) L al cl
  lb : ∀ z, al = some z → L ≠ [] → z.block < b
  ab : ∀ z, ax = some z → m < z.block ∧ z.block < t ∧ z.block ≠ s
  kl : k ≤ L.length
  hB : B ≤ w.heap.size
  ne : ∀ g, vx.ownBlock = some g → vy.ownBlock ≠ some g
section
variable {T : Nat → Prop} {w w' : World} {b t c p q m s d x y z B : Nat} {L : List (Int × Int)} {al : Option Addr} {cl : Nat} {R rp : Int} {np : Nat} {rq : Int} {nq : Nat} {S : Int} {k : Nat} {vx vy : Value} {ax : Option Addr} {cs : Nat} {R' rp' : Int} {np' : Nat} {rq' : Int} {nq' : Nat} {S' : Int} {vx' vy' : Value} {ax' : Option Addr} {cs' : Nat}
theorem SS.next (h : SS w b t c p q m s d x y z B L al cl R rp np rq nq S k vx vy ax cs) (u : Upd T w w') (nt : ¬ T t) (nl : ∀ i, i < b → ¬ T i) (C : Clk w' c R') (P : Prs w' p c rp' (np' : Int)) (Q : Prs w' q c rq' (nq' : Int)) (M : Mix w' m S') (A : Str w' s (L.drop k) ax' cs') (ab : ∀ z, ax' = some z → m < z.block ∧ z.block < t ∧ z.block ≠ s) (D : RClk w' d R') (X : RPrs B w' x d rp' np' vx') (Y : RPrs B w' y d rq' nq' vy') (Z : Mix w' z S') (ne : ∀ g, vx'.ownBlock = some g → vy'.ownBlock ≠ some g) :
    SS w' b t c p q m s d x y z B L al cl R' rp' np' rq' nq' S' k vx' vy' ax' cs' :=
  ⟨h.o, Nat.lt_of_lt_of_le h.lt u.size, (u.cell (p := ⟨t, 0, none⟩) h.lt nt).trans h.t0, (u.cell (p := ⟨t, 1, none⟩) h.lt nt).trans h.t1, (u.cell (p := ⟨t, 2, none⟩) h.lt nt).trans h.t2, (u.cell (p := ⟨t, 3, none⟩) h.lt nt).trans h.t3, (u.cell (p := ⟨t, 4, none⟩) h.lt nt).trans h.t4, (u.cell (p := ⟨t, 5, none⟩) h.lt nt).trans h.t5, (u.cell (p := ⟨t, 6, none⟩) h.lt nt).trans h.t6, (u.cell (p := ⟨t, 7, none⟩) h.lt nt).trans h.t7, (u.cell (p := ⟨t, 8, none⟩) h.lt nt).trans h.t8, (u.cell (p := ⟨t, 9, none⟩) h.lt nt).trans h.t9, (u.cell (p := ⟨t, 10, none⟩) h.lt nt).trans h.t10, (u.frozen (p := ⟨t, 10, none⟩) h.lt nt).trans h.f10, C, P, Q, M, A, D, X, Y, Z, h.l.upd u (fun x hx hn => nl _ (h.lb x hx hn)), h.lb, ab, h.kl, Nat.le_trans h.hB u.size, ne⟩
/-- All but the given blocks stand. -/
theorem SS.same (h : SS w b t c p q m s d x y z B L al cl R rp np rq nq S k vx vy ax cs) (u : Upd T w w') (hT : ∀ i, i < B → ¬ T i) (hB : ∀ i, w.heap.size ≤ i ∨ ¬ T i) : SS w' b t c p q m s d x y z B L al cl R rp np rq nq S k vx vy ax cs := by
  obtain ⟨o1, o2, o3, o4, o5, o6, o7, o8, o9, o10, o11⟩ := h.o
  have nT : ∀ i, i < w.heap.size → ¬ T i := fun i hi => (hB i).elim (fun h => by omega) id
  refine h.next u (hT t (by omega)) (fun i hi => hT i (by omega)) (h.C.upd u (hT c (by omega))) (h.P.upd u (hT p (by omega))) (h.Q.upd u (hT q (by omega))) (h.M.upd u (hT m (by omega))) (h.A.upd u (hT s (by omega)) (fun x hx => hT _ (by have := h.ab x hx; omega))) h.ab (h.D.upd u (hT d (by omega))) (h.X.upd2 u (hT x (by omega)) (fun k hk => nT k (h.X.own.lo k hk).2)) (h.Y.upd2 u (hT y (by omega)) (fun k hk => nT k (h.Y.own.lo k hk).2)) (h.Z.upd u (hT z (by omega))) h.ne
theorem SS.bel (h : SS w b t c p q m s d x y z B L al cl R rp np rq nq S k vx vy ax cs) (u : Below w.heap.size w w') : SS w' b t c p q m s d x y z B L al cl R rp np rq nq S k vx vy ax cs := h.same (T := fun _ => False) (Upd.of_below u) (fun _ _ => id) (fun _ => .inr id)
end
theorem belND {B : Nat} {w w' : World} (h : Below B w w') (n : Nat) : Below B w (w'.drewN n) := ⟨h.os, h.tape, h.output, h.size, h.block⟩
/-- Two new boxes of draws. -/
theorem box2 (w : World) (T : TypeId) : ((w.alloc (.cells #[.int .u64 0, .int .u64 0] T)).alloc (.cells #[.int .u64 0, .int .u64 0] T)).cell? ⟨w.heap.size, 0, none⟩ = some (.int .u64 0) ∧ ((w.alloc (.cells #[.int .u64 0, .int .u64 0] T)).alloc (.cells #[.int .u64 0, .int .u64 0] T)).cell? ⟨w.heap.size, 1, none⟩ = some (.int .u64 0) ∧ ((w.alloc (.cells #[.int .u64 0, .int .u64 0] T)).alloc (.cells #[.int .u64 0, .int .u64 0] T)).frozen? ⟨w.heap.size, 0, none⟩ = false ∧ ((w.alloc (.cells #[.int .u64 0, .int .u64 0] T)).alloc (.cells #[.int .u64 0, .int .u64 0] T)).frozen? ⟨w.heap.size, 1, none⟩ = false ∧ ((w.alloc (.cells #[.int .u64 0, .int .u64 0] T)).alloc (.cells #[.int .u64 0, .int .u64 0] T)).cell? ⟨w.heap.size + 1, 0, none⟩ = some (.int .u64 0) ∧ ((w.alloc (.cells #[.int .u64 0, .int .u64 0] T)).alloc (.cells #[.int .u64 0, .int .u64 0] T)).cell? ⟨w.heap.size + 1, 1, none⟩ = some (.int .u64 0) ∧ ((w.alloc (.cells #[.int .u64 0, .int .u64 0] T)).alloc (.cells #[.int .u64 0, .int .u64 0] T)).frozen? ⟨w.heap.size + 1, 0, none⟩ = false ∧ ((w.alloc (.cells #[.int .u64 0, .int .u64 0] T)).alloc (.cells #[.int .u64 0, .int .u64 0] T)).frozen? ⟨w.heap.size + 1, 1, none⟩ = false := by
  obtain ⟨w2, h2⟩ : ∃ w2, w.alloc (.cells #[.int .u64 0, .int .u64 0] T) = w2 := ⟨_, rfl⟩
  have z : w2.heap.size = w.heap.size + 1 := by rw [← h2]; simp
  have e0 : w2.cell? ⟨w.heap.size, 0, none⟩ = some (.int .u64 0) ∧ w2.cell? ⟨w.heap.size, 1, none⟩ = some (.int .u64 0) ∧ w2.frozen? ⟨w.heap.size, 0, none⟩ = false ∧ w2.frozen? ⟨w.heap.size, 1, none⟩ = false := by rw [← h2]; exact ⟨by simp, by simp, by simp, by simp⟩
  rw [h2, ← z]
  have b : Below w2.heap.size w2 (w2.alloc (.cells #[.int .u64 0, .int .u64 0] T)) := (Below.refl _ _).alloc (Nat.le_refl _) _
  have lt : w.heap.size < w2.heap.size := by omega
  exact ⟨(b.cell (p := ⟨w.heap.size, 0, none⟩) lt).trans e0.1, (b.cell (p := ⟨w.heap.size, 1, none⟩) lt).trans e0.2.1, (b.frozen (p := ⟨w.heap.size, 0, none⟩) lt).trans e0.2.2.1, (b.frozen (p := ⟨w.heap.size, 1, none⟩) lt).trans e0.2.2.2, by simp, by simp, by simp, by simp⟩
/-- What does leaves. -/
def Left (w : World) (b t c p q m s d x y z B : Nat) (L : List (Int × Int)) (al : Option Addr) (cl : Nat) (w' : World) : Prop := ∃ R rp np rq nq S k vx vy ax cs, SS w' b t c p q m s d x y z B L al cl R rp np rq nq S k vx vy ax cs ∧ Below b w w'

end Go.Proofs.Ytdgelllmngdpkaa
