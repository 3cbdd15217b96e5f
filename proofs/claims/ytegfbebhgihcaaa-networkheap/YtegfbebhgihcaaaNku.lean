import Derived.Test.YtegfbebhgihcaaaNks
import Derived.Test.YtegfbebhgihcaaaNko
namespace Go.Proofs.Ytegfbebhgihcaaa
open Go.RowKit Go.Maps
set_option linter.unusedVariables false
set_option linter.unusedSimpArgs false

/-- A net within the law of the heap: its blocks are none of those between Bp and Tp. -/
structure Nh (A : Nat → Prop) (B Bp Tp : Nat) (w : World) (b : Nat) (P : List Pk) : Prop where
  ex : ∃ pv rv mb n R M, Net w b 3 2 pv rv mb n P R M ∧ B ≤ b ∧ b < Bp ∧ (∀ g, pv.ownBlock = some g → B ≤ g ∧ (g < Bp ∨ Tp ≤ g)) ∧ (∀ j, A j → j ≠ b ∧ j ≠ mb ∧ pv.ownBlock ≠ some j ∧ rv.ownBlock ≠ some j ∧ j < w.heap.size)
/-- What was told at first: packets whose blocks lie between Bp and Tp. -/
structure Lb (Bp Tp : Nat) (w : World) (v : Value) (K : List Ap) (W : List Pk) : Prop where
  l : Lf Bp w v K W
  t1 : ∀ k, v.ownBlock = some k → k < Tp
  t2 : ∀ x ∈ K, ∀ k, (Value.slice x.a x.s.length x.c).ownBlock = some k → k < Tp
theorem Lb.upd {S : Nat → Prop} {Bp Tp : Nat} {w w' : World} {v : Value} {K : List Ap} {W : List Pk} (h : Lb Bp Tp w v K W) (u : Upd S w w') (hs : ∀ k, Bp ≤ k → k < Tp → ¬ S k) : Lb Bp Tp w' v K W :=
  ⟨⟨h.l.own.upd1 u (fun k hk => hs k (h.l.own.blk k hk).1 (h.t1 k hk)), fun x hx => OwnY.upd1 (h.l.ow x hx) u (fun k hk => hs k (OwnY.blk (h.l.ow x hx) k hk).1 (h.t2 x hx k hk)), h.l.pk⟩, h.t1, h.t2⟩
structure Hs (A : Nat → Prop) (w0 : World) (Bp Tp b : Nat) (v : Value) (K : List Ap) (W : List Pk) (w : World) (P : List Pk) : Prop where
  n : Nh A w0.heap.size Bp Tp w b P
  l : Lb Bp Tp w v K W
  bel : Below w0.heap.size w0 w
  tp : Tp ≤ w.heap.size
  bt : Bp ≤ Tp
variable {A : Nat → Prop} {w0 w w' : World} {Bp Tp b : Nat} {v : Value} {K : List Ap} {W P : List Pk}
theorem Nh.later {A' : Nat → Prop} {B : Nat} (h : Nh A B Bp Tp w b P) (hb : Below w.heap.size w w') (hA : ∀ j, A' j → A j ∨ (w.heap.size ≤ j ∧ j < w'.heap.size)) : Nh A' B Bp Tp w' b P := by
  obtain ⟨pv, rv, mb, n, R, M, h1, h2, h3, h4, h5⟩ := h.ex
  refine ⟨pv, rv, mb, n, R, M, h1.later hb, h2, h3, h4, fun j hj => ?_⟩
  rcases hA j hj with e | ⟨e1, e2⟩
  · obtain ⟨k1, k2, k3, k4, k5⟩ := h5 j e
    exact ⟨k1, k2, k3, k4, Nat.lt_of_lt_of_le k5 hb.size⟩
  · exact ⟨by have := h1.lt; omega, by have := h1.mp.lt; omega, fun e => by have := h1.plt j e; omega, fun e => by have := (h1.rc.blk j e).2; omega, e2⟩
theorem Hs.stepA {A' : Nat → Prop} (h : Hs A w0 Bp Tp b v K W w P) (hb : Below w.heap.size w w') (hA : ∀ j, A' j → A j ∨ (w.heap.size ≤ j ∧ j < w'.heap.size)) : Hs A' w0 Bp Tp b v K W w' P :=
  ⟨h.n.later hb hA, h.l.upd (S := fun _ => False) (Upd.of_below hb) (fun _ _ _ => id), h.bel.trans (hb.mono h.bel.size), Nat.le_trans h.tp hb.size, h.bt⟩
theorem Hs.step (h : Hs A w0 Bp Tp b v K W w P) (hb : Below w.heap.size w w') : Hs A w0 Bp Tp b v K W w' P := h.stepA hb (fun j hj => .inl hj)
/-- A store into what is not the net's. -/
theorem Hs.put (h : Hs A w0 Bp Tp b v K W w P) {q : Nat} (u : Upd (fun k => k = q) w w') (hq : A q) (ht : Tp ≤ q) : Hs A w0 Bp Tp b v K W w' P := by
  obtain ⟨pv, rv, mb, n, R, M, h1, h2, h3, h4, h5⟩ := h.n.ex
  obtain ⟨k1, k2, k3, k4, k5⟩ := h5 q hq
  have h0 := h.bel.size
  have ht2 := h.tp
  have hbt := h.bt
  exact ⟨⟨pv, rv, mb, n, R, M, h1.upd u (fun e => k1 e.symm) (fun e => k2 e.symm) (fun j hj e => k3 (e ▸ hj)) (fun j hj e => k4 (e ▸ hj)), h2, h3, h4, fun j hj => ⟨(h5 j hj).1, (h5 j hj).2.1, (h5 j hj).2.2.1, (h5 j hj).2.2.2.1, Nat.lt_of_lt_of_le (h5 j hj).2.2.2.2 u.size⟩⟩, h.l.upd u (fun k a1 a2 e => by omega), h.bel.trans (u.below h.bel.size (fun k hk => by omega)), Nat.le_trans h.tp u.size, h.bt⟩
theorem Hs.cells {q o n c : Nat} (h : Hs A w0 Bp Tp b (.slice (some ⟨q, o, none⟩) n c) K W w P) {i : Nat} {u : Ap} (hu : K[i]? = some u) : w.cell? ⟨q, o + i * 3, none⟩ = some (.int .i64 u.f) ∧ w.cell? ⟨q, o + i * 3 + 1, none⟩ = some (.int .i64 u.t) ∧ w.cell? ⟨q, o + i * 3 + 2, none⟩ = some (.slice u.a u.s.length u.c) ∧ u.In w := by
  obtain ⟨q', o', e', hq, hl⟩ := (OwnY.sl' kA h.l.l.own).place (by rintro rfl; simp at hu)
  cases e'
  exact ⟨hl _ _ hu 0 _ rfl, hl _ _ hu 1 _ rfl, hl _ _ hu 2 _ rfl, (h.l.l.ow u (List.mem_of_getElem? hu)).sl⟩
theorem Hs.blt (h : Hs A w0 Bp Tp b v K W w P) : b < Bp ∧ w0.heap.size ≤ b ∧ b < w.heap.size := by
  obtain ⟨pv, rv, mb, n, R, M, h1, h2, h3, _⟩ := h.n.ex
  exact ⟨h3, h2, h1.lt⟩
theorem hs_len (h : Hs A w0 Bp Tp b v K W w P) : Calls Try.prog 34 #[.pointer (some ⟨b, 0, none⟩)] w fun e w' => e = .returned (.int .i64 (P.length : Int)) ∧ w' = w := by
  obtain ⟨pv, rv, mb, n, R, M, h1, _⟩ := h.n.ex
  exact len14_any h1
theorem hs_at (h : Hs A w0 Bp Tp b v K W w P) (k : Nat) (p : Pk) (hk : P[k]? = some p) : Calls Try.prog 18 #[.pointer (some ⟨b, 0, none⟩), .int .i64 (k : Int)] w fun e w' => ∃ x : Ap, e = .returned (.tuple #[x.val, .int .i64 0]) ∧ x.pk = p ∧ x.Out w.heap.size w' ∧ Hs A w0 Bp Tp b v K W w' P ∧ Below w.heap.size w w' := by
  obtain ⟨pv, rv, mb, n, R, M, h1, _⟩ := h.n.ex
  refine (at_ok k p h1 hk).mono ?_
  rintro e w' ⟨x, rfl, h2, h3, h4⟩
  exact ⟨x, rfl, h2, h3, h.step h4, h4⟩
theorem Hs.one (h : Hs A w0 Bp Tp b v K W w P) (u : Upd (fun k => k = b) w w') {P' : List Pk} (hn : Nh A w0.heap.size Bp Tp w' b P') : Hs A w0 Bp Tp b v K W w' P' :=
  ⟨hn, h.l.upd u (fun k h1 h2 e => by have := h.blt; omega), h.bel.trans (u.below h.bel.size (fun k hk => by have := h.blt; omega)), Nat.le_trans h.tp u.size, h.bt⟩
theorem hs_swap (h : Hs A w0 Bp Tp b v K W w P) (i k : Nat) (x y : Pk) (hx : P[i]? = some x) (hy : P[k]? = some y) (hl : P.length * 32 ≤ 168884986026393) : Calls Try.prog 31 #[.pointer (some ⟨b, 0, none⟩), .int .i64 (i : Int), .int .i64 (k : Int)] w fun e w' => e = .returned (.int .i64 0) ∧ Hs A w0 Bp Tp b v K W w' ((P.set i y).set k x) ∧ Upd (fun k => k = b) w w' := by
  obtain ⟨pv, rv, mb, n, R, M, h1, h2, h3, h4, h5⟩ := h.n.ex
  refine (swap_ok i k x y h1 hx hy hl).mono ?_
  rintro e w' ⟨rfl, pv', N, U, g, e1, e2⟩
  exact ⟨rfl, h.one U ⟨pv', rv, mb, n, R, M, N, h2, h3, fun g' hg' => by rw [e1] at hg'; cases hg'; have := h.tp; have := h.bel.size; omega, fun j hj => ⟨(h5 j hj).1, (h5 j hj).2.1, fun e => by rw [e1] at e; cases e; have := (h5 _ hj).2.2.2.2; omega, (h5 j hj).2.2.2.1, Nat.lt_of_lt_of_le (h5 j hj).2.2.2.2 U.size⟩⟩, U⟩
theorem hs_turn (h : Hs A w0 Bp Tp b v K W w P) (k at_ : Nat) (m : UInt8) (x : Pk) (hx : P[k]? = some x) (hat : at_ < x.s.length) (hl : P.length * 32 ≤ 168884986026393) : Calls Try.prog 30 #[.pointer (some ⟨b, 0, none⟩), .int .i64 (k : Int), .int .i64 (at_ : Int), .int .u8 (m.toNat : Int)] w fun e w' => e = .returned (.int .i64 0) ∧ Hs A w0 Bp Tp b v K W w' (P.set k (tnP x at_ m)) ∧ Upd (fun k => k = b) w w' := by
  obtain ⟨pv, rv, mb, n, R, M, h1, h2, h3, h4, h5⟩ := h.n.ex
  refine (turn_ok k at_ m x h1 hx hat hl).mono ?_
  rintro e w' ⟨rfl, pv', N, U, g, e1, e2⟩
  exact ⟨rfl, h.one U ⟨pv', rv, mb, n, R, M, N, h2, h3, fun g' hg' => by rw [e1] at hg'; cases hg'; have := h.tp; have := h.bel.size; omega, fun j hj => ⟨(h5 j hj).1, (h5 j hj).2.1, fun e => by rw [e1] at e; cases e; have := (h5 _ hj).2.2.2.2; omega, (h5 j hj).2.2.2.1, Nat.lt_of_lt_of_le (h5 j hj).2.2.2.2 U.size⟩⟩, U⟩
theorem Hs.own' {pv pv' : Value} (h : Hs A w0 Bp Tp b v K W w P) (h4 : ∀ g, pv.ownBlock = some g → w0.heap.size ≤ g ∧ (g < Bp ∨ Tp ≤ g)) (n : pv'.ownBlock = pv.ownBlock ∨ ∃ k, pv'.ownBlock = some k ∧ w.heap.size ≤ k) : ∀ g, pv'.ownBlock = some g → w0.heap.size ≤ g ∧ (g < Bp ∨ Tp ≤ g) := by
  intro g hg
  rcases n with e | ⟨k, e, hk⟩
  · exact h4 g (e ▸ hg)
  · rw [e] at hg
    cases hg
    have := h.tp
    have := h.bel.size
    omega
theorem avoid5 {pv pv' rv : Value} {mb : Nat} (h5 : ∀ j, A j → j ≠ b ∧ j ≠ mb ∧ pv.ownBlock ≠ some j ∧ rv.ownBlock ≠ some j ∧ j < w.heap.size) (n : pv'.ownBlock = pv.ownBlock ∨ ∃ k, pv'.ownBlock = some k ∧ w.heap.size ≤ k) (hz : w.heap.size ≤ w'.heap.size) : ∀ j, A j → j ≠ b ∧ j ≠ mb ∧ pv'.ownBlock ≠ some j ∧ rv.ownBlock ≠ some j ∧ j < w'.heap.size := by
  intro j hj
  obtain ⟨k1, k2, k3, k4, k5⟩ := h5 j hj
  refine ⟨k1, k2, fun e => ?_, k4, by omega⟩
  rcases n with e1 | ⟨k, e1, e2⟩
  · exact k3 (e1 ▸ e)
  · rw [e1] at e
    cases e
    omega
theorem hs_drop (h : Hs A w0 Bp Tp b v K W w P) (k : Nat) (hk : k < P.length) (hl : P.length * 32 ≤ 168884986026393) : Calls Try.prog 29 #[.pointer (some ⟨b, 0, none⟩), .int .i64 (k : Int)] w fun e w' => e = .returned (.int .i64 0) ∧ Hs A w0 Bp Tp b v K W w' (dr P k) := by
  obtain ⟨pv, rv, mb, n, R, M, h1, h2, h3, h4, h5⟩ := h.n.ex
  refine (drop_ok k h1 hk hl).mono ?_
  rintro e w' ⟨rfl, pv', N, U, n'⟩
  exact ⟨rfl, h.one U ⟨pv', rv, mb, n, R, M, N, h2, h3, h.own' h4 n', avoid5 h5 n' U.size⟩⟩
theorem hs_take (h : Hs A w0 Bp Tp b v K W w P) (k : Nat) (p : Pk) (hk : P[k]? = some p) (hl : P.length * 32 ≤ 168884986026393) : Calls Try.prog 26 #[.pointer (some ⟨b, 0, none⟩), .int .i64 (k : Int)] w fun e w' => ∃ x : Ap, e = .returned (.tuple #[x.val, .int .i64 0]) ∧ x.pk = p ∧ x.Out w.heap.size w' ∧ Hs A w0 Bp Tp b v K W w' (dr P k) := by
  obtain ⟨pv, rv, mb, n, R, M, h1, h2, h3, h4, h5⟩ := h.n.ex
  refine (take_ok k p h1 hk hl).mono ?_
  rintro e w' ⟨x, rfl, hx, ho, pv', N, U, n'⟩
  exact ⟨x, rfl, hx, ho, h.one U ⟨pv', rv, mb, n, R, M, N, h2, h3, h.own' h4 n', avoid5 h5 n' U.size⟩⟩
theorem hs_copy (h : Hs A w0 Bp Tp b v K W w P) (k : Nat) (p : Pk) (hk : P[k]? = some p) (hl : (P.length + 1) * 32 ≤ 168884986026393) : Calls Try.prog 28 #[.pointer (some ⟨b, 0, none⟩), .int .i64 (k : Int)] w fun e w' => e = .returned (.int .i64 0) ∧ Hs A w0 Bp Tp b v K W w' (P ++ [p]) := by
  obtain ⟨pv, rv, mb, n, R, M, h1, h2, h3, h4, h5⟩ := h.n.ex
  refine (copy_ok k p h1 hk hl).mono ?_
  rintro e w' ⟨rfl, pv', N, U, n'⟩
  refine ⟨rfl, ⟨pv', rv, mb, n, R, M, N, h2, h3, h.own' h4 n', avoid5 h5 n' U.size⟩, h.l.upd U (fun j j1 j2 e => ?_), h.bel.trans (U.below h.bel.size (fun j hj => ?_)), Nat.le_trans h.tp U.size, h.bt⟩
  · rcases e with e | e
    · omega
    · have := (h4 j e).2
      omega
  · rcases hj with e | e
    · omega
    · exact (h4 j e).1
theorem hs_pool (h : Hs A w0 Bp Tp b v K W w P) (hl : (P.length + 1) * 40 ≤ 140737488355328) : Calls Try.prog 33 #[.pointer (some ⟨b, 0, none⟩)] w fun e w' => ∃ va vc K', e = .returned (.slice va P.length vc) ∧ SlY yA w' va P.length vc K' ∧ (∀ x ∈ K', x.In w') ∧ K'.map Ap.pk = P ∧ Hs A w0 Bp Tp b v K W w' P ∧ Below w.heap.size w w' := by
  obtain ⟨pv, rv, mb, n, R, M, h1, h2, h3, h4, h5⟩ := h.n.ex
  refine (pool_any b P R.length 0 w ⟨pv, rv, mb, n, R, M, h1, Nat.zero_le _, Nat.zero_le _, fun _ _ => Nat.zero_le _, fun _ _ => Nat.zero_le _, Nat.le_refl _⟩ hl).mono ?_
  rintro e w' ⟨v', K', rfl, O, hb⟩
  obtain ⟨va, vc, e1, hs, _⟩ := O.own.sl kA
  have hlen := O.lf.len
  rw [hlen] at e1 hs
  exact ⟨va, vc, K', by rw [e1], hs, fun x hx => (O.out x hx).sl, O.pk, h.step hb, hb⟩
theorem hs_same (h : Hs A w0 Bp Tp b v K W w P) {va wa : Option Addr} {vc wc n : Nat} {K' : List Ap} (hv : v = .slice wa n wc) (hn : K.length = n) (hs : SlY yA w va n vc K') (hi : ∀ x ∈ K', x.In w) (hp : K'.map Ap.pk = W) (hm : n < 4611686018427387904) :
    Calls Try.prog 38 #[.slice va n vc, .slice wa n wc] w fun e w' => e = .returned (.bool true) ∧ Hs A w0 Bp Tp b v K W w' P := by
  subst hn
  subst hv
  have hl : K'.length = K.length := by
    have := congrArg List.length (hp.trans h.l.l.pk.symm)
    rwa [List.length_map, List.length_map] at this
  have := samepks_any K' K va wa vc wc w (by rw [hl]; exact hs) (by rw [hl]; exact OwnY.sl' kA h.l.l.own) hi (fun x hx => (h.l.l.ow x hx).sl) (hp.trans h.l.l.pk.symm) (by omega)
  rw [hl] at this
  refine this.mono ?_
  rintro e w' ⟨rfl, hb⟩
  exact ⟨rfl, h.step hb⟩
theorem swap2 {P : List Pk} {i k : Nat} {x y : Pk} (hx : P[i]? = some x) (hy : P[k]? = some y) : ((P.set i y).set k x)[k]? = some x ∧ ((P.set i y).set k x)[i]? = some y ∧ ((((P.set i y).set k x).set k y).set i x) = P := by
  have hi := (List.getElem?_eq_some_iff.1 hx).1
  have hk := (List.getElem?_eq_some_iff.1 hy).1
  refine ⟨by rw [List.getElem?_set_self (by rw [List.length_set]; exact hk)], ?_, ?_⟩
  · by_cases e : k = i
    · subst e
      rw [List.getElem?_set_self (by rw [List.length_set]; exact hk)]
      exact hx.symm.trans hy
    · rw [List.getElem?_set_ne e, List.getElem?_set_self hi]
  · apply List.ext_getElem?
    intro j
    by_cases e1 : i = j
    · subst e1
      rw [List.getElem?_set_self (by simp only [List.length_set]; exact hi), hx]
    · rw [List.getElem?_set_ne e1]
      by_cases e2 : k = j
      · subst e2
        rw [List.getElem?_set_self (by simp only [List.length_set]; exact hk), hy]
      · rw [List.getElem?_set_ne e2, List.getElem?_set_ne e2, List.getElem?_set_ne e1]
theorem tn2 (x : Pk) (at_ : Nat) (m : UInt8) (h : at_ < x.s.length) : tnP (tnP x at_ m) at_ m = x := by
  obtain ⟨t, s, f⟩ := x
  unfold tnP
  dsimp only at h ⊢
  rw [List.getElem?_set_self h, List.set_set, List.getElem?_eq_getElem h]
  simp only [Option.getD_some]
  rw [UInt8.xor_assoc, UInt8.xor_self, UInt8.xor_zero, List.set_getElem_self]
theorem set_last (P : List Pk) (x y : Pk) : (P ++ [x]).set P.length y = P ++ [y] := by simp
theorem dr_last (P : List Pk) (x : Pk) : dr (P ++ [x]) P.length = P := by
  unfold dr
  simp

end Go.Proofs.Ytegfbebhgihcaaa
