import Derived.Test.YtegfbebhgihcaaaNl2
namespace Go.Proofs.Ytegfbebhgihcaaa
open Go.RowKit Go.Maps
set_option linter.unusedVariables false
set_option linter.unusedSimpArgs false

/-- A call of a script. -/
structure Oq where
  k : Int
  i : Int
  a : Int
  m : UInt8
  x : Ap
  h : Bool
def yQ : Lay Oq := ⟨48, 22, 8, 80, fun o => [.int .i64 o.k, .int .i64 o.i, .int .i64 o.a, .int .u8 (o.m.toNat : Int), .int .i64 o.x.f, .int .i64 o.x.t, .slice o.x.a o.x.s.length o.x.c, .bool o.h], ⟨0, 0, 0, 0, ⟨0, 0, none, 0, []⟩, false⟩⟩
theorem kQ : yQ.Ok := ⟨by decide, fun x => rfl, fun x u h => by
    simp [yQ] at h
    rcases h with rfl | rfl | rfl | rfl | rfl | rfl | rfl | rfl <;> rfl, Try.underlying22, ⟨.agg #[.int .i64 0, .int .i64 0, .int .i64 0, .int .u8 0, .int .i64 0, .int .i64 0, .slice none 0 0, .bool false], by kernel_rfl, rfl⟩⟩
variable {A A' : Nat → Prop} {B rl j : Nat} {w0 w w' : World} {b : Nat} {P P' : List Pk} {M : Int → List UInt8 → Nat} {sv : Value} {K : List Ap}
theorem NG.app (h : NG A B w b P rl M) {S : Nat → Prop} (u : Upd S w w') (hs : ∀ k, S k → A k) (hA : ∀ j, A' j → A j ∨ (w.heap.size ≤ j ∧ j < w'.heap.size)) : NG A' B w' b P rl M := by
  obtain ⟨pv, rv, mb, n, R, h1, h2, h3, h4, h5, h6, h7⟩ := h.ex
  refine ⟨pv, rv, mb, n, R, h1.upd u (fun e => (h7 _ (hs _ e)).1 rfl) (fun e => (h7 _ (hs _ e)).2.1 rfl) (fun k hk e => (h7 _ (hs _ e)).2.2.1 hk) (fun k hk e => (h7 _ (hs _ e)).2.2.2.1 hk), h2, h3, h4, h5, h6, fun j hj => ?_⟩
  rcases hA j hj with e | ⟨e1, e2⟩
  · obtain ⟨k1, k2, k3, k4, k5⟩ := h7 j e
    exact ⟨k1, k2, k3, k4, Nat.lt_of_lt_of_le k5 u.size⟩
  · exact ⟨by have := h1.lt; omega, by have := h1.mp.lt; omega, fun e => by have := h1.plt j e; omega, fun e => by have := (h1.rc.blk j e).2; omega, e2⟩
theorem NG.more (h : NG A B w b P rl M) {r2 : Nat} (hr : rl ≤ r2) : NG A B w b P r2 M := by
  obtain ⟨pv, rv, mb, n, R, h1, h2, h3, h4, h5, h6, h7⟩ := h.ex
  exact ⟨pv, rv, mb, n, R, h1, h2, h3, h4, h5, by omega, h7⟩
/-- The packets that were sent, as the law keeps them. -/
structure ST (B : Nat) (w : World) (sv : Value) (K : List Ap) : Prop where
  own : OwnY yA B w sv K
  inn : ∀ x ∈ K, x.In w ∧ x.s.length ≤ 32768
  blk : ∀ x ∈ K, ∀ z, x.a = some z → B ≤ z.block ∧ z.block < w.heap.size ∧ sv.ownBlock ≠ some z.block
def stA (sv : Value) (K : List Ap) (k : Nat) : Prop := sv.ownBlock = some k ∨ ∃ x ∈ K, ∃ z, x.a = some z ∧ z.block = k
theorem ST.upd (h : ST B w sv K) {S : Nat → Prop} (u : Upd S w w') (hs : ∀ k, S k → ¬ stA sv K k) : ST B w' sv K :=
  ⟨h.own.upd1 u (fun g hg hS => hs g hS (.inl hg)), fun x hx => ⟨SlY.upd (h.inn x hx).1 u (fun z hz _ hS => hs _ hS (.inr ⟨x, hx, z, hz, rfl⟩)), (h.inn x hx).2⟩, fun x hx z hz => ⟨(h.blk x hx z hz).1, Nat.lt_of_lt_of_le (h.blk x hx z hz).2.1 u.size, (h.blk x hx z hz).2.2⟩⟩
theorem ST.later (h : ST B w sv K) (hb : Below w.heap.size w w') : ST B w' sv K := h.upd (S := fun _ => False) (Upd.of_below hb) (fun _ => False.elim)
/-- One more. -/
theorem ST.app {y : Ap} {v' : Value} (h : ST B w sv K) (hy : y.In w) (hys : y.s.length ≤ 32768) (hyb : ∀ z, y.a = some z → B ≤ z.block ∧ z.block < w.heap.size ∧ sv.ownBlock ≠ some z.block) (o : OwnY yA B w' v' (K ++ [y])) (g : w.grownBy w' sv.ownBlock) (n : v'.ownBlock = sv.ownBlock ∨ ∃ k, v'.ownBlock = some k ∧ w.heap.size ≤ k) : ST B w' v' (K ++ [y]) := by
  have u : Upd (fun k => sv.ownBlock = some k) w w' := gupd g (fun k e => e)
  have nb : ∀ z : Addr, z.block < w.heap.size → sv.ownBlock ≠ some z.block → v'.ownBlock ≠ some z.block := by
    intro z h1 h2 e
    rcases n with e1 | ⟨k, e1, e2⟩
    · exact h2 (e1 ▸ e)
    · rw [e1] at e; cases e; omega
  refine ⟨o, fun x hx => ?_, fun x hx z hz => ?_⟩
  · rcases List.mem_append.1 hx with hx | hx
    · exact ⟨SlY.upd (h.inn x hx).1 u (fun z hz _ => (h.blk x hx z hz).2.2), (h.inn x hx).2⟩
    · obtain rfl := List.mem_singleton.1 hx
      exact ⟨SlY.upd hy u (fun z hz _ => (hyb z hz).2.2), hys⟩
  · rcases List.mem_append.1 hx with hx | hx
    · obtain ⟨k1, k2, k3⟩ := h.blk x hx z hz
      exact ⟨k1, Nat.lt_of_lt_of_le k2 u.size, nb z k2 k3⟩
    · obtain rfl := List.mem_singleton.1 hx
      obtain ⟨k1, k2, k3⟩ := hyb z hz
      exact ⟨k1, Nat.lt_of_lt_of_le k2 u.size, nb z k2 k3⟩
/-- What the law of Genuine carries round by round. -/
structure GI (B : Nat) (w0 w : World) (b : Nat) (sv : Value) (K : List Ap) (P : List Pk) (j : Nat) : Prop where
  net : ∃ M, NG (stA sv K) B w b P j M ∧ ∀ t s, M t s ≠ 0 ↔ ∃ x ∈ K, x.t = t ∧ x.s = s
  st : ST B w sv K
  pl : P.length ≤ j
  kl : K.length ≤ j
  sub : ∀ p ∈ P, ∃ x ∈ K, x.t = p.t ∧ x.s = p.s
  bel : Below B w0 w
  tw : ∀ x ∈ K, adr 3 2 x.t = true
theorem GI.step (h : GI B w0 w b sv K P j) (hb : Below w.heap.size w w') (hB : B ≤ w.heap.size) : GI B w0 w' b sv K P j := by
  obtain ⟨M, n1, n2⟩ := h.net
  exact ⟨⟨M, n1.step hb, n2⟩, h.st.later hb, h.pl, h.kl, h.sub, h.bel.trans (hb.mono hB), h.tw⟩
theorem GI.idle (h : GI B w0 w b sv K P j) : GI B w0 w b sv K P (j + 1) := by
  obtain ⟨M, n1, n2⟩ := h.net
  exact ⟨⟨M, n1.more (by omega), n2⟩, h.st, by have := h.pl; omega, by have := h.kl; omega, h.sub, h.bel, h.tw⟩
theorem GI.turn (h : GI B w0 w b sv K P j) (hB : B ≤ w.heap.size) {M} (n1 : NG (stA sv K) B w' b P' j M) (n2 : ∀ t s, M t s ≠ 0 ↔ ∃ x ∈ K, x.t = t ∧ x.s = s) (u : UN (stA sv K) B w w') (hl : P'.length ≤ j + 1) (hs : ∀ p ∈ P', p ∈ P) : GI B w0 w' b sv K P' (j + 1) :=
  ⟨⟨M, n1.more (by omega), n2⟩, h.st.upd u (fun k hk => hk.2), hl, by have := h.kl; omega, fun p hp => h.sub p (hs p hp), h.bel.trans (Upd.below u hB (fun k hk => hk.1)), h.tw⟩
theorem gi_copy (k : Int) (h : GI B w0 w b sv K P j) (hB : B ≤ w.heap.size) (hj : (j + 1) * 32 ≤ 168884986026393) : Calls Try.prog 28 #[.pointer (some ⟨b, 0, none⟩), .int .i64 k] w fun e w' => ∃ r P', e = .returned (.int .i64 r) ∧ GI B w0 w' b sv K P' (j + 1) := by
  obtain ⟨M, n1, n2⟩ := h.net
  have hp := h.pl
  refine (ng_copy k n1 hB (by omega)).mono ?_
  rintro e w' ⟨r, P', rfl, h1, h2, h3, h4⟩
  exact ⟨r, P', rfl, h.turn hB h1 n2 h2 (by omega) h4⟩
theorem gi_drop (k : Int) (h : GI B w0 w b sv K P j) (hB : B ≤ w.heap.size) (hj : (j + 1) * 32 ≤ 168884986026393) : Calls Try.prog 29 #[.pointer (some ⟨b, 0, none⟩), .int .i64 k] w fun e w' => ∃ r P', e = .returned (.int .i64 r) ∧ GI B w0 w' b sv K P' (j + 1) := by
  obtain ⟨M, n1, n2⟩ := h.net
  have hp := h.pl
  refine (ng_drop k n1 hB (by omega)).mono ?_
  rintro e w' ⟨r, P', rfl, h1, h2, h3, h4⟩
  exact ⟨r, P', rfl, h.turn hB h1 n2 h2 (by omega) h4⟩
theorem gi_swap (i k : Int) (h : GI B w0 w b sv K P j) (hB : B ≤ w.heap.size) (hj : (j + 1) * 32 ≤ 168884986026393) : Calls Try.prog 31 #[.pointer (some ⟨b, 0, none⟩), .int .i64 i, .int .i64 k] w fun e w' => ∃ r P', e = .returned (.int .i64 r) ∧ GI B w0 w' b sv K P' (j + 1) := by
  obtain ⟨M, n1, n2⟩ := h.net
  have hp := h.pl
  refine (ng_swap i k n1 hB (by omega)).mono ?_
  rintro e w' ⟨r, P', rfl, h1, h2, h3, h4⟩
  exact ⟨r, P', rfl, h.turn hB h1 n2 h2 (by omega) h4⟩
theorem gi_turn (k at_ : Int) (h : GI B w0 w b sv K P j) (hB : B ≤ w.heap.size) (hj : (j + 1) * 32 ≤ 168884986026393) : Calls Try.prog 30 #[.pointer (some ⟨b, 0, none⟩), .int .i64 k, .int .i64 at_, .int .u8 0] w fun e w' => ∃ r P', e = .returned (.int .i64 r) ∧ GI B w0 w' b sv K P' (j + 1) := by
  obtain ⟨M, n1, n2⟩ := h.net
  have hp := h.pl
  refine (ng_turn k at_ 0 n1 hB (by omega)).mono ?_
  rintro e w' ⟨r, P', rfl, h1, h2, h3, h4⟩
  exact ⟨r, P', rfl, h.turn hB h1 n2 h2 (by omega) (h4 rfl)⟩
theorem gi_clear (h : GI B w0 w b sv K P j) (hB : B ≤ w.heap.size) : Calls Try.prog 32 #[.pointer (some ⟨b, 0, none⟩)] w fun e w' => ∃ P', e = .returned (.tuple #[]) ∧ GI B w0 w' b sv K P' (j + 1) := by
  obtain ⟨M, n1, n2⟩ := h.net
  refine (ng_clear n1 hB).mono ?_
  rintro e w' ⟨rfl, h1, h2⟩
  exact ⟨[], rfl, h.turn hB h1 n2 h2 (Nat.zero_le _) (fun p hp => by cases hp)⟩
theorem gi_take (k : Int) (h : GI B w0 w b sv K P j) (hB : B ≤ w.heap.size) (hj : (j + 1) * 32 ≤ 168884986026393) : Calls Try.prog 26 #[.pointer (some ⟨b, 0, none⟩), .int .i64 k] w fun e w' => ∃ (x : Ap) (r : Int) (P' : List Pk), e = .returned (.tuple #[x.val, .int .i64 r]) ∧ (r = 0 → wasB K x = true) ∧ x.In w' ∧ GI B w0 w' b sv K P' (j + 1) := by
  obtain ⟨M, n1, n2⟩ := h.net
  have hp := h.pl
  refine (ng_take k n1 hB (by omega)).mono ?_
  rintro e w' ⟨x, r, P', rfl, hr, hx, hs, h1, h2, h3, h4⟩
  refine ⟨x, r, P', rfl, fun e => ?_, hx, h.turn hB h1 n2 h2 (by omega) h4⟩
  exact (wasB_iff K x).2 (h.sub x.pk (hr e))
/-- Send, ahead of the append. -/
structure GS (B : Nat) (w0 w : World) (b : Nat) (sv : Value) (K : List Ap) (y : Ap) (P : List Pk) (j : Nat) : Prop where
  net : ∃ M, NG (fun k => stA sv K k ∨ ∃ z, y.a = some z ∧ z.block = k) B w b P (j + 1) M ∧ ∀ t s, M t s ≠ 0 ↔ ∃ x ∈ K ++ [y], x.t = t ∧ x.s = s
  st : ST B w sv K
  pl : P.length ≤ j + 1
  kl : K.length ≤ j
  sub : ∀ p ∈ P, ∃ x ∈ K ++ [y], x.t = p.t ∧ x.s = p.s
  bel : Below B w0 w
  tw : ∀ x ∈ K ++ [y], adr 3 2 x.t = true
  yin : y.In w
  ys : y.s.length ≤ 32768
  yb : ∀ z, y.a = some z → B ≤ z.block ∧ z.block < w.heap.size ∧ sv.ownBlock ≠ some z.block
theorem GS.step {y : Ap} (h : GS B w0 w b sv K y P j) (hb : Below w.heap.size w w') (hB : B ≤ w.heap.size) : GS B w0 w' b sv K y P j := by
  obtain ⟨M, n1, n2⟩ := h.net
  exact ⟨⟨M, n1.step hb, n2⟩, h.st.later hb, h.pl, h.kl, h.sub, h.bel.trans (hb.mono hB), h.tw, SlY.later h.yin hb, h.ys, fun z hz => ⟨(h.yb z hz).1, Nat.lt_of_lt_of_le (h.yb z hz).2.1 hb.size, (h.yb z hz).2.2⟩⟩
/-- y is new since w: its bytes lie in blocks that neither the net nor what was sent has. -/
theorem gi_send {w1 : World} (X : Nat → Prop) (hX : ∀ k, X k → w.heap.size ≤ k ∧ k < w1.heap.size) (y : Ap) (h : GI B w0 w b sv K P j) (hB : B ≤ w.heap.size) (hb : Below w.heap.size w w1) (hy : y.In w1) (hs : y.s.length ≤ 32768) (hf : adr 3 2 y.f = true) (ht : adr 3 2 y.t = true) (hyb : ∀ z, y.a = some z → w.heap.size ≤ z.block ∧ z.block < w1.heap.size) (hj : (j + 1) * 32 ≤ 168884986026393) :
    Calls Try.prog 25 #[.pointer (some ⟨b, 0, none⟩), y.val] w1 fun e w' => e = .returned (.int .i64 0) ∧ GS B w0 w' b sv K y (P ++ [y.pk]) j ∧ Upd (fun k => ¬ X k) w1 w' := by
  obtain ⟨M, n1, n2⟩ := h.net
  have hp := h.pl
  have hsz := hb.size
  have hyn : ∀ z, y.a = some z → sv.ownBlock ≠ some z.block := fun z hz e => by
    have h1 := (h.st.own.blk _ e).2
    have h2 := (hyb z hz).1
    omega
  have n3 : NG (fun k => (stA sv K k ∨ ∃ z, y.a = some z ∧ z.block = k) ∨ X k) B w1 b P j M := n1.later hb (fun k hk => by
    rcases hk with (hk | ⟨z, e1, e2⟩) | hk
    · exact .inl hk
    · subst e2; exact .inr (hyb z e1)
    · exact .inr (hX k hk))
  refine (ng_send y n3 (by omega) hy hs hf ht (by omega) (by omega)).mono ?_
  rintro e w' ⟨rfl, ⟨M', k1, k2⟩, u⟩
  have hst := (h.st.later hb).upd u (fun k hk hh => hk.2 (.inl (.inl hh)))
  refine ⟨rfl, ⟨⟨M', k1.later (Below.refl _ _) (fun k hk => .inl (.inl hk)), fun t s => ?_⟩, hst, by rw [List.length_append]; show P.length + 1 ≤ j + 1; omega, h.kl, fun p hp => ?_, (h.bel.trans (hb.mono hB)).trans (Upd.below u (by omega) (fun k hk => hk.1)), fun x hx => ?_, SlY.upd hy u (fun z hz _ hk => hk.2 (.inl (.inr ⟨z, hz, rfl⟩))), hs, fun z hz => ⟨by have := hyb z hz; omega, Nat.lt_of_lt_of_le (hyb z hz).2 u.size, hyn z hz⟩⟩, u.mono (fun k _ hk hx => hk.2 (.inr hx))⟩
  · rw [k2, n2]
    constructor
    · rintro (⟨x, h1, h2⟩ | ⟨rfl, rfl⟩)
      · exact ⟨x, List.mem_append_left _ h1, h2⟩
      · exact ⟨y, by simp, rfl, rfl⟩
    · rintro ⟨x, h1, h2, h3⟩
      rcases List.mem_append.1 h1 with h1 | h1
      · exact .inl ⟨x, h1, h2, h3⟩
      · obtain rfl := List.mem_singleton.1 h1
        exact .inr ⟨h2.symm, h3.symm⟩
  · rcases List.mem_append.1 hp with hp | hp
    · obtain ⟨x, h1, h2⟩ := h.sub p hp
      exact ⟨x, List.mem_append_left _ h1, h2⟩
    · obtain rfl := List.mem_singleton.1 hp
      exact ⟨y, by simp, rfl, rfl⟩
  · rcases List.mem_append.1 hx with hx | hx
    · exact h.tw x hx
    · obtain rfl := List.mem_singleton.1 hx
      exact ht
theorem GS.app {y : Ap} {v' : Value} (h : GS B w0 w b sv K y P j) (hB : B ≤ w.heap.size) (o : OwnY yA B w' v' (K ++ [y])) (g : w.grownBy w' sv.ownBlock) (n : v'.ownBlock = sv.ownBlock ∨ ∃ k, v'.ownBlock = some k ∧ w.heap.size ≤ k) : GI B w0 w' b v' (K ++ [y]) P (j + 1) := by
  obtain ⟨M, n1, n2⟩ := h.net
  have u : Upd (fun k => sv.ownBlock = some k) w w' := gupd g (fun k e => e)
  have hkl := h.kl
  refine ⟨⟨M, n1.app u (fun k hk => .inl (.inl hk)) (fun k hk => ?_), n2⟩, h.st.app h.yin h.ys h.yb o g n, h.pl, by rw [List.length_append]; show K.length + 1 ≤ j + 1; omega, h.sub, h.bel.trans (Upd.below u hB (fun k hk => (h.st.own.blk k hk).1)), h.tw⟩
  rcases hk with hk | ⟨x, hx, z, h1, h2⟩
  · rcases n with e | ⟨k', e, e2⟩
    · exact .inl (.inl (.inl (e ▸ hk)))
    · exact .inr ⟨by rw [e] at hk; cases hk; exact e2, (o.blk k hk).2⟩
  · rcases List.mem_append.1 hx with hx | hx
    · exact .inl (.inl (.inr ⟨x, hx, z, h1, h2⟩))
    · obtain rfl := List.mem_singleton.1 hx
      exact .inl (.inr ⟨z, h1, h2⟩)
theorem gi_genuine (x : Ap) (h : GI B w0 w b sv K P j) (hx : x.In w) (ht : adr 3 2 x.t = true) : Calls Try.prog 22 #[.pointer (some ⟨b, 0, none⟩), x.val] w fun e w' => e = .returned (.bool (wasB K x)) ∧ Below w.heap.size w w' := by
  obtain ⟨M, n1, n2⟩ := h.net
  obtain ⟨pv, rv, mb, n, R, h1, _⟩ := n1.ex
  obtain ⟨i, hi, hl⟩ := adr_lt ht (by omega) (by omega)
  have := genuine_any x h1 hx (wf_i64 (by omega))
  have e : (!decide ((M x.t x.s : Int) = 0)) = wasB K x := by
    rw [Bool.eq_iff_iff, wasB_iff, ← n2 x.t x.s]
    simp
  rw [e] at this
  exact this
theorem gi_len (h : GI B w0 w b sv K P j) : Calls Try.prog 34 #[.pointer (some ⟨b, 0, none⟩)] w fun e w' => e = .returned (.int .i64 (P.length : Int)) ∧ w' = w := by
  obtain ⟨M, n1, n2⟩ := h.net
  obtain ⟨pv, rv, mb, n, R, h1, _⟩ := n1.ex
  exact len14_any h1
theorem gi_pool (h : GI B w0 w b sv K P j) (hB : B ≤ w.heap.size) (hl : (P.length + 1) * 40 ≤ 140737488355328) : Calls Try.prog 33 #[.pointer (some ⟨b, 0, none⟩)] w fun e w' => ∃ va vc L, e = .returned (.slice va P.length vc) ∧ SlY yA w' va P.length vc L ∧ (∀ x ∈ L, x.In w') ∧ L.map Ap.pk = P ∧ GI B w0 w' b sv K P j ∧ Below w.heap.size w w' := by
  obtain ⟨M, n1, n2⟩ := h.net
  obtain ⟨pv, rv, mb, n, R, h1, _⟩ := n1.ex
  refine (pool_any b P R.length 0 w ⟨pv, rv, mb, n, R, M, h1, Nat.zero_le _, Nat.zero_le _, fun _ _ => Nat.zero_le _, fun _ _ => Nat.zero_le _, Nat.le_refl _⟩ hl).mono ?_
  rintro e w' ⟨v', K', rfl, O, hb⟩
  obtain ⟨va, vc, e1, hs, _⟩ := O.own.sl kA
  have hlen := O.lf.len
  rw [hlen] at e1 hs
  exact ⟨va, vc, K', by rw [e1], hs, fun x hx => (O.out x hx).sl, O.pk, h.step hb hB, hb⟩
theorem gi_was (x : Ap) {va : Option Addr} {vc n : Nat} (h : GI B w0 w b (.slice va n vc) K P j) (hn : K.length = n) (hx : x.In w) : Calls Try.prog 27 #[.slice va n vc, x.val] w fun e w' => e = .returned (.bool (wasB K x)) ∧ Below w.heap.size w w' := by
  subst hn
  exact was_any K va vc x w (OwnY.sl' kA h.st.own) (fun z hz => (h.st.inn z hz).1) hx
theorem gi_start {mb : Nat} {w1 : World} (h1 : Net w1 b 3 2 (.slice none 0 0) (.slice none 0 0) mb 0 [] [] (fun _ _ => 0)) (h2 : B ≤ b) (h3 : B ≤ mb) (h4 : Below B w0 w1) : GI B w0 w1 b (.slice none 0 0) [] [] 0 := by
  refine ⟨⟨_, ⟨_, _, mb, 0, [], h1, h2, h3, (fun g hg => by cases hg), (fun g hg => by cases hg), Nat.le_refl _, fun j hj => ?_⟩, fun t s => ⟨fun e => absurd rfl e, ?_⟩⟩, ⟨OwnY.nil _ _ _, (fun x hx => by cases hx), (fun x hx => by cases hx)⟩, Nat.le_refl _, Nat.le_refl _, (fun p hp => by cases hp), h4, (fun x hx => by cases hx)⟩
  · rcases hj with e | ⟨x, hx, _⟩
    · cases e
    · cases hx
  · rintro ⟨x, hx, _⟩
    cases hx
theorem ng_inject (y : Ap) (h : NG A B w b P rl M) (hB : B ≤ w.heap.size) (hy : y.In w) (hs : y.s.length ≤ 32768) (ht : adr 3 2 y.t = true) (hl : (P.length + 1) * 32 ≤ 168884986026393) :
    Calls Try.prog 35 #[.pointer (some ⟨b, 0, none⟩), y.val] w fun e w' => e = .returned (.int .i64 0) ∧ NG A B w' b (P ++ [y.pk]) rl M ∧ UN A B w w' := by
  obtain ⟨pv, rv, mb, n, R, h1, h2, h3, h4, h5, h6, h7⟩ := h.ex
  obtain ⟨j, htj, hj⟩ := adr_lt ht (by omega) (by omega)
  refine (inject_ok y h1 hy (wf_i64 (by omega)) ht hs hl).mono ?_
  rintro e w' ⟨rfl, pv', N, U, n'⟩
  obtain ⟨a1, a2⟩ := ng_next h1 h2 h3 h4 h5 h6 h7 N U (n'.imp id .inr) hB
  exact ⟨rfl, a1, a2⟩
/-- The end of the law of Genuine. -/
structure GE (B : Nat) (w0 w : World) (b : Nat) (K : List Ap) (P : List Pk) (j : Nat) : Prop where
  net : ∃ M, NG (fun _ => False) B w b P j M ∧ ∀ t s, M t s ≠ 0 ↔ ∃ x ∈ K, x.t = t ∧ x.s = s
  bel : Below B w0 w
theorem GE.step (h : GE B w0 w b K P j) (hb : Below w.heap.size w w') (hB : B ≤ w.heap.size) : GE B w0 w' b K P j := by
  obtain ⟨M, n1, n2⟩ := h.net
  exact ⟨⟨M, n1.step hb, n2⟩, h.bel.trans (hb.mono hB)⟩
theorem gi_inject {w1 : World} (X : Nat → Prop) (hX : ∀ k, X k → w.heap.size ≤ k ∧ k < w1.heap.size) (y : Ap) (h : GI B w0 w b sv K P j) (hB : B ≤ w.heap.size) (hb : Below w.heap.size w w1) (hy : y.In w1) (hs : y.s.length ≤ 32768) (ht : adr 3 2 y.t = true) (hyb : ∀ z, y.a = some z → w.heap.size ≤ z.block ∧ z.block < w1.heap.size) (hj : (j + 1) * 32 ≤ 168884986026393) :
    Calls Try.prog 35 #[.pointer (some ⟨b, 0, none⟩), y.val] w1 fun e w' => e = .returned (.int .i64 0) ∧ GE B w0 w' b K (P ++ [y.pk]) j ∧ Upd (fun k => ¬ X k) w1 w' ∧ y.In w' := by
  obtain ⟨M, n1, n2⟩ := h.net
  have hp := h.pl
  have hsz := hb.size
  have n3 : NG (fun k => (∃ z, y.a = some z ∧ z.block = k) ∨ X k) B w1 b P j M := n1.later hb (fun k hk => by
    rcases hk with ⟨z, e1, e2⟩ | hk
    · subst e2; exact .inr (hyb z e1)
    · exact .inr (hX k hk))
  refine (ng_inject y n3 (by omega) hy hs ht (by omega)).mono ?_
  rintro e w' ⟨rfl, k1, u⟩
  exact ⟨rfl, ⟨⟨M, k1.later (Below.refl _ _) (fun k hk => hk.elim), n2⟩, (h.bel.trans (hb.mono hB)).trans (Upd.below u (by omega) (fun k hk => hk.1))⟩, u.mono (fun k _ hk hx => hk.2 (.inr hx)), SlY.upd hy u (fun z hz _ hk => hk.2 (.inl ⟨z, hz, rfl⟩))⟩
theorem ge_at (k : Nat) (p : Pk) (h : GE B w0 w b K P j) (hB : B ≤ w.heap.size) (hk : P[k]? = some p) : Calls Try.prog 18 #[.pointer (some ⟨b, 0, none⟩), .int .i64 (k : Int)] w fun e w' => ∃ x : Ap, e = .returned (.tuple #[x.val, .int .i64 0]) ∧ x.pk = p ∧ x.In w' ∧ GE B w0 w' b K P j ∧ Below w.heap.size w w' := by
  obtain ⟨M, n1, n2⟩ := h.net
  obtain ⟨pv, rv, mb, n, R, h1, _⟩ := n1.ex
  refine (at_ok k p h1 hk).mono ?_
  rintro e w' ⟨x, rfl, h2, h3, h4⟩
  exact ⟨x, rfl, h2, h3.sl, h.step h4 hB, h4⟩
theorem ge_genuine (x : Ap) (h : GE B w0 w b K P j) (hx : x.In w) (ht : adr 3 2 x.t = true) : Calls Try.prog 22 #[.pointer (some ⟨b, 0, none⟩), x.val] w fun e w' => e = .returned (.bool (wasB K x)) ∧ Below w.heap.size w w' := by
  obtain ⟨M, n1, n2⟩ := h.net
  obtain ⟨pv, rv, mb, n, R, h1, _⟩ := n1.ex
  obtain ⟨i, hi, hl⟩ := adr_lt ht (by omega) (by omega)
  have := genuine_any x h1 hx (wf_i64 (by omega))
  have e : (!decide ((M x.t x.s : Int) = 0)) = wasB K x := by
    rw [Bool.eq_iff_iff, wasB_iff, ← n2 x.t x.s]
    simp
  rw [e] at this
  exact this
theorem ge_len (h : GE B w0 w b K P j) : Calls Try.prog 34 #[.pointer (some ⟨b, 0, none⟩)] w fun e w' => e = .returned (.int .i64 (P.length : Int)) ∧ w' = w := by
  obtain ⟨M, n1, n2⟩ := h.net
  obtain ⟨pv, rv, mb, n, R, h1, _⟩ := n1.ex
  exact len14_any h1

end Go.Proofs.Ytegfbebhgihcaaa
