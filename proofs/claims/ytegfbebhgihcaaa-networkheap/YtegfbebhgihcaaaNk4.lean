import Derived.Test.YtegfbebhgihcaaaNk3
namespace Go.Proofs.Ytegfbebhgihcaaa
open Go.RowKit Go.Maps
set_option linter.unusedVariables false
set_option linter.unusedSimpArgs false

/-- The map of what was sent: of each mail the bits of who has sent it. -/
def MapN (w : World) (b n : Nat) (M : Int → List UInt8 → Nat) : Prop := ∃ f, MapK w b n f ∧ ∀ t s, (f t s).getD 0 = (M t s : Int) ∧ M t s < 4294967296
theorem MapN.lt {w : World} {b n : Nat} {M : Int → List UInt8 → Nat} (h : MapN w b n M) : b < w.heap.size := by obtain ⟨f, h1, _⟩ := h; exact h1.lt
theorem MapN.upd {S : Nat → Prop} {w w' : World} {b n : Nat} {M : Int → List UInt8 → Nat} (h : MapN w b n M) (u : Upd S w w') (hs : ¬ S b) : MapN w' b n M := by
  obtain ⟨f, h1, h2⟩ := h
  exact ⟨f, h1.upd u hs, h2⟩
theorem MapN.look {w : World} {b n : Nat} {M : Int → List UInt8 → Nat} (h : MapN w b n M) {t : Int} {s : List UInt8} (ht : (Lit.int .i64 t).wf = true) (hs : s.length ≤ maxLen) :
    (Instr.lookup 82 (.map (some b)) (kv t s) false).run Try.prog w = .ok (.int .u32 (M t s : Int)) w := by
  obtain ⟨f, h1, h2⟩ := h
  rw [h1.look ht hs, (h2 t s).1]
/-- A net at block b: its numbers, its pool, its record, which lives have sent what. -/
structure Net (w : World) (b : Nat) (nn cc : Int) (pv rv : Value) (mb n : Nat) (P R : List Pk) (M : Int → List UInt8 → Nat) : Prop where
  lt : b < w.heap.size
  c0 : w.cell? ⟨b, 0, none⟩ = some (.int .i64 nn)
  c1 : w.cell? ⟨b, 1, none⟩ = some (.int .i64 cc)
  c2 : w.cell? ⟨b, 2, none⟩ = some pv
  c3 : w.cell? ⟨b, 3, none⟩ = some rv
  c4 : w.cell? ⟨b, 4, none⟩ = some (.map (some mb))
  fr : ∀ i, w.frozen? ⟨b, i, none⟩ = false
  pl : Pl w pv P
  rc : OwnY yP 0 w rv R
  mp : MapN w mb n M
  hn : n ≤ R.length
  mne : mb ≠ b
  pne : pv.ownBlock ≠ some b
  rne : rv.ownBlock ≠ some b
  pm : pv.ownBlock ≠ some mb
  rm : rv.ownBlock ≠ some mb
  pr : ∀ g, pv.ownBlock = some g → rv.ownBlock ≠ some g
  plt : ∀ g, pv.ownBlock = some g → g < w.heap.size
  sp : ∀ p ∈ P, p.s.length ≤ 32768
  sr : ∀ p ∈ R, p.s.length ≤ 32768
variable {w w' : World} {b mb n : Nat} {nn cc : Int} {pv rv : Value} {P R : List Pk} {M : Int → List UInt8 → Nat}
theorem Net.upd {S : Nat → Prop} (h : Net w b nn cc pv rv mb n P R M) (u : Upd S w w') (hb : ¬ S b) (hm : ¬ S mb) (hp : ∀ k, pv.ownBlock = some k → ¬ S k) (hr : ∀ k, rv.ownBlock = some k → ¬ S k) : Net w' b nn cc pv rv mb n P R M :=
  ⟨Nat.lt_of_lt_of_le h.lt u.size, (u.cell h.lt hb).trans h.c0, (u.cell h.lt hb).trans h.c1, (u.cell h.lt hb).trans h.c2, (u.cell h.lt hb).trans h.c3, (u.cell h.lt hb).trans h.c4, fun i => (u.frozen (p := ⟨b, i, none⟩) h.lt hb).trans (h.fr i), h.pl.upd u hp, h.rc.upd1 u hr, h.mp.upd u hm, h.hn, h.mne, h.pne, h.rne, h.pm, h.rm, h.pr, fun g hg => Nat.lt_of_lt_of_le (h.plt g hg) u.size, h.sp, h.sr⟩
theorem Net.later (h : Net w b nn cc pv rv mb n P R M) (hb : Below w.heap.size w w') : Net w' b nn cc pv rv mb n P R M := h.upd (S := fun _ => False) (Upd.of_below hb) id id (fun _ _ => id) (fun _ _ => id)
/-- Is it an address? -/
def adr (nn cc a : Int) : Bool := (decide (0 ≤ a) && decide (a < nn)) || (decide (7 ≤ a) && decide (a - 7 < cc))
set_option maxRecDepth 100000 in
theorem isAddress_any (a : Int) (h : Net w b nn cc pv rv mb n P R M) (ha : (Lit.int .i64 a).wf = true) : Calls Try.prog 75 #[.pointer (some ⟨b, 0, none⟩), .int .i64 a] w fun e w' => e = .returned (.bool (adr nn cc a)) ∧ w' = w := by
  have h0 := h.c0
  have h1 := h.c1
  have hw := i64_wf ha
  clear h
  unfold adr
  cases e1 : (decide (0 ≤ a) && decide (a < nn)) with
  | true =>
    have HC := hide (isWithin_any a nn w)
    rw [e1] at HC
    go_enter Try.func75, Try.ntmps75
    go_wp2_with fail
    refine HC.out.mono ?_
    rintro e w1 ⟨rfl, rfl⟩
    go_wp2
    go_ret
    exact ⟨rfl, rfl⟩
  | false =>
    have HC := hide (isWithin_any a nn w)
    rw [e1] at HC
    by_cases h7 : 7 ≤ a
    · have e7 : decide (7 ≤ a) = true := decide_eq_true h7
      have hwr : IntKind.i64.wrap (a - 7) = a - 7 := by rw [IntKind.wrap_i64]; omega
      clear e1
      go_enter Try.func75, Try.ntmps75
      go_wp2_with fail
      refine HC.out.mono ?_
      rintro e w1 ⟨rfl, rfl⟩
      go_wp2
      go_ret
      exact ⟨by simp [h7], rfl⟩
    · have e7 : decide (7 ≤ a) = false := decide_eq_false h7
      clear e1
      go_enter Try.func75, Try.ntmps75
      go_wp2_with fail
      refine HC.out.mono ?_
      rintro e w1 ⟨rfl, rfl⟩
      go_wp2
      go_ret
      exact ⟨by simp; omega, rfl⟩
/-- Append at an operation of a region that draws its order. -/
theorem stepPl {ops : Array Oper} {o : Oper} {a : Act} {w : World} {K' : Act → World → Prop} {Q : Exit → Act → World → Prop} {E : Prop} (hg : o.guard = none) (s x : Operand)
    (ho : o.op = .call { callee := .builtin .append, args := #[s, x], argTypes := #[81, 81] }) (v : Value) (hs : a.eval s = v) (ad : Option Addr) (m c : Nat) (hx : a.eval x = .slice ad m c) (P news : List Pk) (hP : Pl w v P) (hh : SlY yP w ad m c news) (hb : (P.length + m) * 32 ≤ 168884986026393)
    (hk : ∀ v' w', Pl w' v' (P ++ news) → w.grownBy w' v.ownBlock → (v'.ownBlock = v.ownBlock ∨ ∃ k, v'.ownBlock = some k ∧ w.heap.size ≤ k) → K' (a.put o.dst v') w') :
    if Region.wanted o (yielded ops a.tmps) = true then Oper.wp Try.prog o a w K' Q else E := by
  have hw : Region.wanted o (yielded ops a.tmps) = true := by simp [Region.wanted, hg]
  rw [if_pos hw]
  obtain ⟨v', w', hr, h2, h3, h4⟩ := run_appPl w o.type v P hP ad m c news hh hb
  unfold Oper.wp execOp
  simp only [ho, resolve, invoke, builtin, Sem.run_bind, Sem.run_pure, Result.andThen_ok, List.map_toArray, List.map_cons, List.map_nil, hs, hx, hr]
  exact hk v' w' h2 h3 h4
/-- One packet in a new block, as a slice. -/
theorem one_pk (w : World) (p : Pk) : SlY yP (w.alloc (.cells #[.int .i64 p.t, .string (bst p.s), .int .i64 p.f] 105)) (some ⟨w.heap.size, 0, none⟩) 1 1 [p] :=
  ⟨rfl, Nat.le_refl _, by unfold maxLen; omega, (fun e => by cases e), fun x hx => .inr ⟨w.heap.size, 0, by cases hx; rfl, by simp, fun i y hy j u hu => by
    match i, hy with
    | 0, hy =>
      simp at hy
      subst hy
      have hj : j < 3 := (List.getElem?_eq_some_iff.1 hu).1
      match j, hj with
      | 0, _ => simp [yP] at hu; subst hu; simp
      | 1, _ => simp [yP] at hu; subst hu; simp
      | 2, _ => simp [yP] at hu; subst hu; simp
    | i + 1, hy => simp at hy⟩⟩
/-- Another pool. -/
theorem Net.setPool {w3 : World} {pv' : Value} {P' : List Pk} (h : Net w b nn cc pv rv mb n P R M) (u : Upd (fun k => pv.ownBlock = some k) w w3) (hP : Pl w3 pv' P') (hnew : pv'.ownBlock = pv.ownBlock ∨ pv'.ownBlock = none ∨ ∃ k, pv'.ownBlock = some k ∧ w.heap.size ≤ k) (hlt : ∀ g, pv'.ownBlock = some g → g < w3.heap.size) (hs : ∀ p ∈ P', p.s.length ≤ 32768) :
    Net (w3.setCell ⟨b, 2, none⟩ pv') b nn cc pv' rv mb n P' R M ∧ Upd (fun k => k = b ∨ pv.ownBlock = some k) w (w3.setCell ⟨b, 2, none⟩ pv') := by
  have hb3 : b < w3.heap.size := Nat.lt_of_lt_of_le h.lt u.size
  have nb : ¬ pv.ownBlock = some b := h.pne
  have nm : ¬ pv.ownBlock = some mb := h.pm
  have k2 := (u.cell (p := ⟨b, 2, none⟩) h.lt nb).trans h.c2
  have uo : Upd (fun k => k = b) w3 (w3.setCell ⟨b, 2, none⟩ pv') := (Upd.refl (fun k => k = b) w3).setCell (p := ⟨b, 2, none⟩) (.inl rfl) pv'
  have rl : ∀ g, rv.ownBlock = some g → g < w.heap.size := fun g hg => (h.rc.blk g hg).2
  have pne' : pv'.ownBlock ≠ some b := by
    rcases hnew with e | e | ⟨k, e, hk⟩
    · rw [e]; exact h.pne
    · rw [e]; simp
    · rw [e]; intro e2; have := h.lt; cases e2; omega
  have pm' : pv'.ownBlock ≠ some mb := by
    rcases hnew with e | e | ⟨k, e, hk⟩
    · rw [e]; exact h.pm
    · rw [e]; simp
    · rw [e]; intro e2; have := h.mp.lt; cases e2; omega
  have pr' : ∀ g, pv'.ownBlock = some g → rv.ownBlock ≠ some g := by
    intro g hg hr
    rcases hnew with e | e | ⟨k, e, hk⟩
    · exact h.pr g (e ▸ hg) hr
    · rw [e] at hg; cases hg
    · have := rl g hr; rw [e] at hg; cases hg; omega
  refine ⟨⟨by simpa using hb3, setc_ne ((u.cell (p := ⟨b, 0, none⟩) h.lt nb).trans h.c0) (by decide), setc_ne ((u.cell (p := ⟨b, 1, none⟩) h.lt nb).trans h.c1) (by decide), setc_eq k2, setc_ne ((u.cell (p := ⟨b, 3, none⟩) h.lt nb).trans h.c3) (by decide), setc_ne ((u.cell (p := ⟨b, 4, none⟩) h.lt nb).trans h.c4) (by decide), fun i => setf ((u.frozen (p := ⟨b, i, none⟩) h.lt nb).trans (h.fr i)), hP.upd uo (fun k hk e => pne' (e ▸ hk)), (h.rc.upd1 u (fun g hg hp => h.pr g hp hg)).upd1 uo (fun g hg e => h.rne (e ▸ hg)), (h.mp.upd u nm).upd uo h.mne, h.hn, h.mne, pne', h.rne, pm', h.rm, pr', fun g hg => by simpa using hlt g hg, hs, h.sr⟩, ?_⟩
  exact (u.mono (fun k _ hk => .inr hk)).setCell (p := ⟨b, 2, none⟩) (.inl (.inl rfl)) pv'
theorem Pl.lt {w : World} {v : Value} {P : List Pk} (h : Pl w v P) (hne : P ≠ []) : ∀ g, v.ownBlock = some g → g < w.heap.size := by
  intro g hg
  rcases h with h | ⟨x, rfl, h⟩
  · exact (h.blk g hg).2
  · rcases h.at_ x rfl with e | ⟨q, o, rfl, hq, _⟩
    · exact absurd e hne
    · cases hg; exact hq
set_option maxRecDepth 100000 in
set_option maxHeartbeats 1000000 in
theorem lay_any (p : Pk) (h : Net w b nn cc pv rv mb n P R M) (hs : p.s.length ≤ 32768) (hl : (P.length + 1) * 32 ≤ 168884986026393) : Calls Try.prog 78 #[.pointer (some ⟨b, 0, none⟩), p.val] w fun e w' => e = .returned (.tuple #[]) ∧ ∃ pv', Net w' b nn cc pv' rv mb n (P ++ [p]) R M ∧ Upd (fun k => k = b ∨ pv.ownBlock = some k) w w' ∧ (pv'.ownBlock = pv.ownBlock ∨ ∃ k, pv'.ownBlock = some k ∧ w.heap.size ≤ k) := by
  have HN := hide h
  have h2 := h.c2
  have hlt := h.lt
  have nb : ¬ b = w.heap.size := by omega
  have hfr := h.fr 2
  obtain ⟨a, c, hpv, hsl⟩ := h.pl.sl
  have HQ := hide h.pl
  clear h hsl
  unfold Pk.val
  subst hpv
  have y2 : ∀ o o', ((w.alloc o).alloc o').cell? ⟨b, 2, none⟩ = some (.slice a P.length c) := fun o o' => (World.cell?_alloc_past _ _ _ (by simp; omega)).trans ((World.cell?_alloc_past _ _ _ hlt).trans h2)
  have UA : ∀ o o', Hid (Below w.heap.size w ((w.alloc o).alloc o').drew) := fun o o' => (bel8 ((Below.refl _ _).alloc (Nat.le_refl _) o) (Nat.le_refl _) o').drew
  have SB : ∀ o, Hid (SlY yP ((w.alloc o).alloc (.cells #[.int .i64 p.t, .string (bst p.s), .int .i64 p.f] 105)).drew (some ⟨w.heap.size + 1, 0, none⟩) 1 1 [p]) := fun o => by
    have h1 := (one_pk (w.alloc o) p).later (Below.refl _ _).drew
    simp only [World.size_alloc] at h1
    exact h1
  go_enter Try.func78, Try.ntmps78
  go_wp2_with fail
  go_region_law (refine stepPl rfl (.tmp 8) (.tmp 10) rfl (.slice a P.length c) rfl (some ⟨w.heap.size + 1, 0, none⟩) 1 1 rfl P [p] (HQ.out.upd (Upd.of_below (UA _ _).out (S := fun _ => False)) (fun _ _ => id)) (SB _).out hl ?_; intro v1 w1 k1 g1 n1; have q2 := gcell g1 (y2 _ _) (fun e => HN.out.pne e); have qf := gfroz g1 (b := b) (i := 2) (by simp; omega) (((UA _ _).out.frozen (p := ⟨b, 2, none⟩) hlt).trans hfr) (fun e => HN.out.pne e); obtain ⟨va, vc, hv1, _⟩ := k1.sl; subst hv1)
  all_goals
    have hA := (UA (.cells #[.int .i64 p.t, .string (bst p.s), .int .i64 p.f] 105) (.cells #[.int .i64 p.t, .string (bst p.s), .int .i64 p.f] 105)).out
    have u1 : Upd (fun k => (Value.slice a P.length c).ownBlock = some k) w w1 := (Upd.of_below hA).trans (gupd g1 (fun k e => e))
    have n2 : (Value.slice va (P ++ [p]).length vc).ownBlock = (Value.slice a P.length c).ownBlock ∨ ∃ k, (Value.slice va (P ++ [p]).length vc).ownBlock = some k ∧ w.heap.size ≤ k := n1.imp id (fun ⟨k, e1, e2⟩ => ⟨k, e1, Nat.le_trans hA.size e2⟩)
    obtain ⟨N1, U1⟩ := HN.out.setPool u1 k1 (n2.imp id .inr) (k1.lt (by simp)) (fun q hq => by
      rcases List.mem_append.1 hq with hq | hq
      · exact HN.out.sp q hq
      · rw [List.mem_singleton.1 hq]; exact hs)
    rw [List.length_append] at N1 U1 n2
    simp only [List.length_cons, List.length_nil, Nat.zero_add] at N1 U1 n2
    have H1 := hide N1
    have H2 := hide U1
    have H3 := hide n2
    clear N1 U1 n2 u1 hA g1 k1 n1 q2 qf y2 UA SB h2 HQ HN
    go_wp2
    go_end0
    exact ⟨rfl, _, H1.out, H2.out, H3.out⟩

end Go.Proofs.Ytegfbebhgihcaaa
