import Derived.Sort.CutIn
import Derived.Test.YtjpkdnndhjnkpaaF5
set_option maxRecDepth 100000
set_option linter.unusedVariables false
set_option linter.unusedSimpArgs false
namespace Go.Proofs.Ytjpkdnndhjnkpaa
open Go.RowKit Go.Maps Go.Shelf
open Classical
structure FZ7 (w v : World) (q3 q4 g6 kE b : Nat) (stop : Int) (wa pa : Option Addr) (n wc pc : Nat) (K : List Ap) (P : List Pk) : Prop where
  c3 : v.cell? ⟨q3, 0, none⟩ = some (.int .i64 stop)
  c6 : v.cell? ⟨g6, 0, none⟩ = some (.slice wa n wc)
  r4 : v.cell? ⟨q4, 0, none⟩ = some (.bool false)
  f4 : v.frozen? ⟨q4, 0, none⟩ = false
  was : SlY yA v wa n wc K
  ins : ∀ x ∈ K, x.In v
  pool : SlY yP v pa P.length pc P
  ck : v.cell? ⟨kE, 0, none⟩ = some (.slice pa P.length pc)
  net : NF v b 0
  bel : Below w.heap.size w v
theorem FZ7.on {w v v' : World} {q3 q4 g6 kE b : Nat} {stop : Int} {wa pa : Option Addr} {n wc pc : Nat} {K : List Ap} {P : List Pk} (h : FZ7 w v q3 q4 g6 kE b stop wa pa n wc pc K P) (hb : Below v.heap.size v v') : FZ7 w v' q3 q4 g6 kE b stop wa pa n wc pc K P :=
  ⟨cellB7 h.c3 hb, cellB7 h.c6 hb, cellB7 h.r4 hb, (hb.frozen (p := ⟨q4, 0, none⟩) (World.block_lt_of_cell? _ _ h.r4)).trans h.f4, h.was.later hb, fun x hx => SlY.later (h.ins x hx) hb, h.pool.later hb, cellB7 h.ck hb, h.net.step hb, h.bel.trans (hb.mono h.bel.size)⟩
theorem FZ7.make {w w4 w6 wr w8 v : World} {q3 q4 g6 gc B3 b : Nat} {stop : Int} {wa : Option Addr} {n wc : Nat} {K : List Ap} {P : List Pk} {pv rv : Value} {mb nm : Nat} {R : List Pk} {M : Int → List UInt8 → Nat}
    (h3 : w6.cell? ⟨q3, 0, none⟩ = some (.int .i64 stop)) (hq3 : q3 < q4) (hs : CS q4 g6 gc b wa wc K P wr) (hn : P.length = n) (uj : Upd (fun k => k = gc) w6 wr) (bw : Below w.heap.size w w6) (hgw : w.heap.size ≤ gc) (b46 : Below w4.heap.size w4 w6) (hg4 : w4.heap.size ≤ g6)
    (ho : ∀ x ∈ K, x.Out B3 w4) (hbl : ∀ x, wa = some x → K ≠ [] → B3 ≤ x.block) (hB3 : b < B3) (hbq : q4 < b) (hwb : w.heap.size ≤ b) (hB4 : B3 ≤ w4.heap.size)
    (h1 : Net wr b 3 2 pv rv mb nm P R M) (b8 : Below wr.heap.size wr w8) (c8 : w8.cell? ⟨wr.heap.size, 0, none⟩ = some pv) (u : Upd (fun k => k = b) w8 v) (hnf : NF v b 0) :
    ∃ pa pc, FZ7 w v q3 q4 g6 wr.heap.size b stop wa pa n wc pc K P := by
  have lc := hs.lc
  have l4 := hs.l4
  have l6 := hs.l6
  have hbw := h1.lt
  have ub : Upd (fun k => k = b) wr v := (Upd.of_below b8).trans u
  have c3r : wr.cell? ⟨q3, 0, none⟩ = some (.int .i64 stop) := (uj.cell (p := ⟨q3, 0, none⟩) (World.block_lt_of_cell? _ _ h3) (by show ¬ q3 = gc; omega)).trans h3
  have on : ∀ {p : Addr} {x : Value}, wr.cell? p = some x → p.block ≠ b → v.cell? p = some x := fun h hp => (ub.cell (World.block_lt_of_cell? _ _ h) hp).trans h
  obtain ⟨pa, pc, rfl, hpl⟩ := (h1.pl.upd ub (fun k hk e => h1.pne (e ▸ hk))).sl
  refine ⟨pa, pc, on c3r (by show q3 ≠ b; omega), ?_, on hs.r4 (by show q4 ≠ b; omega), (ub.frozen (p := ⟨q4, 0, none⟩) (World.block_lt_of_cell? _ _ hs.r4) (by show ¬ q4 = b; omega)).trans hs.f4, ?_, ?_, hpl, ?_, hnf, ?_⟩
  · have := on hs.c6 (by show g6 ≠ b; omega)
    rw [hn] at this
    exact this
  · have := hs.was.upd ub (fun x hx hne => by have := hbl x hx hne; omega)
    rw [hn] at this
    exact this
  · intro x hx
    have h2 := (ho x hx).upd8 (S := fun k => k = gc) ((Upd.of_below b46).trans uj) (fun k hk hl => by omega)
    exact (h2.upd8 ub (fun k hk hl => by omega)).sl
  · exact (u.cell (p := ⟨wr.heap.size, 0, none⟩) (World.block_lt_of_cell? _ _ c8) (by show ¬ wr.heap.size = b; omega)).trans c8
  · have h2 := bw.trans (uj.below bw.size (fun k hk => by omega))
    exact h2.trans (ub.below h2.size (fun k hk => by omega))
structure TI7 (w8 : World) (t pt : Nat) (rs : List Nat) (ds : List Deferred) (W : World) : Prop where
  le : t ≤ 2
  pl : w8.heap.size ≤ pt
  cell : W.cell? ⟨pt, 0, none⟩ = some (.int .i64 (t : Int))
  fz : W.frozen? ⟨pt, 0, none⟩ = false
  bel : Below w8.heap.size w8 W
  marks : Marks W rs ds
  low : ∀ r, r ∈ rs → w8.heap.size ≤ r
def tm7 (a : Act) (W : World) : Nat := match a.tmps.getD 14 undef with
  | .pointer (some p) => 2 - (intOf ((W.cell? p).getD undef)).toNat
  | _ => 0
theorem tm7_eq {T : Array Value} {ds : List Deferred} {W : World} {pt t : Nat} (h : T[14]? = some (gw true (.pointer (some ⟨pt, 0, none⟩)))) (hc : W.cell? ⟨pt, 0, none⟩ = some (.int .i64 (t : Int))) : tm7 ⟨T, ds⟩ W = 2 - t := by
  have e : T.getD 14 undef = .pointer (some ⟨pt, 0, none⟩) := getD_of h
  simp [tm7, e, hc, intOf]
theorem wpIn_loop_k7 {F : Fence} {n : Nat} {P : Program} {Q : Exit → Act → World → Prop} {a : Act} {w : World} {c : Code} (I : Act → World → Prop) (m : Act → World → Nat) (h0 : I a w)
    (round : ∀ a w, I a w → ∀ K : Act → World → Prop, Hid (∀ a' w', I a' w' → m a' w' < m a w → K a' w') → c.wpIn F n P (Exit.then K Q) a w) : (Code.loop c).wpIn F n P Q a w :=
  wpIn_loop I m h0 fun a w h => round a w h _ (hide (fun _ _ h1 h2 => ⟨h1, h2⟩))
structure EI7 (wR : World) (pn i : Nat) (V : World) : Prop where
  upd : Upd (· = pn) wR V
  cell : V.cell? ⟨pn, 0, none⟩ = some (.int .i64 (i : Int))
  fz : V.frozen? ⟨pn, 0, none⟩ = false
theorem EI7.row {wR V V' : World} {pn i : Nat} {row : Option Nat} (h : EI7 wR pn i V) (hg : V.grownBy V' row) (hr : ∀ r, row = some r → r ≠ pn ∧ wR.heap.size ≤ r) : EI7 wR pn i V' :=
  ⟨h.upd.grownBy hg (fun k e hk => by have := (hr k e).2; omega), gcell hg h.cell (fun e => (hr _ e).1 rfl), gfroz hg (World.block_lt_of_cell? _ _ h.cell) h.fz (fun e => (hr _ e).1 rfl)⟩
theorem EI7.set {wR V : World} {pn i : Nat} (h : EI7 wR pn i V) {v : Int} (hv : v = ((i + 1 : Nat) : Int)) : EI7 wR pn (i + 1) (V.setCell ⟨pn, 0, none⟩ (.int .i64 v)) :=
  ⟨h.upd.setCell (p := ⟨pn, 0, none⟩) (.inl rfl) _, by rw [hv]; exact setc_eq h.cell, setf h.fz⟩
theorem EI7.on {wR V U : World} {pn i : Nat} (h : EI7 wR pn i V) (hb : Below V.heap.size V U) : EI7 wR pn i U :=
  ⟨h.upd.trans (Upd.of_below hb), cellB7 h.cell hb, (hb.frozen (p := ⟨pn, 0, none⟩) (World.block_lt_of_cell? _ _ h.cell)).trans h.fz⟩
theorem gen7 {c : Code} {F : Fence} {n : Nat} {Q : Exit → Act → World → Prop} {T0 : Array Value} {df : List Deferred} {w : World} (Pr : Array Value → Prop) (h0 : Pr T0) (hk : ∀ T, Pr T → c.wpIn F n Try.prog Q ⟨T, df⟩ w) : c.wpIn F n Try.prog Q ⟨T0, df⟩ w := hk T0 h0
theorem two7 {T : Array Value} {p q n : Nat} {x y : Value} (hz : T.size = n) (hp : p < n) (hq : q < n) (hpq : p ≠ q) : ((T.setIfInBounds p x).setIfInBounds q y).size = n ∧ ((T.setIfInBounds p x).setIfInBounds q y)[p]? = some (gw true x) ∧ ((T.setIfInBounds p x).setIfInBounds q y)[q]? = some (gw true y) ∧ ∀ i, i ≠ p → i ≠ q → ((T.setIfInBounds p x).setIfInBounds q y)[i]? = T[i]? := by
  refine ⟨by simp [hz], ?_, ?_, ?_⟩
  · rw [at_set_ne _ hpq, at_set _ (by omega)]
    rfl
  · rw [at_set _ (by simp; omega)]
    rfl
  · intro i h1 h2
    rw [at_set_ne _ h2, at_set_ne _ h1]
theorem fold7 (T : Array Value) (p q : Tmp) (x y : Value) : ((#[p, q] : Array Tmp).zip #[x, y]).foldl (fun t (p, v) => t.setIfInBounds p v) T = (T.setIfInBounds p x).setIfInBounds q y := by simp
theorem gene7 {c : Code} {F : Fence} {n : Nat} {Q : Exit → Act → World → Prop} {T0 T1 : Array Value} {df : List Deferred} {w : World} (e : T0 = T1) (h : c.wpIn F n Try.prog Q ⟨T1, df⟩ w) : c.wpIn F n Try.prog Q ⟨T0, df⟩ w := e ▸ h
theorem upd_of_grown7 {w w' : World} {l : Nat} (h : w.grownBy w' (some l)) : Upd (fun k => k = l) w w' := (Upd.refl _ w).grownBy h (fun k e _ => by cases e; rfl)
theorem was_at7 {w : World} {wa : Option Addr} {n wc i : Nat} {K : List Ap} (h : SlY yA w wa n wc K) (hi : i < n) : ∃ q o u, wa = some ⟨q, o, none⟩ ∧ K[i]? = some u ∧ C3 w q (o + i * 3) u := by
  have hl := h.len
  obtain ⟨u, hu⟩ : ∃ u, K[i]? = some u := ⟨_, List.getElem?_eq_getElem (by omega)⟩
  obtain ⟨q, o, rfl, hq, hlie⟩ := h.place (by rintro rfl; simp at hu)
  exact ⟨q, o, u, rfl, hu, hq, hlie _ _ hu 0 _ rfl, hlie _ _ hu 1 _ rfl, hlie _ _ hu 2 _ rfl⟩
end Go.Proofs.Ytjpkdnndhjnkpaa
