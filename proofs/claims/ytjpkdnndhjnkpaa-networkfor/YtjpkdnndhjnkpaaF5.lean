import Derived.ChangeOld
import Derived.ProofKit
import Derived.OpenShut
import Derived.Deep.SlicePairs
import Derived.SizedLaws
import Derived.BigQuiet
import Derived.Deep.MidRow
import Derived.Deep.Cut
import Derived.OrdersHeld
import Derived.Deep.RegionHeld3
import Derived.Test.YtjpkdnndhjnkpaaF4
set_option maxRecDepth 100000
set_option linter.unusedVariables false
set_option linter.unusedSimpArgs false
namespace Go.Proofs.Ytjpkdnndhjnkpaa
open Go.ChangeShapes Go.WideShapes Go.ChangeAt Go.RowKit
theorem weights_inP {H : Type} {t : TypeId} {ds : List (DataW H)} {d : DataW H} (hd : d ∈ ds) : ∀ m, m ∈ d.weights Try.prog t → m ∈ DataW.weightsAll Try.prog t ds := by
  induction ds with
  | nil => cases hd
  | cons x r ih =>
    intro m hm
    simp only [DataW.weightsAll]
    rcases List.mem_cons.1 hd with rfl | h
    · exact List.mem_append_left _ hm
    · exact List.mem_append_right _ (ih h m hm)
theorem rows_of_trod {α : Type} [Inhabited α] {Y : Lay α} (K : Y.Ok) (F : α → Prop) (hT : Try.prog.cellsOf Y.T = Y.k) (hby : Try.prog.bytesOf Y.T = Y.by_) {H : Type} {enc : TypeId × Value → H} {W : World} {v : Value} {d : DataW H} {p : List MemPlace} {fuel : Nat}
    (hop : ∀ {m : Nat} {cs : List Value} {D : DataW H} {q : List MemPlace}, DataW.trod enc Try.prog W 0 (fun _ => true) true m Y.T cs = some (D, q) → (∀ k, k ∈ D.weights Try.prog Y.T → k ≤ reachBytes) → ∃ e : α, F e ∧ cs = Y.cs e)
    (h : DataW.trod enc Try.prog W 0 (fun _ => true) true fuel Y.ST [v] = some (d, p)) (hw : ∀ m, m ∈ d.weights Try.prog Y.ST → m ≤ reachBytes) :
    ∃ a len cap, v = .slice a len cap ∧ ∃ P : List α, SlY Y W a len cap P ∧ (∀ e ∈ P, F e) ∧ len * Y.by_ ≤ 140737488351232 := by
  rcases Go.Deep.open_slice K.und h with ⟨hcs, hx⟩ | ⟨y, n, c, m, k, D, Pl, hcs, hb, hl, hm, hmm, hx, hall⟩
  · have e := (List.cons_eq_cons.1 hcs).1
    exact ⟨none, 0, 0, e, [], ⟨rfl, Nat.le_refl _, by unfold maxLen; omega, fun _ => ⟨rfl, rfl⟩, fun x hx => .inl rfl⟩, by simp, by omega⟩
  · have e := (List.cons_eq_cons.1 hcs).1
    refine ⟨some y, n, c, e, ?_⟩
    have hlm : n ≤ m := by rw [hmm]; split <;> omega
    have hd := congrArg Prod.fst hx
    dsimp only at hd
    have hsz : n * Y.by_ ≤ 140737488351232 := by
      have := hw _ (by
        rw [hd]
        simp only [DataW.weights, K.und, hby]
        exact List.mem_cons_self)
      simp only [List.length_map, List.length_range, reachBytes] at this
      rw [Nat.add_mul] at this
      omega
    have each : ∀ i, i < n → ∃ q : α, F q ∧ (∀ j, j < Y.k → W.cell? ((y.add (i * Y.k)).add j) = (Y.cs q)[j]?) := by
      intro i hi
      obtain ⟨cs', h1, h2⟩ := hall i (by omega)
      rw [hT] at h1
      obtain ⟨q, hf, rfl⟩ := hop h2 (fun k hk => hw k (by
        rw [hd]
        simp only [DataW.weights, K.und]
        exact List.mem_cons_of_mem _ (List.mem_append_left _ (weights_inP (List.mem_map_of_mem (List.mem_range.2 hi)) k hk))))
      obtain ⟨_, _, hcell⟩ := World.cells?_some h1
      exact ⟨q, hf, hcell⟩
    obtain ⟨q, hq⟩ := Go.Deep.choose_lt each
    refine ⟨(List.range n).map q, ⟨by simp, hl, hm, (fun e => by cases e), fun x hx => ?_⟩, ?_, hsz⟩
    · cases hx
      by_cases hn0 : n = 0
      · subst hn0
        exact .inl rfl
      · obtain ⟨b, o, s⟩ := y
        have z0 := (hq 0 (by omega)).2 0 K.kp
        have z1 := z0.trans (List.getElem?_eq_getElem (by rw [K.len]; exact K.kp))
        have hs := World.cell?_spot z1
        obtain rfl : s = none := by
          rw [Nat.zero_mul] at hs
          simpa [Addr.add] using hs
        refine .inr ⟨b, o, rfl, ?_, fun i x hx j u hu => ?_⟩
        · rw [Addr.add_lit, Addr.add_lit] at z1
          exact World.block_lt_of_cell? _ _ z1
        · have hi : i < n := by
            have := (List.getElem?_eq_some_iff.1 hx).1
            simpa using this
          have e : q i = x := by
            simp [hi] at hx
            exact hx
          subst e
          have hj : j < Y.k := by have := (List.getElem?_eq_some_iff.1 hu).1; rwa [K.len] at this
          have := (hq i hi).2 j hj
          rw [Addr.add_lit, Addr.add_lit] at this
          exact this.trans hu
    · intro z hz
      obtain ⟨i, hi, rfl⟩ := List.mem_map.1 hz
      exact (hq i (List.mem_range.1 hi)).1
theorem open_wrowsP {α : Type} [Inhabited α] {Y : Lay α} (K : Y.Ok) (F : α → Prop) (hT : Try.prog.cellsOf Y.T = Y.k) (hby : Try.prog.bytesOf Y.T = Y.by_) {H : Type} {enc : TypeId × Value → H} {W : World} {base : Nat} {v : Value} {d : DataW H} {p : List MemPlace}
    (hop : ∀ {m : Nat} {cs : List Value} {D : DataW H} {q : List MemPlace}, DataW.trod enc Try.prog W 0 (fun _ => true) true m Y.T cs = some (D, q) → (∀ k, k ∈ D.weights Try.prog Y.T → k ≤ reachBytes) → ∃ e : α, F e ∧ cs = Y.cs e)
    (hv : Value.okWide Try.prog W .any base Y.ST v) (h : DataW.Trod enc Try.prog W 0 (fun _ => true) true Y.ST v d p) (hw : ∀ m, m ∈ d.weights Try.prog Y.ST → m ≤ reachBytes) :
    ∃ a len cap, v = .slice a len cap ∧ ∃ P : List α, SlY Y W a len cap P ∧ (∀ e ∈ P, F e) ∧ len * Y.by_ ≤ 140737488351232 := by
  obtain ⟨a, n, c, rfl⟩ := okWide_slice K.und hv
  obtain ⟨fuel, h⟩ := h
  simp only [Value.cells] at h
  exact rows_of_trod K F hT hby hop h hw
theorem u8CellsP : Try.prog.cellsOf 5 = 1 := by kernel_rfl
theorem u8BytesP : Try.prog.bytesOf 5 = 1 := by kernel_rfl
theorem intCellsP : Try.prog.cellsOf 3 = 1 := by kernel_rfl
theorem pkCellsP : Try.prog.cellsOf 46 = 3 := by kernel_rfl
theorem pkBytesP : Try.prog.bytesOf 46 = 40 := by kernel_rfl
theorem bsCellsP : Try.prog.cellsOf 44 = 1 := by kernel_rfl
theorem u8_of {K : Int} (h : (Lit.int .u8 K).wf = true) : K = ((UInt8.ofNat K.toNat).toNat : Int) := by
  simp [Lit.wf, IntKind.min, IntKind.max, IntKind.bits, IntKind.signed] at h
  rw [UInt8.toNat_ofNat']
  omega
theorem bys_of_trod {H : Type} {enc : TypeId × Value → H} {W : World} {v : Value} {d : DataW H} {p : List MemPlace} {fuel : Nat} (h : DataW.trod enc Try.prog W 0 (fun _ => true) true fuel 44 [v] = some (d, p)) (hw : ∀ m, m ∈ d.weights Try.prog 44 → m ≤ reachBytes) :
    ∃ a c, ∃ s : List UInt8, v = .slice a s.length c ∧ SlY yU W a s.length c s ∧ s.length ≤ 140737488351232 := by
  obtain ⟨a, n, c, rfl, s, h1, _, h3⟩ := rows_of_trod kU (fun _ => True) u8CellsP u8BytesP (fun h _ => by
    obtain ⟨K, hK, _, hw⟩ := DataW.trod_int Try.underlying5 h
    exact ⟨UInt8.ofNat K.toNat, trivial, by rw [hK]; show [Value.int .u8 K] = [.int .u8 _]; rw [← u8_of hw]⟩) h hw
  have hn := h1.len
  subst hn
  exact ⟨a, c, s, rfl, h1, by rw [show s.length * yU.by_ = s.length from Nat.mul_one _] at h3; exact h3⟩
theorem open_elAp {H : Type} {enc : TypeId × Value → H} {W : World} {m : Nat} {cs : List Value} {D : DataW H} {q : List MemPlace} (h : DataW.trod enc Try.prog W 0 (fun _ => true) true m 46 cs = some (D, q)) (hw : ∀ k, k ∈ D.weights Try.prog 46 → k ≤ reachBytes) : ∃ e : Ap, (e.In W ∧ e.s.length ≤ 140737488351232) ∧ cs = yA.cs e := by
  obtain ⟨xs, k, hk, hxy, hlen, hxl, hf⟩ := DataW.trod_struct Try.underlying46 h
  rw [pkCellsP] at hlen
  have hxl : xs.length = 3 := hxl
  match xs, hxl, cs, hlen with
  | [y0, y1, y2], _, [v0, v1, v2], _ =>
    have g0 := hf 0 _ rfl
    have g1 := hf 1 _ rfl
    have g2 := hf 2 _ rfl
    simp [intCellsP, bsCellsP] at g0 g1 g2
    obtain ⟨N, hN, _, wN⟩ := DataW.trod_int Try.underlying3 g0
    obtain ⟨V, hV, _, wV⟩ := DataW.trod_int Try.underlying3 g1
    have hd : D = .agg ([y0, y1, y2].map Prod.fst) := congrArg Prod.fst hxy
    obtain ⟨a, c, s, hs, h1, h2⟩ := bys_of_trod g2 (fun k hk => hw k (by
      rw [hd]
      simp only [DataW.weights, Try.underlying46]
      exact DataW.weights_mem_each (j := 2) (t := 44) rfl rfl k hk))
    refine ⟨⟨N, V, a, c, s⟩, ⟨h1, h2⟩, ?_⟩
    simp at hN hV
    subst hN hV hs
    rfl
def CamePk (W : World) (a : Option Addr) (len cap : Nat) : Prop := ∃ P : List Ap, SlY yA W a len cap P ∧ (∀ e ∈ P, e.In W ∧ e.s.length ≤ 140737488351232) ∧ len * 40 ≤ 140737488351232
theorem open_pks {H : Type} {enc : TypeId × Value → H} {W : World} {base : Nat} {v : Value} {d : DataW H} {p : List MemPlace} (hv : Value.okWide Try.prog W .any base 60 v) (h : DataW.Trod enc Try.prog W 0 (fun _ => true) true 60 v d p)
    (hw : ∀ m, m ∈ d.weights Try.prog 60 → m ≤ reachBytes) : ∃ a len cap, v = .slice a len cap ∧ CamePk W a len cap := by
  haveI : Inhabited Ap := ⟨⟨0, 0, none, 0, []⟩⟩
  obtain ⟨a, n, c, rfl, P, h1, h2, h3⟩ := open_wrowsP kA (fun e => e.In W ∧ e.s.length ≤ 140737488351232) pkCellsP pkBytesP (fun h hw => open_elAp h hw) hv h hw
  exact ⟨a, n, c, rfl, P, h1, h2, h3⟩
end Go.Proofs.Ytjpkdnndhjnkpaa
namespace Go.Proofs.Ytjpkdnndhjnkpaa
open Go.RowKit Go.Maps
variable {A A' : Nat → Prop} {B rl j : Nat} {w0 w w' : World} {b : Nat} {P P' : List Pk} {M : Int → List UInt8 → Nat} {sv : Value} {K : List Ap}
structure ST (B : Nat) (w : World) (sv : Value) (K : List Ap) : Prop where
  own : OwnY yA B w sv K
  inn : ∀ x ∈ K, x.In w ∧ x.s.length ≤ 32768
  blk : ∀ x ∈ K, ∀ z, x.a = some z → B ≤ z.block ∧ z.block < w.heap.size ∧ sv.ownBlock ≠ some z.block
def stA (sv : Value) (K : List Ap) (k : Nat) : Prop := sv.ownBlock = some k ∨ ∃ x ∈ K, ∃ z, x.a = some z ∧ z.block = k
theorem ST.upd (h : ST B w sv K) {S : Nat → Prop} (u : Upd S w w') (hs : ∀ k, S k → ¬ stA sv K k) : ST B w' sv K :=
  ⟨h.own.upd1 u (fun g hg hS => hs g hS (.inl hg)), fun x hx => ⟨SlY.upd (h.inn x hx).1 u (fun z hz _ hS => hs _ hS (.inr ⟨x, hx, z, hz, rfl⟩)), (h.inn x hx).2⟩, fun x hx z hz => ⟨(h.blk x hx z hz).1, Nat.lt_of_lt_of_le (h.blk x hx z hz).2.1 u.size, (h.blk x hx z hz).2.2⟩⟩
theorem ST.later (h : ST B w sv K) (hb : Below w.heap.size w w') : ST B w' sv K := h.upd (S := fun _ => False) (Upd.of_below hb) (fun _ => False.elim)
structure GI (B : Nat) (w0 w : World) (b : Nat) (sv : Value) (K : List Ap) (P : List Pk) (j : Nat) : Prop where
  net : ∃ M, NG (stA sv K) B w b P j M ∧ ∀ t s, M t s ≠ 0 ↔ ∃ x ∈ K, x.t = t ∧ x.s = s
  st : ST B w sv K
  pl : P.length ≤ j
  kl : K.length ≤ j
  sub : ∀ p ∈ P, ∃ x ∈ K, x.t = p.t ∧ x.s = p.s
  bel : Below B w0 w
  tw : ∀ x ∈ K, adr 3 2 x.t = true
theorem GI.step (h : GI B w0 w b sv K P j) (hb : Below w.heap.size w w') (hB : B ≤ w.heap.size) : GI B w0 w' b sv K P j := by
  obtain ⟨M, n1, n2⟩ := h.net
  exact ⟨⟨M, n1.step hb, n2⟩, h.st.later hb, h.pl, h.kl, h.sub, h.bel.trans (hb.mono hB), h.tw⟩
structure GS (B : Nat) (w0 w : World) (b : Nat) (sv : Value) (K : List Ap) (y : Ap) (P : List Pk) (j : Nat) : Prop where
  net : ∃ M, NG (fun k => stA sv K k ∨ ∃ z, y.a = some z ∧ z.block = k) B w b P (j + 1) M ∧ ∀ t s, M t s ≠ 0 ↔ ∃ x ∈ K ++ [y], x.t = t ∧ x.s = s
  st : ST B w sv K
  pl : P.length ≤ j + 1
  kl : K.length ≤ j
  sub : ∀ p ∈ P, ∃ x ∈ K ++ [y], x.t = p.t ∧ x.s = p.s
  bel : Below B w0 w
  tw : ∀ x ∈ K ++ [y], adr 3 2 x.t = true
  yin : y.In w
  ys : y.s.length ≤ 32768
  yb : ∀ z, y.a = some z → B ≤ z.block ∧ z.block < w.heap.size ∧ sv.ownBlock ≠ some z.block
theorem GS.step {y : Ap} (h : GS B w0 w b sv K y P j) (hb : Below w.heap.size w w') (hB : B ≤ w.heap.size) : GS B w0 w' b sv K y P j := by
  obtain ⟨M, n1, n2⟩ := h.net
  exact ⟨⟨M, n1.step hb, n2⟩, h.st.later hb, h.pl, h.kl, h.sub, h.bel.trans (hb.mono hB), h.tw, SlY.later h.yin hb, h.ys, fun z hz => ⟨(h.yb z hz).1, Nat.lt_of_lt_of_le (h.yb z hz).2.1 hb.size, (h.yb z hz).2.2⟩⟩
structure GE (B : Nat) (w0 w : World) (b : Nat) (K : List Ap) (P : List Pk) (j : Nat) : Prop where
  net : ∃ M, NG (fun _ => False) B w b P j M ∧ ∀ t s, M t s ≠ 0 ↔ ∃ x ∈ K, x.t = t ∧ x.s = s
  bel : Below B w0 w
theorem GE.step (h : GE B w0 w b K P j) (hb : Below w.heap.size w w') (hB : B ≤ w.heap.size) : GE B w0 w' b K P j := by
  obtain ⟨M, n1, n2⟩ := h.net
  exact ⟨⟨M, n1.step hb, n2⟩, h.bel.trans (hb.mono hB)⟩
end Go.Proofs.Ytjpkdnndhjnkpaa
namespace Go.Proofs.Ytjpkdnndhjnkpaa
open Go.RowKit Go.Maps Go.Shelf
attribute [local go_sem] Oper.semAt_some
theorem OwnY.jget {B : Nat} {w : World} {g n c : Nat} {L : List Int} (h : OwnY yJ B w (.slice (some ⟨g, 0, none⟩) n c) L) {j : Nat} {x : Int} (hx : L[j]? = some x) : w.cell? ⟨g, j, none⟩ = some (.int .i64 x) := by
  have := OwnY.cell kJ h j x hx 0 _ rfl
  rw [show j * yJ.k + 0 = j by show j * 1 + 0 = j; omega] at this
  exact this
theorem OwnY.jset {B : Nat} {w : World} {g n c : Nat} {L : List Int} (h : OwnY yJ B w (.slice (some ⟨g, 0, none⟩) n c) L) {j : Nat} (hj : j < L.length) (x : Int) : OwnY yJ B (w.setCell ⟨g, j, none⟩ (.int .i64 x)) (.slice (some ⟨g, 0, none⟩) n c) (L.set j x) := by
  have := OwnY.set1 kJ h (List.getElem?_eq_getElem hj) x 0 (.int .i64 x) (by decide) rfl
  rw [show j * yJ.k + 0 = j by show j * 1 + 0 = j; omega] at this
  exact this
theorem OwnY.jform {B : Nat} {w : World} {a : Option Addr} {n c : Nat} {L : List Int} (h : OwnY yJ B w (.slice a n c) L) (hne : L ≠ []) : ∃ g, a = some ⟨g, 0, none⟩ ∧ B ≤ g ∧ g < w.heap.size ∧ L.length = n ∧ n ≤ c ∧ c ≤ maxLen := by
  obtain ⟨va, vc, e, h1, h2, h3, h4⟩ := h.form
  injection e with e1 e2 e3
  subst e1 e2 e3
  cases a with
  | none => exact absurd (h3 rfl).1 hne
  | some x =>
    obtain ⟨g, rfl, h5, h6⟩ := h4 x rfl
    exact ⟨g, rfl, h5, h6, rfl, h1, h2⟩
theorem nf_take {w : World} {b m : Nat} (h : NF w b m) (hl : m * 32 ≤ 168884986026393) : Calls Try.prog 26 #[.pointer (some ⟨b, 0, none⟩), .int .i64 0] w fun e w' => (∃ v, e = .returned v) ∧ NF w' b m ∧ Upd (fun k => k = b) w w' := by
  obtain ⟨pv, rv, mb, n, P, R, M, h1, h2⟩ := h
  by_cases hk : 0 < P.length
  · have hg := List.getElem?_eq_getElem hk
    refine (take_ok 0 _ h1 hg (by omega)).mono ?_
    rintro e w' ⟨y, rfl, hy, ho, pv', N, U, n'⟩
    exact ⟨⟨_, rfl⟩, ⟨_, _, _, _, _, _, _, N, Nat.le_trans (dr_le _ _) h2⟩, U⟩
  · refine (take_gen _ 0 141 141 _ (fun o => at_bad 0 (h1.later ((Below.refl _ _).alloc (Nat.le_refl _) o)) (.inr (by omega))) (fun v hb => drop_bad 0 (h1.later hb) (.inr (by omega)))).mono ?_
    rintro e w' ⟨rfl, hb⟩
    exact ⟨⟨_, rfl⟩, ⟨_, _, _, _, _, _, _, h1.later hb, h2⟩, Upd.of_below hb⟩
structure CJ (gc : Nat) (w6 : World) (n : Nat) (X : List Int) (w : World) : Prop where
  own : OwnY yJ gc w (.slice (some ⟨gc, 0, none⟩) n n) X
  upd : Upd (fun k => k = gc) w6 w
structure CS (q4 g6 gc b : Nat) (wa : Option Addr) (wc : Nat) (K : List Ap) (P : List Pk) (w : World) : Prop where
  r4 : w.cell? ⟨q4, 0, none⟩ = some (.bool false)
  f4 : w.frozen? ⟨q4, 0, none⟩ = false
  l4 : q4 < gc
  c6 : w.cell? ⟨g6, 0, none⟩ = some (.slice wa P.length wc)
  l6 : g6 < gc
  lc : gc < w.heap.size
  was : SlY yA w wa P.length wc K
  wlt : ∀ x, wa = some x → K ≠ [] → x.block ≠ gc
  pk : K.map Ap.pk = P
  net : ∃ pv rv mb n R M, Net w b 3 2 pv rv mb n P R M ∧ b ≠ gc ∧ mb ≠ gc ∧ pv.ownBlock ≠ some gc ∧ rv.ownBlock ≠ some gc
theorem CS.upd {q4 g6 gc b : Nat} {wa : Option Addr} {wc : Nat} {K : List Ap} {P : List Pk} {w w' : World} (h : CS q4 g6 gc b wa wc K P w) (u : Upd (fun k => k = gc) w w') : CS q4 g6 gc b wa wc K P w' := by
  have lc := h.lc
  have l4 := h.l4
  have l6 := h.l6
  refine ⟨(u.cell (p := ⟨q4, 0, none⟩) (by show q4 < _; omega) (by show ¬ q4 = gc; omega)).trans h.r4, (u.frozen (p := ⟨q4, 0, none⟩) (by show q4 < _; omega) (by show ¬ q4 = gc; omega)).trans h.f4, l4, (u.cell (p := ⟨g6, 0, none⟩) (by show g6 < _; omega) (by show ¬ g6 = gc; omega)).trans h.c6, l6, Nat.lt_of_lt_of_le lc u.size, h.was.upd u (fun x hx hne => h.wlt x hx hne), h.wlt, h.pk, ?_⟩
  obtain ⟨pv, rv, mb, n, R, M, h1, h2, h3, h4, h5⟩ := h.net
  exact ⟨pv, rv, mb, n, R, M, h1.upd u h2 h3 (fun k hk e => h4 (e ▸ hk)) (fun k hk e => h5 (e ▸ hk)), h2, h3, h4, h5⟩
end Go.Proofs.Ytjpkdnndhjnkpaa
namespace Go.Proofs.Ytjpkdnndhjnkpaa
open Go.RowKit Go.Maps
open Classical
structure En where
  c : Int
  n : Int
  o : Opn
def En.cs (e : En) : List Value := [.int .i64 e.c, .int .i64 e.n, .int .i64 e.o.k, .int .i64 e.o.s, .string e.o.v]
def yE : Lay En := ⟨137, 118, 5, 48, En.cs, ⟨0, 0, ⟨0, 0, ByteArray.empty⟩⟩⟩
theorem kE : yE.Ok := ⟨by decide, fun x => rfl, fun x u h => by
    simp [yE, En.cs] at h
    rcases h with rfl | rfl | rfl | rfl | rfl <;> rfl, Try.underlying118, ⟨.agg #[.int .i64 0, .int .i64 0, .int .i64 0, .int .i64 0, .string ByteArray.empty], by kernel_rfl, rfl⟩⟩
theorem OwnY.drew {α : Type} {Y : Lay α} {B : Nat} {w : World} {v : Value} {l : List α} (h : OwnY Y B w v l) : OwnY Y B w.drew v l := World.ownsRow.drew h
theorem SlY.drewN {α : Type} {Y : Lay α} {w : World} {a : Option Addr} {n c : Nat} {l : List α} (h : SlY Y w a n c l) (k : Nat) : SlY Y (w.drewN k) a n c l := h.later (belN (Below.refl _ w) k)
def zE : Lay (SV En) := yS En 118 34
def yD : Lay (Int × Int) := ⟨132, 120, 2, 16, fun d => [.int .u64 d.1, .int .u64 d.2], (0, 0)⟩
def zD : Lay (SV (Int × Int)) := yS (Int × Int) 120 33
theorem hzz : zD.T ≠ zE.T := by decide
structure GM (w : World) (b B : Nat) (v2 v3 v4 v5 : Value) (Da Db : List (SV (Int × Int))) (La Lb : List (SV En)) : Prop where
  lt : b < B
  ltB : B ≤ w.heap.size
  c2 : w.cell? ⟨b, 2, none⟩ = some v2
  c3 : w.cell? ⟨b, 3, none⟩ = some v3
  c4 : w.cell? ⟨b, 4, none⟩ = some v4
  c5 : w.cell? ⟨b, 5, none⟩ = some v5
  f : ∀ i, w.frozen? ⟨b, i, none⟩ = false
  ce : ∀ i, i < 10 → (i < 2 ∨ 5 < i) → w.cell? ⟨b, i, none⟩ = some (.slice none 0 0)
  o2 : OwnY zD B w v2 Da
  o3 : OwnY zD B w v3 Db
  o4 : OwnY zE B w v4 La
  o5 : OwnY zE B w v5 Lb
  ne2 : ∀ k, v2.ownBlock = some k → v3.ownBlock = some k → False
  ne4 : ∀ k, v4.ownBlock = some k → v5.ownBlock = some k → False
  m2 : ∀ x, x ∈ Da → OwnY yD B w x.v x.D
  m3 : ∀ x, x ∈ Db → OwnY yD B w x.v x.D
  m4 : ∀ x, x ∈ La → OwnY yE B w x.v x.D
  m5 : ∀ x, x ∈ Lb → OwnY yE B w x.v x.D
theorem GM.bel {w w' : World} {b B : Nat} {v2 v3 v4 v5 : Value} {Da Db : List (SV (Int × Int))} {La Lb : List (SV En)} (h : GM w b B v2 v3 v4 v5 Da Db La Lb) (hb : Below w.heap.size w w') : GM w' b B v2 v3 v4 v5 Da Db La Lb := by
  have hlt : b < w.heap.size := Nat.lt_of_lt_of_le h.lt h.ltB
  exact ⟨h.lt, Nat.le_trans h.ltB hb.size, (hb.cell (p := ⟨b, _, none⟩) hlt).trans h.c2, (hb.cell (p := ⟨b, _, none⟩) hlt).trans h.c3, (hb.cell (p := ⟨b, _, none⟩) hlt).trans h.c4, (hb.cell (p := ⟨b, _, none⟩) hlt).trans h.c5, fun i => (hb.frozen (p := ⟨b, _, none⟩) hlt).trans (h.f i), fun i h0 h1 => (hb.cell (p := ⟨b, _, none⟩) hlt).trans (h.ce i h0 h1), h.o2.grow hb, h.o3.grow hb, h.o4.grow hb, h.o5.grow hb, h.ne2, h.ne4, fun x hx => (h.m2 x hx).grow hb, fun x hx => (h.m3 x hx).grow hb, fun x hx => (h.m4 x hx).grow hb, fun x hx => (h.m5 x hx).grow hb⟩
theorem GM.new (w : World) (t : TypeId) : GM (w.alloc (.cells #[.slice none 0 0, .slice none 0 0, .slice none 0 0, .slice none 0 0, .slice none 0 0, .slice none 0 0, .slice none 0 0, .slice none 0 0, .slice none 0 0, .slice none 0 0] t)) w.heap.size (w.heap.size + 1) (.slice none 0 0) (.slice none 0 0) (.slice none 0 0) (.slice none 0 0) [] [] [] [] := by
  have hc : ∀ i, i < 10 → (w.alloc (.cells #[.slice none 0 0, .slice none 0 0, .slice none 0 0, .slice none 0 0, .slice none 0 0, .slice none 0 0, .slice none 0 0, .slice none 0 0, .slice none 0 0, .slice none 0 0] t)).cell? ⟨w.heap.size, i, none⟩ = some (.slice none 0 0) := by
    intro i hi
    rw [World.cell?_alloc_at _ _ _ _ rfl]
    rcases (by omega : i = 0 ∨ i = 1 ∨ i = 2 ∨ i = 3 ∨ i = 4 ∨ i = 5 ∨ i = 6 ∨ i = 7 ∨ i = 8 ∨ i = 9) with rfl | rfl | rfl | rfl | rfl | rfl | rfl | rfl | rfl | rfl <;> rfl
  exact ⟨Nat.lt_succ_self _, by simp, hc 2 (by omega), hc 3 (by omega), hc 4 (by omega), hc 5 (by omega), fun i => by simp, fun i h0 _ => hc i h0, OwnY.nil _ _ _, OwnY.nil _ _ _, OwnY.nil _ _ _, OwnY.nil _ _ _, (fun k h => by cases h), (fun k h => by cases h), (fun p hp => by cases hp), (fun p hp => by cases hp), (fun p hp => by cases hp), (fun p hp => by cases hp)⟩
theorem OwnY.row {α : Type} {T ST : TypeId} (hz : (yS α T ST).Ok) {B : Nat} {w : World} {a : Option Addr} {n c : Nat} {L : List (SV α)} (h : OwnY (yS α T ST) B w (.slice a n c) L) {j : Nat} {x : SV α} (hx : L[j]? = some x) : ∃ g, a = some ⟨g, 0, none⟩ ∧ w.cell? ⟨g, j, none⟩ = some (.slice x.a x.D.length x.c) := by
  obtain ⟨a', c', e, _, _, hn, hs⟩ := h.form
  injection e with e1 e2 e3
  subst e1
  cases a with
  | none => have := (hn rfl).1; rw [this] at hx; simp at hx
  | some z =>
    obtain ⟨g, rfl, _, _⟩ := hs z rfl
    refine ⟨g, rfl, ?_⟩
    have := h.cell hz j x hx 0 _ rfl
    simpa [yS] using this
structure Mg where
  k : Int
  nd : Int
  vw : Int
  e : En
  r : Int × Int × ByteArray
  p : Int
  cm : Int
  ls : Int
  d : Int × Int
def Mg.val (m : Mg) (s t : Value) : Value := .agg #[.int .i64 m.k, .int .i64 m.nd, .int .i64 m.vw, .int .i64 m.e.c, .int .i64 m.e.n, .int .i64 m.e.o.k, .int .i64 m.e.o.s, .string m.e.o.v, .int .i64 m.r.1, .int .i64 m.r.2.1, .string m.r.2.2, .int .i64 m.p, .int .i64 m.cm, .int .i64 m.ls, .int .u64 m.d.1, .int .u64 m.d.2, s, t]
def Mg.cs (m : Mg) (s t : Value) : List Value := [.int .i64 m.k, .int .i64 m.nd, .int .i64 m.vw, .int .i64 m.e.c, .int .i64 m.e.n, .int .i64 m.e.o.k, .int .i64 m.e.o.s, .string m.e.o.v, .int .i64 m.r.1, .int .i64 m.r.2.1, .string m.r.2.2, .int .i64 m.p, .int .i64 m.cm, .int .i64 m.ls, .int .u64 m.d.1, .int .u64 m.d.2, s, t]
theorem GM.upd {S : Nat → Prop} {w w' : World} {b B : Nat} {v2 v3 v4 v5 : Value} {Da Db : List (SV (Int × Int))} {La Lb : List (SV En)} (h : GM w b B v2 v3 v4 v5 Da Db La Lb) (u : Upd S w w') (hb : ¬ S b) (hs : ∀ k c f T, w.heap[k]? = some (.cells c T f) → (T = yD.T ∨ T = yE.T ∨ T = zD.T ∨ T = zE.T) → ¬ S k) : GM w' b B v2 v3 v4 v5 Da Db La Lb := by
  have hlt : b < w.heap.size := Nat.lt_of_lt_of_le h.lt h.ltB
  have o : ∀ {α : Type} {Y : Lay α} {v : Value} {l : List α}, OwnY Y B w v l → (Y.T = yD.T ∨ Y.T = yE.T ∨ Y.T = zD.T ∨ Y.T = zE.T) → OwnY Y B w' v l := fun ho hT => ho.upd1 u (fun g hg => by
    obtain ⟨c, f, hk⟩ := ho.kind hg
    exact hs g c f _ hk hT)
  exact ⟨h.lt, Nat.le_trans h.ltB u.size, (u.cell (p := ⟨b, _, none⟩) hlt hb).trans h.c2, (u.cell (p := ⟨b, _, none⟩) hlt hb).trans h.c3, (u.cell (p := ⟨b, _, none⟩) hlt hb).trans h.c4, (u.cell (p := ⟨b, _, none⟩) hlt hb).trans h.c5, fun i => (u.frozen (p := ⟨b, _, none⟩) hlt hb).trans (h.f i), fun i h0 h1 => (u.cell (p := ⟨b, _, none⟩) hlt hb).trans (h.ce i h0 h1), o h.o2 (by simp), o h.o3 (by simp), o h.o4 (by simp), o h.o5 (by simp), h.ne2, h.ne4, fun x hx => o (h.m2 x hx) (by simp), fun x hx => o (h.m3 x hx) (by simp), fun x hx => o (h.m4 x hx) (by simp), fun x hx => o (h.m5 x hx) (by simp)⟩
theorem wl_val {ops : Array Oper} {rest : List Oper} {o : Oper} {a : Act} {w : World} {Q : Exit → Act → World → Prop} {v : Value} (hw : Region.wanted o (yielded ops a.tmps) = true) (h : (execOp a.eval o).run Try.prog w = .ok (.value v) w)
    (hk : wpList Try.prog ops Q rest (a.put o.dst v) w) : wpList Try.prog ops Q (o :: rest) a w :=
  BigFrame.wpList_want hw (fun K hK => by unfold Oper.wp; rw [h, Oper.upon_value]; exact hK _ _ hk)
theorem want_none {ops : Array Oper} {o : Oper} {T : Array Value} (h : o.guard = none) : Region.wanted o (yielded ops T) = true := by simp [Region.wanted, h]
theorem getD_of {T : Array Value} {i : Nat} {v : Value} (h : T[i]? = some v) : T.getD i undef = v := by rw [Array.getD_eq_getD_getElem?, h]; rfl
theorem at_set {T : Array Value} {i : Nat} (v : Value) (h : i < T.size) : (T.setIfInBounds i v)[i]? = some v := by simp [h]
theorem at_set_ne {T : Array Value} {i j : Nat} (v : Value) (h : j ≠ i) : (T.setIfInBounds i v)[j]? = T[j]? := by rw [Array.getElem?_setIfInBounds_ne (fun e => h e.symm)]
def gw (c : Bool) (V : Value) : Value := cond c V undef
structure VJ (ops : Array Oper) (C : World → Prop) (Q : Act → Prop) (l : List Oper) (a : Act) : Prop where
  out : wpQuiet Try.prog ops C Q l a
theorem vq_start {C : World → Prop} {id : Nat} {Q : Exit → Act → World → Prop} {a : Act} {w : World} {l : List Oper} (hm : Try.prog.follows .mixedOrders = true) (hB : Region.lexB .any l.toArray = true) (hC : C w.drew)
    (h : VJ l.toArray C (fun a' => ∀ w', C w' → Q .normal a' w') l a) : (Code.region id l.toArray true).wp Try.prog Q a w :=
  wp_region_quiet (C := C) hm hB hC (by simpa using h.out)
theorem vl_gen {ops : Array Oper} {Q : Exit → Act → World → Prop} {l : List Oper} {T0 : Array Value} {df : List Deferred} {w : World} (P : Array Value → Prop) (h0 : P T0) (hk : ∀ T, P T → wpList Try.prog ops Q l ⟨T, df⟩ w) : wpList Try.prog ops Q l ⟨T0, df⟩ w := hk T0 h0
theorem vq_nil {ops : Array Oper} {C : World → Prop} {Q : Act → Prop} {a : Act} (h : Q a) : VJ ops C Q [] a := ⟨wpQuiet_nil h⟩
theorem want_g {ops : Array Oper} {o : Oper} {T : Array Value} {g j : Nat} {pol b c : Bool} (h : o.guard = some (g, pol)) (hg : (ops[g]?).bind (·.dst) = some j) (hj : T[j]? = some (gw c (.bool b))) : Region.wanted o (yielded ops T) = (c && (b == pol)) := by
  cases c <;> simp [Region.wanted, h, yielded, hg, hj, gw, undef]
theorem vq {ops : Array Oper} {rest : List Oper} {o : Oper} {T : Array Value} {df : List Deferred} {C : World → Prop} {Q : Act → Prop} {d n : Nat} (c : Bool) (V : Value) (hw : Region.wanted o (yielded ops T) = c) (he : c = true → ∀ v, C v → (execOp (⟨T, df⟩ : Act).eval o).run Try.prog v = .ok (.value V) v) (hd : o.dst = some d) (hz : T.size = n) (hn : d < n)
    (hk : ∀ T' : Array Value, T'.size = n → (∀ i, i ≠ d → T'[i]? = T[i]?) → T'[d]? = some (gw c V) → VJ ops C Q rest ⟨T', df⟩) : VJ ops C Q (o :: rest) ⟨T, df⟩ := by
  cases c with
  | false =>
    refine ⟨BigFrame.wpQuiet_skip hw ?_⟩
    rw [hd]
    exact (hk (T.setIfInBounds d undef) (by simp [hz]) (fun i hi => at_set_ne _ hi) (at_set _ (by omega))).out
  | true =>
    refine ⟨BigFrame.wpQuiet_want hw (fun K hK => ⟨V, fun v hv => by unfold Oper.quietAt; rw [he rfl v hv]; exact ⟨rfl, rfl⟩, hK _ ?_⟩)⟩
    rw [hd]
    exact (hk (T.setIfInBounds d V) (by simp [hz]) (fun i hi => at_set_ne _ hi) (at_set _ (by omega))).out
theorem vl {ops : Array Oper} {rest : List Oper} {o : Oper} {T : Array Value} {df : List Deferred} {w : World} {Q : Exit → Act → World → Prop} {d n : Nat} (c : Bool) (V : Value) (hw : Region.wanted o (yielded ops T) = c) (he : c = true → (execOp (⟨T, df⟩ : Act).eval o).run Try.prog w = .ok (.value V) w) (hd : o.dst = some d) (hz : T.size = n) (hn : d < n)
    (hk : ∀ T' : Array Value, T'.size = n → (∀ i, i ≠ d → T'[i]? = T[i]?) → T'[d]? = some (gw c V) → wpList Try.prog ops Q rest ⟨T', df⟩ w) : wpList Try.prog ops Q (o :: rest) ⟨T, df⟩ w := by
  cases c with
  | false =>
    refine wpList_skip hw ?_
    rw [hd]
    exact hk (T.setIfInBounds d undef) (by simp [hz]) (fun i hi => at_set_ne _ hi) (at_set _ (by omega))
  | true =>
    refine wl_val (v := V) hw (he rfl) ?_
    rw [hd]
    exact hk (T.setIfInBounds d V) (by simp [hz]) (fun i hi => at_set_ne _ hi) (at_set _ (by omega))
theorem vcallP {ops : Array Oper} {rest : List Oper} {o : Oper} {T : Array Value} {df : List Deferred} {w : World} {Q : Exit → Act → World → Prop} {d n : Nat} {fid : FuncId} {args : Array Value} {R : Ending → World → Prop} (hw : Region.wanted o (yielded ops T) = true) (he : (execOp (⟨T, df⟩ : Act).eval o).run Try.prog w = .ok (.enter fid args) w)
    (hc : Calls Try.prog fid args w R) (hd : o.dst = some d) (hz : T.size = n) (hn : d < n)
    (hk : ∀ (e : Ending) (w' : World), R e w' → ∃ V, e = .returned V ∧ ∀ T' : Array Value, T'.size = n → (∀ i, i ≠ d → T'[i]? = T[i]?) → T'[d]? = some (gw true V) → wpList Try.prog ops Q rest ⟨T', df⟩ w') : wpList Try.prog ops Q (o :: rest) ⟨T, df⟩ w := by
  refine BigFrame.wpList_want hw (fun K hK => ?_)
  unfold Oper.wp
  rw [he, Oper.upon_enter]
  refine hc.mono ?_
  intro e w' hR
  obtain ⟨V, rfl, hk'⟩ := hk e w' hR
  refine hK _ _ ?_
  rw [hd]
  exact hk' (T.setIfInBounds d V) (by simp [hz]) (fun i hi => at_set_ne _ hi) (at_set _ (by omega))
theorem ev {T : Array Value} {df : List Deferred} {i : Nat} {c : Bool} {X : Value} (h : T[i]? = some (gw c X)) (hc : c = true) : (⟨T, df⟩ : Act).eval (.tmp i) = X := by
  subst hc
  exact getD_of h
theorem evc {T : Array Value} {df : List Deferred} {x : Value} : (⟨T, df⟩ : Act).eval (.const x) = x := rfl
theorem and_l {a b : Bool} (h : (a && b) = true) : a = true := by cases a <;> simp_all
theorem ex_move {o : Oper} {ρ : Operand → Value} {x : Operand} {X : Value} {w : World} (ho : o.op = .move x) (hx : ρ x = X) : (execOp ρ o).run Try.prog w = .ok (.value X) w := by
  unfold execOp
  simp only [ho, hx]
  rfl
theorem ex_assign {o : Oper} {ρ : Operand → Value} {x : Operand} {X : Value} {w : World} (ho : o.op = .assign x) (hx : ρ x = X) : (execOp ρ o).run Try.prog w = .ok (.value X) w := by
  unfold execOp
  simp only [ho, hx]
  rfl
theorem ex_fa {o : Oper} {ρ : Operand → Value} {s : TypeId} {f : Nat} {x : Operand} {X V : Value} {w : World} (ho : o.op = .fieldAddr s x f) (hx : ρ x = X) (hr : (Instr.fieldAt s X f).run Try.prog w = .ok V w) : (execOp ρ o).run Try.prog w = .ok (.value V) w := by
  unfold execOp
  simp only [ho, hx, Sem.run_bind, hr, Result.andThen_ok]
  rfl
theorem ex_ld {o : Oper} {ρ : Operand → Value} {s : TypeId} {x : Operand} {X V : Value} {w : World} (ho : o.op = .load s x) (hx : ρ x = X) (hr : (Instr.loadAt s X).run Try.prog w = .ok V w) : (execOp ρ o).run Try.prog w = .ok (.value V) w := by
  unfold execOp
  simp only [ho, hx, Sem.run_bind, hr, Result.andThen_ok]
  rfl
theorem ex_ix {o : Oper} {ρ : Operand → Value} {s : TypeId} {x y : Operand} {X Y V : Value} {w : World} (ho : o.op = .indexAddr s x y) (hx : ρ x = X) (hy : ρ y = Y) (hr : (Instr.indexAt s X Y).run Try.prog w = .ok V w) : (execOp ρ o).run Try.prog w = .ok (.value V) w := by
  unfold execOp
  simp only [ho, hx, hy, Sem.run_bind, hr, Result.andThen_ok]
  rfl
theorem ex_bin {o : Oper} {ρ : Operand → Value} {b : BinOp} {s t : TypeId} {x y : Operand} {X Y V : Value} {w : World} (ho : o.op = .binOp b s x y t) (hx : ρ x = X) (hy : ρ y = Y) (hr : (do eqGuard b s x y X Y; binOp b s X Y : Sem Value).run Try.prog w = .ok V w) : (execOp ρ o).run Try.prog w = .ok (.value V) w := by
  unfold execOp
  simp only [ho, hx, hy]
  rw [Sem.run_bind, hr]
  rfl
theorem ex_not {o : Oper} {ρ : Operand → Value} {s : TypeId} {x : Operand} {b : Bool} {w : World} (ho : o.op = .unOp .not s x) (hx : ρ x = .bool b) : (execOp ρ o).run Try.prog w = .ok (.value (.bool (!b))) w := by
  unfold execOp
  simp only [ho, hx]
  rfl
theorem ex_call {o : Oper} {T : Array Value} {df : List Deferred} {fid : FuncId} {xs : Array Operand} {ts : Array TypeId} {args : Array Value} {w : World} (ho : o.op = .call { callee := .value (.func fid), args := xs, argTypes := ts }) (ha : xs.map (⟨T, df⟩ : Act).eval = args) (hr : (do let d ← Deferred.ofValue ((⟨T, df⟩ : Act).eval (.func fid)) args; invoke d.target d.args : Sem Next).run Try.prog w = .ok (.enter fid args) w) : (execOp (⟨T, df⟩ : Act).eval o).run Try.prog w = .ok (.enter fid args) w := by
  unfold execOp
  simp only [ho, resolve, ha]
  exact hr
theorem ex_or {o : Oper} {T : Array Value} {df : List Deferred} {j y : Nat} {c b z : Bool} {w : World} (ho : o.op = .pick (.tmp j) (.const (.bool true)) (.tmp y)) (hj : T[j]? = some (gw c (.bool b))) (hy : T[y]? = some (gw (c && (b == false)) (.bool z))) (hc : c = true) : (execOp (⟨T, df⟩ : Act).eval o).run Try.prog w = .ok (.value (.bool (b || z))) w := by
  subst hc
  unfold execOp
  simp only [ho, Act.eval, getD_of hj, getD_of hy]
  cases b <;> rfl
theorem ex_and {o : Oper} {T : Array Value} {df : List Deferred} {j x : Nat} {c b z : Bool} {w : World} (ho : o.op = .pick (.tmp j) (.tmp x) (.const (.bool false))) (hj : T[j]? = some (gw c (.bool b))) (hy : T[x]? = some (gw (c && (b == true)) (.bool z))) (hc : c = true) : (execOp (⟨T, df⟩ : Act).eval o).run Try.prog w = .ok (.value (.bool (b && z))) w := by
  subst hc
  unfold execOp
  simp only [ho, Act.eval, getD_of hj, getD_of hy]
  cases b <;> rfl
theorem eqlC (x y : Operand) (a b : Int) (w : World) : (do eqGuard .eql 3 x y (.int .i64 a) (.int .i64 b); binOp .eql 3 (.int .i64 a) (.int .i64 b) : Sem Value).run Try.prog w = .ok (.bool (decide (a = b))) w := by
  go_simp
  by_cases h : a = b <;> simp [h]
theorem neqC (x y : Operand) (a b : Int) (w : World) : (do eqGuard .neq 3 x y (.int .i64 a) (.int .i64 b); binOp .neq 3 (.int .i64 a) (.int .i64 b) : Sem Value).run Try.prog w = .ok (.bool (!decide (a = b))) w := by
  go_simp
  by_cases h : a = b <;> simp [h]
theorem lssC (x y : Operand) (a b : Int) (w : World) : (do eqGuard .lss 3 x y (.int .i64 a) (.int .i64 b); binOp .lss 3 (.int .i64 a) (.int .i64 b) : Sem Value).run Try.prog w = .ok (.bool (decide (a < b))) w := by
  go_simp
theorem geqC (x y : Operand) (a b : Int) (w : World) : (do eqGuard .geq 3 x y (.int .i64 a) (.int .i64 b); binOp .geq 3 (.int .i64 a) (.int .i64 b) : Sem Value).run Try.prog w = .ok (.bool (decide (b ≤ a))) w := by
  go_simp
theorem gtrC (x y : Operand) (a b : Int) (w : World) : (do eqGuard .gtr 3 x y (.int .i64 a) (.int .i64 b); binOp .gtr 3 (.int .i64 a) (.int .i64 b) : Sem Value).run Try.prog w = .ok (.bool (decide (b < a))) w := by
  go_simp
theorem vt {ops : Array Oper} {rest : List Oper} {o : Oper} {T : Array Value} {df : List Deferred} {w : World} {Q : Exit → Act → World → Prop} {d n : Nat} (V : Value) (he : (execOp (⟨T, df⟩ : Act).eval o).run Try.prog w = .ok (.value V) w) (hz : T.size = n)
    (hk : ∀ T' : Array Value, T'.size = n → (∀ i, i ≠ d → T'[i]? = T[i]?) → T'[d]? = some (gw true V) → wpList Try.prog ops Q rest ⟨T', df⟩ w) (hg : o.guard = none := by rfl) (hd : o.dst = some d := by rfl) (hn : d < n := by decide) : wpList Try.prog ops Q (o :: rest) ⟨T, df⟩ w := vl true V (want_none hg) (fun _ => he) hd hz hn hk
theorem ku {T T' : Array Value} {d i : Nat} {v : Option Value} (h : T[i]? = v) (kk : ∀ i, i ≠ d → T'[i]? = T[i]? := by assumption) (hi : i ≠ d := by decide) : T'[i]? = v := (kk i hi).trans h
structure VH (ops : Array Oper) (Q : Exit → Act → World → Prop) (S : World → Prop) (fuel : Nat) (listed : Array Bool) (a : Act) (w : World) : Prop where
  out : wpAnyH Try.prog .any ops (NoPanic Q) S fuel listed a w
theorem vh_done {ops : Array Oper} {Q : Exit → Act → World → Prop} {S : World → Prop} {fuel : Nat} {listed : Array Bool} {a : Act} {w : World} (hr : Region.ready .any ops listed = []) (h : Q .normal a w) : VH ops Q S fuel listed a w := ⟨wpAnyH_done hr (NoPanic.normal h) _⟩
theorem vh_take {ops : Array Oper} {o : Oper} {T : Array Value} {df : List Deferred} {w : World} {Q : Exit → Act → World → Prop} {S : World → Prop} {fuel d n : Nat} {listed : Array Bool} (i : Nat) (c : Bool) (V : Value) (hi : ops[i]? = some o) (hs : Region.noSelect ops = true) (hf : Region.free .any ops listed i = true) (hr : (Region.ready .any ops listed).contains i = true)
    (hw : Region.wanted o (yielded ops T) = c) (he : c = true → ∀ v, S v → (execOp (⟨T, df⟩ : Act).eval o).run Try.prog v = .ok (.value V) v) (hd : o.dst = some d) (hz : T.size = n) (hn : d < n) (hS : S w)
    (hk : ∀ T' : Array Value, T'.size = n → (∀ j, j ≠ d → T'[j]? = T[j]?) → T'[d]? = some (gw c V) → VH ops Q S fuel (listed.setIfInBounds i true) ⟨T', df⟩ w) : VH ops Q S (fuel + 1) listed ⟨T, df⟩ w := by
  cases c with
  | false =>
    refine ⟨wpAnyH_take (v := undef) hi hs hf hr (fun _ _ _ h => h) (.inr ⟨hw, rfl⟩) hS ?_⟩
    rw [hd]
    exact (hk (T.setIfInBounds d undef) (by simp [hz]) (fun i hi => at_set_ne _ hi) (at_set _ (by omega))).out
  | true =>
    refine ⟨wpAnyH_take (v := V) hi hs hf hr (fun _ _ _ h => h) (.inl ⟨hw, he rfl⟩) hS ?_⟩
    rw [hd]
    exact (hk (T.setIfInBounds d V) (by simp [hz]) (fun i hi => at_set_ne _ hi) (at_set _ (by omega))).out
theorem vh_call {ops : Array Oper} {o : Oper} {T : Array Value} {df : List Deferred} {w : World} {Q : Exit → Act → World → Prop} {S : World → Prop} {fuel d n : Nat} {listed : Array Bool} (i : Nat) {fid : FuncId} {args : Array Value} {R : Ending → World → Prop} (hi : ops[i]? = some o) (hr : Region.ready .any ops listed = [i])
    (hw : Region.wanted o (yielded ops T) = true) (he : (execOp (⟨T, df⟩ : Act).eval o).run Try.prog w = .ok (.enter fid args) w) (hc : Calls Try.prog fid args w R) (hd : o.dst = some d) (hz : T.size = n) (hn : d < n)
    (hk : ∀ (e : Ending) (w' : World), R e w' → ∃ V, e = .returned V ∧ S w' ∧ ∀ T' : Array Value, T'.size = n → (∀ j, j ≠ d → T'[j]? = T[j]?) → T'[d]? = some (gw true V) → VH ops Q S fuel (listed.setIfInBounds i true) ⟨T', df⟩ w') : VH ops Q S (fuel + 1) listed ⟨T, df⟩ w := by
  refine ⟨wpAnyH_all hr (by simp) (fun j hj => ?_)⟩
  obtain rfl : j = i := by simpa using hj
  unfold wpOp
  rw [hi]
  simp only [hw, if_true]
  refine .inl ?_
  unfold Oper.wp
  rw [he, Oper.upon_enter]
  refine hc.mono ?_
  intro e w' hR
  obtain ⟨V, rfl, hS, hk'⟩ := hk e w' hR
  refine ⟨hS, ?_⟩
  rw [hd]
  exact (hk' (T.setIfInBounds d V) (by simp [hz]) (fun i hi => at_set_ne _ hi) (at_set _ (by omega))).out
theorem v_loop {c : Code} {Q : Exit → Act → World → Prop} {T0 : Array Value} {w0 : World} (x N : Nat) (I : Nat → Array Value → World → Prop) (hx : ∀ j T w, I j T w → T[x]? = some (gw true (.int .i64 (j : Int)))) (h0 : I 0 T0 w0)
    (round : ∀ j T w, j ≤ N → I j T w → c.wp Try.prog (Exit.then (fun a' w' => ∃ T', a' = ⟨T', []⟩ ∧ j + 1 ≤ N ∧ I (j + 1) T' w') Q) ⟨T, []⟩ w) : (Code.loop c).wp Try.prog Q ⟨T0, []⟩ w0 := by
  have sl : ∀ {j : Nat} {T : Array Value} {w : World}, I j T w → (intOf (T.getD x undef)).toNat = j := fun h => by
    rw [getD_of (hx _ _ _ h)]
    show (intOf (.int .i64 _)).toNat = _
    simp [intOf]
  refine wp_loop (fun a w => ∃ j T, a = ⟨T, []⟩ ∧ j ≤ N ∧ I j T w) (fun a w => N - (intOf (a.tmps.getD x undef)).toNat) ⟨0, T0, rfl, Nat.zero_le _, h0⟩ ?_
  rintro a w ⟨j, T, rfl, hj, hI⟩
  refine Code.wp_mono (fun e a' w' h => ?_) (round j T w hj hI)
  cases e with
  | normal =>
    obtain ⟨T', rfl, hj', hI'⟩ := h
    refine ⟨⟨j + 1, T', rfl, hj', hI'⟩, ?_⟩
    show N - (intOf (T'.getD x undef)).toNat < N - (intOf (T.getD x undef)).toNat
    rw [sl hI', sl hI]
    omega
  | _ => exact h
theorem vw {ops : Array Oper} {rest : List Oper} {o : Oper} {T : Array Value} {df : List Deferred} {w : World} {Q : Exit → Act → World → Prop} {d n : Nat} (V : Value) (w' : World) (hw : Region.wanted o (yielded ops T) = true) (he : (execOp (⟨T, df⟩ : Act).eval o).run Try.prog w = .ok (.value V) w') (hd : o.dst = some d) (hz : T.size = n) (hn : d < n)
    (hk : ∀ T' : Array Value, T'.size = n → (∀ i, i ≠ d → T'[i]? = T[i]?) → T'[d]? = some (gw true V) → wpList Try.prog ops Q rest ⟨T', df⟩ w') : wpList Try.prog ops Q (o :: rest) ⟨T, df⟩ w := by
  refine BigFrame.wpList_want hw (fun K hK => ?_)
  unfold Oper.wp
  rw [he, Oper.upon_value]
  refine hK _ _ ?_
  rw [hd]
  exact hk (T.setIfInBounds d V) (by simp [hz]) (fun i hi => at_set_ne _ hi) (at_set _ (by omega))
theorem vs {ops : Array Oper} {rest : List Oper} {o : Oper} {T : Array Value} {df : List Deferred} {w : World} {Q : Exit → Act → World → Prop} (w' : World) (hw : Region.wanted o (yielded ops T) = true) (he : (execOp (⟨T, df⟩ : Act).eval o).run Try.prog w = .ok .skip w') (hd : o.dst = none)
    (hk : wpList Try.prog ops Q rest ⟨T, df⟩ w') : wpList Try.prog ops Q (o :: rest) ⟨T, df⟩ w := by
  refine BigFrame.wpList_want hw (fun K hK => ?_)
  unfold Oper.wp
  rw [he, Oper.upon_skip]
  refine hK _ _ ?_
  rw [hd]
  exact hk
theorem ex_st {o : Oper} {ρ : Operand → Value} {s : TypeId} {x y : Operand} {X Y : Value} {w w' : World} (ho : o.op = .store s x y) (hx : ρ x = X) (hy : ρ y = Y) (hr : (Instr.storeAt s X Y).run Try.prog w = .ok () w') : (execOp ρ o).run Try.prog w = .ok .skip w' := by
  unfold execOp
  simp only [ho, hx, hy, Sem.run_bind, hr, Result.andThen_ok]
  rfl
theorem ex_al {o : Oper} {ρ : Operand → Value} {s : TypeId} {V : Value} {w w' : World} (ho : o.op = .alloc s) (hr : (Instr.alloc s true (.tuple #[])).run Try.prog w = .ok V w') : (execOp ρ o).run Try.prog w = .ok (.value V) w' := by
  unfold execOp
  simp only [ho, Sem.run_bind, hr, Result.andThen_ok]
  rfl
/-! Frames that are variables, for network. -/
theorem want_k {ops : Array Oper} {o : Oper} {T : Array Value} {g j : Nat} {pol : Bool} (h : o.guard = some (g, pol)) (hg : (ops[g]?).bind (·.dst) = some j) (hj : T[j]? = some (gw true (.bool pol))) : Region.wanted o (yielded ops T) = true := by
  rw [want_g h hg hj]
  simp
theorem ex_lenP {o : Oper} {ρ : Operand → Value} {i : Nat} {a : Option Addr} {n k : Nat} {w : World} (ho : o.op = .call { callee := .builtin .len, args := #[.tmp i], argTypes := #[60] }) (ht : o.type = 3) (hx : ρ (.tmp i) = .slice a n k) : (execOp ρ o).run Try.prog w = .ok (.value (.int .i64 (n : Int))) w := by
  unfold execOp
  simp only [ho, resolve, invoke, builtin, Sem.run_bind, Sem.run_pure, Result.andThen_ok, List.map_toArray, List.map_cons, List.map_nil, hx, ht]
  go_simp
structure C3 (w : World) (q o : Nat) (x : Ap) : Prop where
  lt : q < w.heap.size
  c0 : w.cell? ⟨q, o, none⟩ = some (.int .i64 x.f)
  c1 : w.cell? ⟨q, o + 1, none⟩ = some (.int .i64 x.t)
  c2 : w.cell? ⟨q, o + 2, none⟩ = some (.slice x.a x.s.length x.c)
theorem C3.upd {S : Nat → Prop} {w w' : World} {q o : Nat} {x : Ap} (h : C3 w q o x) (u : Upd S w w') (hs : ¬ S q) : C3 w' q o x :=
  ⟨Nat.lt_of_lt_of_le h.lt u.size, (u.cell (p := ⟨q, o, none⟩) h.lt hs).trans h.c0, (u.cell (p := ⟨q, o + 1, none⟩) h.lt hs).trans h.c1, (u.cell (p := ⟨q, o + 2, none⟩) h.lt hs).trans h.c2⟩
theorem C3.bel {w w' : World} {q o : Nat} {x : Ap} (h : C3 w q o x) (hb : Below w.heap.size w w') : C3 w' q o x := h.upd (S := fun _ => False) (Upd.of_below hb) id
theorem C3.ld {w : World} {q o : Nat} {x : Ap} (h : C3 w q o x) : (Instr.loadAt 46 (.pointer (some ⟨q, o, none⟩))).run Try.prog w = .ok x.val w := by
  have h0 := h.c0
  have h1 := h.c1
  have h2 := h.c2
  unfold Ap.val
  clear h
  go_simp
theorem ixP (q o n c i : Nat) (hi : i < n) (w : World) : (Instr.indexAt 60 (.slice (some ⟨q, o, none⟩) n c) (.int .i64 (i : Int))).run Try.prog w = .ok (.pointer (some ⟨q, o + i * 3, none⟩)) w := by
  have h1 : (i : Int) < (n : Int) := by omega
  go_simp
theorem neqI (x y : Operand) (a : Int) (w : World) : (do eqGuard .neq 3 x y (.int .i64 a) (.int .i64 a); binOp .neq 3 (.int .i64 a) (.int .i64 a) : Sem Value).run Try.prog w = .ok (.bool false) w := by
  go_simp
theorem alP (w : World) : (Instr.alloc 46 true (.tuple #[])).run Try.prog w = .ok (.pointer (some ⟨w.heap.size, 0, none⟩)) (w.alloc (.cells #[.int .i64 0, .int .i64 0, .slice none 0 0] 46)) := by
  go_simp
def put3 (w : World) (q : Nat) (x : Ap) : World := ((w.setCell ⟨q, 0, none⟩ (.int .i64 x.f)).setCell ⟨q, 1, none⟩ (.int .i64 x.t)).setCell ⟨q, 2, none⟩ (.slice x.a x.s.length x.c)
theorem stP {w : World} {q : Nat} {x y z : Value} (h : B3 w q x y z) (p : Ap) : (Instr.storeAt 46 (.pointer (some ⟨q, 0, none⟩)) p.val).run Try.prog w = .ok () (put3 w q p) := by
  obtain ⟨_, c0, c1, c2, fr⟩ := h
  have f0 := fr 0
  have f1 := fr 1
  have f2 := fr 2
  unfold Ap.val put3
  go_simp
theorem B3.put3 {w : World} {q : Nat} {x y z : Value} (h : B3 w q x y z) (p : Ap) : B3 (put3 w q p) q (.int .i64 p.f) (.int .i64 p.t) (.slice p.a p.s.length p.c) ∧ Upd (fun k => k = q) w (put3 w q p) :=
  ⟨((h.set0 _).set1 _).set2 _, set3 w q _ _ _⟩
theorem B3.c3 {w : World} {q : Nat} {p : Ap} (h : B3 w q (.int .i64 p.f) (.int .i64 p.t) (.slice p.a p.s.length p.c)) : C3 w q 0 p := ⟨h.lt, h.c0, h.c1, h.c2⟩
theorem Hs.c3 {A : Nat → Prop} {w0 w : World} {Bp Tp b q o n c : Nat} {K : List Ap} {W P : List Pk} (h : Hs A w0 Bp Tp b (.slice (some ⟨q, o, none⟩) n c) K W w P) {i : Nat} {u : Ap} (hu : K[i]? = some u) : C3 w q (o + i * 3) u := by
  obtain ⟨q', o', e', hq, hl⟩ := (OwnY.sl' kA h.l.l.own).place (by rintro rfl; simp at hu)
  cases e'
  exact ⟨hq, hl _ _ hu 0 _ rfl, hl _ _ hu 1 _ rfl, hl _ _ hu 2 _ rfl⟩
theorem Hs.uin {A : Nat → Prop} {w0 w : World} {Bp Tp b : Nat} {v : Value} {K : List Ap} {W P : List Pk} (h : Hs A w0 Bp Tp b v K W w P) {i : Nat} {u : Ap} (hu : K[i]? = some u) : u.In w := (h.l.l.ow u (List.mem_of_getElem? hu)).sl
theorem Hs.ne {A : Nat → Prop} {w0 w : World} {Bp Tp b : Nat} {v : Value} {K : List Ap} {W P : List Pk} (h : Hs A w0 Bp Tp b v K W w P) {q : Nat} (hq : A q) : ¬ q = b := by
  obtain ⟨pv, rv, mb, n, R, M, h1, h2, h3, h4, h5⟩ := h.n.ex
  exact (h5 q hq).1
end Go.Proofs.Ytjpkdnndhjnkpaa
namespace Go.Proofs.Ytjpkdnndhjnkpaa
open Go.RowKit Go.Maps Go.Shelf
open Classical
/-! Frames that are variables, within a round of a range over a function. -/
def noDefer7 (o : Oper) : Bool := match o.op with | .defer _ => false | _ => true
theorem noDefer7_ne {o : Oper} (h : noDefer7 o = true) (c : Call) : o.op ≠ .defer c := fun e => by simp [noDefer7, e] at h
theorem rowsIn7 {P : Program} {row : String} {args : Array Value} {w : World} {R : Value → World → Prop} {l n : Nat} (h : Rows P row args w R) : RowsIn (Fence.wide.inRound l) n P row args w R :=
  fun c cs _ => let ⟨v, w', r, s⟩ := h c cs; ⟨v, w', r, stepsIn_wide.2 s⟩
theorem opIn_of_wp {P : Program} {l n : Nat} {o : Oper} {a : Act} {K K' : Act → World → Prop} {Q : Exit → Act → World → Prop} {w : World} (hnd : noDefer7 o = true) (hK : ∀ a w, K a w → K' a w) (hh : o.wp P a w K Q) : o.wpIn (Fence.wide.inRound l) n P a w K' Q := by
  unfold Oper.wpIn
  refine ⟨fun _ _ => trivial, ?_⟩
  rw [Fence.inRound_round, Oper.semAt_some _ _ _ (noDefer7_ne hnd)]
  unfold Oper.wp at hh
  generalize (execOp a.eval o).run P w = r at *
  cases r with
  | ok x w' =>
    cases x <;> simp only [Oper.upon] at hh <;> simp only [Oper.uponIn]
    case value u => exact hK _ _ hh
    case skip => exact hK _ _ hh
    case defer d => exact hK _ _ hh
    case enter f args =>
      refine ⟨fun h => (by cases h), CallsIn.inRound l (callsIn_wide.2 (hh.mono fun e w'' he => ?_))⟩
      cases e with
      | returned v => exact hK _ _ he
      | _ => exact he
    case row r args => exact ⟨fun h => (by cases h), rowsIn7 (hh.mono fun v w'' he => hK _ _ he)⟩
  | halt x w' => cases x <;> simp only [Oper.upon] at hh <;> simp only [Oper.uponIn] <;> exact hh
theorem rlist7 {P : Program} {ops : Array Oper} {l n : Nat} {Q : Exit → Act → World → Prop} (hLO : ¬ LetsOut Q) : ∀ (os : List Oper) (a : Act) (w : World), os.all noDefer7 = true → wpList P ops Q os a w → wpListIn (Fence.wide.inRound l) n P ops Q os a w
  | [], a, w, _, h => h
  | o :: rest, a, w, hnd, h => by
    have hn2 : noDefer7 o = true ∧ rest.all noDefer7 = true := by simpa using hnd
    unfold wpList at h
    unfold wpListIn
    split
    · rename_i hw
      rw [if_pos hw] at h
      rcases h with h | h
      · exact opIn_of_wp hn2.1 (fun a w h => rlist7 hLO rest a w hn2.2 h) h
      · exact absurd h.2 hLO
    · rename_i hw
      rw [if_neg hw] at h
      exact ⟨fun _ _ => trivial, rlist7 hLO rest _ _ hn2.2 h⟩
theorem round_lit7 {P : Program} {id l n : Nat} {os : List Oper} {Q : Exit → Act → World → Prop} {a : Act} {w : World} (hnd : os.all noDefer7 = true) (hLO : ¬ LetsOut Q) (h : wpList P os.toArray Q os a w) : (Code.region id os.toArray false).wpIn (Fence.wide.inRound l) n P Q a w :=
  wpIn_region_lit (rlist7 hLO os a w hnd h)
theorem anyIn_of_held7 {P : Program} {ops : Array Oper} {md : Region.Mode} {l n : Nat} {Q : Exit → Act → World → Prop} {S : World → Prop} (hnd : ∀ (i : Nat) (o : Oper), ops[i]? = some o → noDefer7 o = true) (hLO : ¬ LetsOut Q) : ∀ (fuel : Nat) (listed : Array Bool) (a : Act) (w : World),
    wpAnyH P md ops Q S fuel listed a w → wpAnyIn (Fence.wide.inRound l) n P md ops Q fuel listed a w
  | 0, _, _, _, h => h
  | fuel + 1, listed, a, w, h => by
    refine ⟨h.1, fun i hi => ?_⟩
    have h2 := h.2 i hi
    unfold wpOp at h2
    unfold wpOpIn
    split
    · rename_i ho
      simp only [ho] at h2
      exact anyIn_of_held7 hnd hLO fuel _ _ _ h2.2
    · rename_i o ho
      simp only [ho] at h2
      split
      · rename_i hw
        rw [if_pos hw] at h2
        rcases h2 with h2 | h2
        · exact opIn_of_wp (hnd _ _ ho) (fun a w h => anyIn_of_held7 hnd hLO fuel _ a w h.2) h2
        · exact absurd h2.2 hLO
      · rename_i hw
        rw [if_neg hw] at h2
        exact ⟨fun _ _ => trivial, anyIn_of_held7 hnd hLO fuel _ _ _ h2.2⟩
theorem round_held7 {id l n : Nat} {os : List Oper} {Q : Exit → Act → World → Prop} {a : Act} {w : World} (S : World → Prop) (hm : Try.prog.follows .mixedOrders = true) (hnd : os.all noDefer7 = true) (hLO : ¬ LetsOut Q) (h : VH os.toArray Q S os.length (Array.replicate os.length false) a w.drew) : (Code.region id os.toArray true).wpIn (Fence.wide.inRound l) n Try.prog Q a w := by
  have hLO2 : ¬ LetsOut (NoPanic Q) := fun h => by
    obtain ⟨a, w, h⟩ := h
    exact hLO ⟨a, w, h⟩
  have key : (Code.region id os.toArray true).wpIn (Fence.wide.inRound l) n Try.prog (NoPanic Q) a w := wpIn_region_any hm (anyIn_of_held7 (S := S) ?_ hLO2 _ _ _ _ ?_)
  exact wpIn_mono key NoPanic.imp
  · intro i o ho
    rw [List.getElem?_toArray] at ho
    exact List.all_eq_true.1 hnd o (List.mem_of_getElem? ho)
  · simpa using h.out
theorem v_loopZ {c : Code} {Q : Exit → Act → World → Prop} {T0 : Array Value} {w0 : World} (x N o : Nat) (I : Nat → Array Value → World → Prop) (hx : ∀ j T w, I j T w → T[x]? = some (gw true (.int .i64 ((j : Int) - (o : Int))))) (h0 : I 0 T0 w0)
    (round : ∀ j T w, j ≤ N → I j T w → c.wp Try.prog (Exit.then (fun a' w' => ∃ T', a' = ⟨T', []⟩ ∧ j + 1 ≤ N ∧ I (j + 1) T' w') Q) ⟨T, []⟩ w) : (Code.loop c).wp Try.prog Q ⟨T0, []⟩ w0 := by
  have sl : ∀ {j : Nat} {T : Array Value} {w : World}, I j T w → (intOf (T.getD x undef) + (o : Int)).toNat = j := fun h => by
    rw [getD_of (hx _ _ _ h)]
    show (intOf (.int .i64 _) + (o : Int)).toNat = _
    simp [intOf]
  refine wp_loop (fun a w => ∃ j T, a = ⟨T, []⟩ ∧ j ≤ N ∧ I j T w) (fun a w => N - (intOf (a.tmps.getD x undef) + (o : Int)).toNat) ⟨0, T0, rfl, Nat.zero_le _, h0⟩ ?_
  rintro a w ⟨j, T, rfl, hj, hI⟩
  refine Code.wp_mono (fun e a' w' h => ?_) (round j T w hj hI)
  cases e with
  | normal =>
    obtain ⟨T', rfl, hj', hI'⟩ := h
    refine ⟨⟨j + 1, T', rfl, hj', hI'⟩, ?_⟩
    show N - (intOf (T'.getD x undef) + (o : Int)).toNat < N - (intOf (T.getD x undef) + (o : Int)).toNat
    rw [sl hI', sl hI]
    omega
  | _ => exact h
/-! Numbers. -/
theorem cellB7 {w v : World} {p : Addr} {x : Value} (h : w.cell? p = some x) (hv : Below w.heap.size w v) : v.cell? p = some x := (hv.cell (World.block_lt_of_cell? _ _ h)).trans h
theorem ixJ7 (g n c i : Nat) (hi : i < n) (w : World) : (Instr.indexAt 74 (.slice (some ⟨g, 0, none⟩) n c) (.int .i64 (i : Int))).run Try.prog w = .ok (.pointer (some ⟨g, i, none⟩)) w := by
  have h1 : (i : Int) < (n : Int) := by omega
  go_simp
theorem ldI7 {w : World} {q i : Nat} {z : Int} (h : w.cell? ⟨q, i, none⟩ = some (.int .i64 z)) : (Instr.loadAt 3 (.pointer (some ⟨q, i, none⟩))).run Try.prog w = .ok (.int .i64 z) w := by
  go_simp
theorem ldS7 {w : World} {q i : Nat} {a : Option Addr} {n c : Nat} (h : w.cell? ⟨q, i, none⟩ = some (.slice a n c)) : (Instr.loadAt 60 (.pointer (some ⟨q, i, none⟩))).run Try.prog w = .ok (.slice a n c) w := by
  go_simp
theorem stI7 {w : World} {g i : Nat} {z : Value} (h : w.cell? ⟨g, i, none⟩ = some z) (hf : w.frozen? ⟨g, i, none⟩ = false) (y : Int) : (Instr.storeAt 3 (.pointer (some ⟨g, i, none⟩)) (.int .i64 y)).run Try.prog w = .ok () (w.setCell ⟨g, i, none⟩ (.int .i64 y)) := by
  go_simp
theorem stB7 {w : World} {g i : Nat} {z : Value} (h : w.cell? ⟨g, i, none⟩ = some z) (hf : w.frozen? ⟨g, i, none⟩ = false) (y : Bool) : (Instr.storeAt 4 (.pointer (some ⟨g, i, none⟩)) (.bool y)).run Try.prog w = .ok () (w.setCell ⟨g, i, none⟩ (.bool y)) := by
  go_simp
theorem alI7 (w : World) : (Instr.alloc 3 true (.tuple #[])).run Try.prog w = .ok (.pointer (some ⟨w.heap.size, 0, none⟩)) (w.alloc (.cells #[.int .i64 0] 3)) := by
  go_simp
theorem faT7 (q o : Nat) (w : World) : (Instr.fieldAt 46 (.pointer (some ⟨q, o, none⟩)) 1).run Try.prog w = .ok (.pointer (some ⟨q, o + 1, none⟩)) w := by go_simp
theorem ex_lenJ7 {o : Oper} {ρ : Operand → Value} {i : Nat} {a : Option Addr} {n k : Nat} {w : World} (ho : o.op = .call { callee := .builtin .len, args := #[.tmp i], argTypes := #[74] }) (ht : o.type = 3) (hx : ρ (.tmp i) = .slice a n k) : (execOp ρ o).run Try.prog w = .ok (.value (.int .i64 (n : Int))) w := by
  unfold execOp
  simp only [ho, resolve, invoke, builtin, Sem.run_bind, Sem.run_pure, Result.andThen_ok, List.map_toArray, List.map_cons, List.map_nil, hx, ht]
  go_simp
theorem lssD7 (x y : Operand) (a b : Int) (d : Bool) (h : decide (a < b) = d) (w : World) : (do eqGuard .lss 3 x y (.int .i64 a) (.int .i64 b); binOp .lss 3 (.int .i64 a) (.int .i64 b) : Sem Value).run Try.prog w = .ok (.bool d) w := by
  rw [lssC, h]
theorem geqD7 (x y : Operand) (a b : Int) (d : Bool) (h : decide (b ≤ a) = d) (w : World) : (do eqGuard .geq 3 x y (.int .i64 a) (.int .i64 b); binOp .geq 3 (.int .i64 a) (.int .i64 b) : Sem Value).run Try.prog w = .ok (.bool d) w := by
  rw [geqC, h]
theorem neqD7 (x y : Operand) (a b : Int) (d : Bool) (h : (!decide (a = b)) = d) (w : World) : (do eqGuard .neq 3 x y (.int .i64 a) (.int .i64 b); binOp .neq 3 (.int .i64 a) (.int .i64 b) : Sem Value).run Try.prog w = .ok (.bool d) w := by
  rw [neqC, h]
theorem eqlD7 (x y : Operand) (a b : Int) (d : Bool) (h : decide (a = b) = d) (w : World) : (do eqGuard .eql 3 x y (.int .i64 a) (.int .i64 b); binOp .eql 3 (.int .i64 a) (.int .i64 b) : Sem Value).run Try.prog w = .ok (.bool d) w := by
  rw [eqlC, h]
theorem addD7 (x y : Operand) (a z : Int) (h : IntKind.i64.wrap (a + 1) = z) (w : World) : (do eqGuard .add 3 x y (.int .i64 a) (.int .i64 1); binOp .add 3 (.int .i64 a) (.int .i64 1) : Sem Value).run Try.prog w = .ok (.int .i64 z) w := by
  subst h
  go_simp
theorem subD7 (x y : Operand) (a z : Int) (h : IntKind.i64.wrap (a - 1) = z) (w : World) : (do eqGuard .sub 3 x y (.int .i64 a) (.int .i64 1); binOp .sub 3 (.int .i64 a) (.int .i64 1) : Sem Value).run Try.prog w = .ok (.int .i64 z) w := by
  subst h
  go_simp
theorem nilF7 (x y : Operand) (k : Nat) (w : World) : (do eqGuard .eql 78 x y (.func (.func 83) #[] #[.pointer (some ⟨k, 0, none⟩)]) .nilFunc; binOp .eql 78 (.func (.func 83) #[] #[.pointer (some ⟨k, 0, none⟩)]) .nilFunc : Sem Value).run Try.prog w = .ok (.bool false) w := by kernel_rfl
end Go.Proofs.Ytjpkdnndhjnkpaa
