import Derived.Test.YtnhonkgondljjaaSk8
import Derived.Test.YtnhonkgondljjaaSz
import Derived.Test.YtnhonkgondljjaaTb
import Derived.Test.YtnhonkgondljjaaGPk
namespace Go.Proofs.Ytnhonkgondljjaa
open Go.ChangeShapes Go.WideShapes Go.ChangeAt Go.RowKit
open Classical
set_option linter.unusedVariables false

theorem akCells : Try.prog.cellsOf 55 = 4 := by kernel_rfl
theorem akBytes : Try.prog.bytesOf 55 = 32 := by kernel_rfl
theorem u64Cells9 : Try.prog.cellsOf 25 = 1 := by kernel_rfl
theorem drCells9 : Try.prog.cellsOf 27 = 2 := by kernel_rfl
set_option maxRecDepth 100000 in
theorem open_drc9 {H : Type} {enc : TypeId × Value → H} {W : World} {base : Nat} {sp : Nat → Bool} {held : Bool} {n : Nat} {cs : List Value} {x : DataW H × List MemPlace} (h : DataW.trod enc Try.prog W base sp held n 27 cs = some x) :
    ∃ a b : Int, ((Lit.int .u64 a).wf = true ∧ (Lit.int .u64 b).wf = true) ∧ cs = [.int .u64 a, .int .u64 b] := by
  obtain ⟨xs, k, hk, hxy, hlen, hxl, hf⟩ := DataW.trod_struct Try.underlying27 h
  rw [drCells9] at hlen
  have hxl : xs.length = 2 := hxl
  match xs, hxl, cs, hlen with
  | [y0, y1], _, [v0, v1], _ =>
    have g0 := hf 0 _ rfl
    have g1 := hf 1 _ rfl
    simp [u64Cells9] at g0 g1
    obtain ⟨K, hK, hx0, hw0⟩ := DataW.trod_int Try.underlying25 g0
    obtain ⟨N, hN, hx2, hw2⟩ := DataW.trod_int Try.underlying25 g1
    refine ⟨K, N, ⟨hw0, hw2⟩, ?_⟩
    rw [(List.cons_eq_cons.1 hK).1, (List.cons_eq_cons.1 hN).1]
set_option maxRecDepth 100000 in
theorem open_akc {H : Type} {enc : TypeId × Value → H} {W : World} {base : Nat} {sp : Nat → Bool} {held : Bool} {n : Nat} {cs : List Value} {x : DataW H × List MemPlace} (h : DataW.trod enc Try.prog W base sp held n 55 cs = some x) : ∃ e : Ak, True ∧ cs = yAkA.cs e := by
  obtain ⟨xs, k, hk, hxy, hlen, hxl, hf⟩ := DataW.trod_struct Try.underlying55 h
  rw [akCells] at hlen
  have hxl : xs.length = 3 := hxl
  match xs, hxl, cs, hlen with
  | [y0, y1, y2], _, [v0, v1, v2, v3], _ =>
    have g0 := hf 0 _ rfl
    have g1 := hf 1 _ rfl
    have g2 := hf 2 _ rfl
    simp [intCells, drCells9] at g0 g1 g2
    obtain ⟨N, hN, _, wN⟩ := DataW.trod_int Try.underlying3 g0
    obtain ⟨a, b, _, hdr⟩ := open_drc9 g1
    obtain ⟨P, hP, _, wP⟩ := DataW.trod_int Try.underlying3 g2
    refine ⟨⟨N, a, b, P⟩, trivial, ?_⟩
    simp at hN hdr hP
    obtain ⟨h1, h2⟩ := hdr
    subst hN h1 h2 hP
    rfl
/-- Acknowledgements that came in. -/
def CameAk (W : World) (a : Option Addr) (len cap : Nat) : Prop := ∃ P : List Ak, SlY yAkA W a len cap P ∧ len * 32 ≤ 140737488351232
set_option maxRecDepth 100000 in
theorem open_acks {H : Type} {enc : TypeId × Value → H} {W : World} {base : Nat} {v : Value} {d : DataW H} {p : List MemPlace} (hv : Value.okWide Try.prog W .any base 50 v) (h : DataW.Trod enc Try.prog W 0 (fun _ => true) true 50 v d p)
    (hs : ∀ el sp, d = .slice el sp → (el.length + sp.length) * Try.prog.bytesOf 55 ≤ reachBytes) : ∃ a len cap, v = .slice a len cap ∧ CameAk W a len cap := by
  haveI : Inhabited Ak := ⟨⟨0, 0, 0, 0⟩⟩
  obtain ⟨a, n, c, rfl, P, h1, _, el, sp, e1, _, e3⟩ := open_rowsN kAkA (fun _ => True) akCells (fun h => open_akc h) hv h
  refine ⟨a, n, c, rfl, P, h1, ?_⟩
  rcases e3 with e3 | e3
  · omega
  · have := hs el sp e3
    rw [akBytes, e1, Nat.add_mul] at this
    simp only [reachBytes] at this
    omega

end Go.Proofs.Ytnhonkgondljjaa

namespace Go.Proofs.Ytnhonkgondljjaa
open Go.RowKit Go.Maps
open Classical
set_option linter.unusedVariables false
set_option linter.unusedSimpArgs false

theorem wqe {ops : Array Oper} {rest : List Oper} {o : Oper} {a : Act} {C : World → Prop} {Q : Act → Prop} (hw : Region.wanted o (yielded ops a.tmps) = true) {T ty : TypeId} {x y : Operand} (ho : o.op = .binOp .eql T x y ty) (X Y u : Value) (hx : a.eval x = X) (hy : a.eval y = Y) (hq : ∀ v, (do eqGuard .eql T x y X Y; binOp .eql T X Y : Sem Value).run Try.prog v = .ok u v) (hk : WQ Try.prog ops C Q rest (a.put o.dst u)) : WQ Try.prog ops C Q (o :: rest) a :=
  wqv hw (fun v _ => by
    unfold execOp
    simp only [ho, hx, hy]
    rw [Sem.run_bind, hq v]
    rfl) hk
theorem eqlAk (x y : Ak) (A B : Nat) (w : World) : (do eqGuard .eql 55 (.tmp A) (.tmp B) x.val y.val; binOp .eql 55 x.val y.val : Sem Value).run Try.prog w = .ok (.bool (decide (x = y))) w := by
  obtain ⟨a, b, c, d⟩ := x
  obtain ⟨a', b', c', d'⟩ := y
  unfold Ak.val
  go_simp
  by_cases e1 : a = a' <;> by_cases e2 : b = b' <;> by_cases e3 : c = c' <;> by_cases e4 : d = d' <;> simp [e1, e2, e3, e4]
theorem eqlDr (h l h' l' : Int) (A B : Nat) (w : World) : (do eqGuard .eql 27 (.tmp A) (.tmp B) (.agg #[.int .u64 h, .int .u64 l]) (.agg #[.int .u64 h', .int .u64 l']); binOp .eql 27 (.agg #[.int .u64 h, .int .u64 l]) (.agg #[.int .u64 h', .int .u64 l']) : Sem Value).run Try.prog w = .ok (.bool (decide (h = h' ∧ l = l'))) w := by
  go_simp
  by_cases e1 : h = h' <;> by_cases e2 : l = l' <;> simp [e1, e2]

end Go.Proofs.Ytnhonkgondljjaa

namespace Go.Proofs.Ytnhonkgondljjaa
open Go.ChangeShapes Go.WideShapes Go.ChangeAt Go.RowKit
open Classical
set_option linter.unusedVariables false
set_option linter.unusedSimpArgs false

theorem cmpD_neg (h l h' l' : Int) : cmpD h l h' l' < 0 ↔ (h < h' ∨ (h = h' ∧ l < l')) := by
  unfold cmpD cmpI
  split
  · subst_vars
    split
    · omega
    · split <;> omega
  · split
    · omega
    · split <;> omega
theorem ovr_zero (k : Nat) (n h l : Int) (h0 : 0 ≤ h) (l0 : 0 ≤ l) : ovr (List.replicate k (0, 0)) n h l = false := by
  unfold ovr
  by_cases c : 0 ≤ n ∧ n < ((List.replicate k ((0, 0) : Int × Int)).length : Int)
  · rw [decide_eq_true c, Bool.true_and, decide_eq_false]
    have : (List.replicate k ((0, 0) : Int × Int)).getD n.toNat (0, 0) = (0, 0) := by
      rw [List.getD_eq_getElem?_getD, List.getElem?_replicate]
      split <;> rfl
    rw [this, cmpD_neg]
    omega
  · rw [decide_eq_false c, Bool.false_and]
/-- Of two vectors the greater entries. -/
def bth (D E : List (Int × Int)) (i : Nat) : Int × Int :=
  let d := D.getD i (0, 0)
  if i < E.length ∧ (d.1 < (E.getD i (0, 0)).1 ∨ (d.1 = (E.getD i (0, 0)).1 ∧ d.2 < (E.getD i (0, 0)).2)) then E.getD i (0, 0) else d
theorem ovr_both (D E : List (Int × Int)) (n h l : Int) (h0 : 0 ≤ h) (l0 : 0 ≤ l) : ovr ((List.range (max D.length E.length)).map (bth D E)) n h l = (ovr D n h l || ovr E n h l) := by
  unfold ovr
  rw [Bool.eq_iff_iff]
  simp only [List.length_map, List.length_range, Bool.and_eq_true, Bool.or_eq_true, decide_eq_true_iff, cmpD_neg]
  by_cases hn : 0 ≤ n
  · obtain ⟨j, rfl⟩ : ∃ j : Nat, n = (j : Int) := ⟨n.toNat, by omega⟩
    rw [Int.toNat_natCast]
    by_cases hj : j < max D.length E.length
    · have e1 : ((List.range (max D.length E.length)).map (bth D E)).getD j (0, 0) = bth D E j := by
        rw [List.getD_eq_getElem?_getD, List.getElem?_map, List.getElem?_range hj]
        rfl
      rw [e1]
      unfold bth
      dsimp only
      have z1 : ¬ j < D.length → D.getD j (0, 0) = (0, 0) := fun hh => by rw [List.getD_eq_getElem?_getD, List.getElem?_eq_none (by omega)]; rfl
      have z2 : ¬ j < E.length → E.getD j (0, 0) = (0, 0) := fun hh => by rw [List.getD_eq_getElem?_getD, List.getElem?_eq_none (by omega)]; rfl
      generalize D.getD j (0, 0) = d at *
      generalize E.getD j (0, 0) = e at *
      obtain ⟨d1, d2⟩ := d
      obtain ⟨f1, f2⟩ := e
      simp only [Prod.mk.injEq] at z1 z2
      dsimp only
      split
      · dsimp only
        omega
      · dsimp only
        omega
    · omega
  · omega
theorem Ak.prn_zero (L : List Ak) (k : Nat) (h : ∀ x ∈ L, 0 ≤ x.h ∧ 0 ≤ x.l) : Ak.prn L (List.replicate k (0, 0)) = L := by
  unfold Ak.prn
  rw [List.filter_eq_self]
  intro x hx
  rw [ovr_zero k x.n x.h x.l (h x hx).1 (h x hx).2]
  rfl
theorem Ak.prn_twice (L : List Ak) (D : List (Int × Int)) : Ak.prn (Ak.prn L D) D = Ak.prn L D := by
  unfold Ak.prn
  rw [List.filter_filter]
  congr 1
  funext x
  simp
theorem Ak.prn_both (L : List Ak) (D E : List (Int × Int)) (h : ∀ x ∈ L, 0 ≤ x.h ∧ 0 ≤ x.l) : Ak.prn (Ak.prn L D) E = Ak.prn L ((List.range (max D.length E.length)).map (bth D E)) := by
  unfold Ak.prn
  rw [List.filter_filter]
  apply List.filter_congr
  intro x hx
  rw [ovr_both D E x.n x.h x.l (h x hx).1 (h x hx).2]
  cases ovr D x.n x.h x.l <;> cases ovr E x.n x.h x.l <;> rfl
theorem Ak.prn_mem {L : List Ak} {D : List (Int × Int)} {x : Ak} (h : x ∈ Ak.prn L D) : x ∈ L := (List.mem_filter.1 h).1
theorem Ak.prn_step {L : List Ak} {D : List (Int × Int)} {i : Nat} {x : Ak} (h : L[i]? = some x) : Ak.prn (L.take (i + 1)) D = Ak.prn (L.take i) D ++ (if ovr D x.n x.h x.l = true then [] else [x]) := by
  unfold Ak.prn
  rw [List.take_add_one, h, Option.toList_some, List.filter_append, List.filter_cons]
  cases ovr D x.n x.h x.l <;> rfl
theorem Ak.prn_at {L : List Ak} {D : List (Int × Int)} {i : Nat} {x : Ak} (h : L[i]? = some x) (ho : ovr D x.n x.h x.l = false) : (Ak.prn L D)[(Ak.prn (L.take i) D).length]? = some x := by
  have hi := (List.getElem?_eq_some_iff.1 h).1
  have e : L = L.take i ++ x :: L.drop (i + 1) := by
    rw [← (List.getElem?_eq_some_iff.1 h).2, ← List.drop_eq_getElem_cons hi, List.take_append_drop]
  have : Ak.prn L D = Ak.prn (L.take i) D ++ x :: Ak.prn (L.drop (i + 1)) D := by
    conv => lhs; rw [e]
    unfold Ak.prn
    rw [List.filter_append, List.filter_cons, ho]
    rfl
  rw [this, List.getElem?_append_right (Nat.le_refl _), Nat.sub_self]
  rfl
theorem Ch.self {P : Ak → Prop} {l m : List Ak} (h : Ch P l) (hs : m.Sublist l) : Ch (fun x => x ∈ m) m := by
  refine ⟨h.srt.sublist (hs.map _), fun x hx => ⟨hx, fun v hv e => ?_⟩, fun v hv => ⟨v, hv, rfl⟩⟩
  obtain ⟨i, hi, rfl⟩ := List.mem_iff_getElem.1 (hs.subset hx)
  obtain ⟨j, hj, rfl⟩ := List.mem_iff_getElem.1 (hs.subset hv)
  have := h.inj (List.getElem?_eq_getElem hj) (List.getElem?_eq_getElem hi) e
  subst this
  unfold Ak.up
  omega
theorem nodup_le : ∀ (l m : List Int), l.Nodup → (∀ x ∈ l, x ∈ m) → l.length ≤ m.length
  | [], m, _, _ => Nat.zero_le _
  | x :: r, m, hn, hs => by
    rw [List.nodup_cons] at hn
    have := nodup_le r (m.erase x) hn.2 (fun y hy => (List.mem_erase_of_ne (fun e => hn.1 (by rw [← e]; exact hy))).2 (hs y (List.mem_cons_of_mem _ hy)))
    rw [List.length_erase_of_mem (hs x (List.mem_cons_self ..))] at this
    have h0 : 0 < m.length := List.length_pos_of_mem (hs x (List.mem_cons_self ..))
    rw [List.length_cons]
    omega
theorem Ch.len_le {P Q : Ak → Prop} {l m : List Ak} (h : Ch P l) (h2 : Ch Q m) (hPQ : ∀ x, P x → Q x) : l.length ≤ m.length := by
  have := nodup_le (l.map (·.n)) (m.map (·.n)) (nodup_of_sorted h.srt) (fun v hv => by
    obtain ⟨x, hx, rfl⟩ := List.mem_map.1 hv
    obtain ⟨y, hy, e⟩ := h2.all x (hPQ x (h.top x hx).1)
    exact List.mem_map.2 ⟨y, hy, e⟩)
  simpa using this
set_option maxRecDepth 100000 in
theorem open_akcW {H : Type} {enc : TypeId × Value → H} {W : World} {base : Nat} {sp : Nat → Bool} {held : Bool} {n : Nat} {cs : List Value} {x : DataW H × List MemPlace} (h : DataW.trod enc Try.prog W base sp held n 55 cs = some x) : ∃ e : Ak, (0 ≤ e.h ∧ 0 ≤ e.l) ∧ cs = yAkA.cs e := by
  obtain ⟨xs, k, hk, hxy, hlen, hxl, hf⟩ := DataW.trod_struct Try.underlying55 h
  rw [akCells] at hlen
  have hxl : xs.length = 3 := hxl
  match xs, hxl, cs, hlen with
  | [y0, y1, y2], _, [v0, v1, v2, v3], _ =>
    have g0 := hf 0 _ rfl
    have g1 := hf 1 _ rfl
    have g2 := hf 2 _ rfl
    simp [intCells, drCells9] at g0 g1 g2
    obtain ⟨N, hN, _, wN⟩ := DataW.trod_int Try.underlying3 g0
    obtain ⟨a, b, ⟨wa, wb⟩, hdr⟩ := open_drc9 g1
    obtain ⟨P, hP, _, wP⟩ := DataW.trod_int Try.underlying3 g2
    refine ⟨⟨N, a, b, P⟩, ?_, ?_⟩
    · simp [Lit.wf, IntKind.min, IntKind.max, IntKind.bits, IntKind.signed] at wa wb
      exact ⟨by show 0 ≤ a; omega, by show 0 ≤ b; omega⟩
    · simp at hN hdr hP
      obtain ⟨h1, h2⟩ := hdr
      subst hN h1 h2 hP
      rfl
def CameAkW (W : World) (a : Option Addr) (len cap : Nat) : Prop := ∃ P : List Ak, SlY yAkA W a len cap P ∧ (∀ x ∈ P, 0 ≤ x.h ∧ 0 ≤ x.l) ∧ len * 32 ≤ 140737488351232
set_option maxRecDepth 100000 in
theorem open_acksW {H : Type} {enc : TypeId × Value → H} {W : World} {base : Nat} {v : Value} {d : DataW H} {p : List MemPlace} (hv : Value.okWide Try.prog W .any base 50 v) (h : DataW.Trod enc Try.prog W 0 (fun _ => true) true 50 v d p)
    (hs : ∀ el sp, d = .slice el sp → (el.length + sp.length) * Try.prog.bytesOf 55 ≤ reachBytes) : ∃ a len cap, v = .slice a len cap ∧ CameAkW W a len cap := by
  haveI : Inhabited Ak := ⟨⟨0, 0, 0, 0⟩⟩
  obtain ⟨a, n, c, rfl, P, h1, h2, el, sp, e1, _, e3⟩ := open_rowsN kAkA (fun e => 0 ≤ e.h ∧ 0 ≤ e.l) akCells (fun h => open_akcW h) hv h
  refine ⟨a, n, c, rfl, P, h1, h2, ?_⟩
  rcases e3 with e3 | e3
  · omega
  · have := hs el sp e3
    rw [akBytes, e1, Nat.add_mul] at this
    simp only [reachBytes] at this
    omega
theorem drBytes9 : Try.prog.bytesOf 27 = 16 := by kernel_rfl
def CameVD (W : World) (a : Option Addr) (len cap : Nat) : Prop := ∃ P : List (Int × Int), SlY yD W a len cap P ∧ len * 16 ≤ 140737488351232
set_option maxRecDepth 100000 in
theorem open_vecD {H : Type} {enc : TypeId × Value → H} {W : World} {base : Nat} {v : Value} {d : DataW H} {p : List MemPlace} (hv : Value.okWide Try.prog W .any base 31 v) (h : DataW.Trod enc Try.prog W 0 (fun _ => true) true 31 v d p)
    (hs : ∀ el sp, d = .slice el sp → (el.length + sp.length) * Try.prog.bytesOf 27 ≤ reachBytes) : ∃ a len cap, v = .slice a len cap ∧ CameVD W a len cap := by
  obtain ⟨a, n, c, rfl, P, h1, h2, el, sp, e1, _, e3⟩ := open_rowsN kD (fun _ => True) drCells9 (fun h => by
    obtain ⟨x, y, _, e⟩ := open_drc9 h
    exact ⟨(x, y), trivial, e⟩) hv h
  refine ⟨a, n, c, rfl, P, h1, ?_⟩
  rcases e3 with e3 | e3
  · omega
  · have := hs el sp e3
    rw [drBytes9, e1, Nat.add_mul] at this
    simp only [reachBytes] at this
    omega

end Go.Proofs.Ytnhonkgondljjaa

