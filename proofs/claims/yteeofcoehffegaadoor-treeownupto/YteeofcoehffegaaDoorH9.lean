import Derived.Test.YteeofcoehffegaaDoorRows
import Derived.Deep.SlicePairs
import Derived.ChangeOld
import Derived.OpenShut
import Derived.MakeChecks
import Derived.Stop.LaidErr
import Derived.Lib.LaidTab
import Derived.ProofKit
import Derived.JoinedCond
import Derived.Handed
import Derived.LaidLaws
import Derived.Below
import Derived.Test.YteeofcoehffegaaDoorH8
set_option maxRecDepth 100000
set_option linter.unusedVariables false
set_option linter.unusedSimpArgs false
namespace Go.Proofs.YteeofcoehffegaaDoor
open Go.ChangeShapes Go.WideShapes Go.RowKit
open Classical
theorem bulk_app {H : Type} (l r : List (DataW H)) : Rows.uptoBulkAll (l ++ r) = Rows.uptoBulkAll l + Rows.uptoBulkAll r := by
  induction l with
  | nil => simp [Rows.uptoBulkAll]
  | cons x l ih => simp only [List.cons_append, Rows.uptoBulkAll, ih]; omega
theorem bulk_range {H : Type} (D : Nat → DataW H) (f : Nat → Nat) : ∀ n, (∀ i, i < n → f i ≤ Rows.uptoBulk (D i)) → ((List.range n).map f).sum ≤ Rows.uptoBulkAll ((List.range n).map D)
  | 0, _ => by simp [Rows.uptoBulkAll]
  | n + 1, h => by
    have h1 := bulk_range D f n (fun i hi => h i (by omega))
    have h2 := h n (by omega)
    rw [List.range_succ, List.map_append, List.map_append, bulk_app, List.sum_append]
    simp only [List.map_cons, List.map_nil, List.sum_cons, List.sum_nil, Rows.uptoBulkAll]
    omega
theorem bulk_bound {H : Type} {ds : List (DataW H)} (h : Rows.uptoSmall H ds = true) : Rows.uptoBulkAll ds ≤ 1048576 := by
  unfold Rows.uptoSmall at h
  exact of_decide_eq_true h
theorem open_up {α : Type} {Y : Lay α} (K : Y.Ok) [Inhabited α] (fits : α → Prop) (wt : α → Nat) {H : Type} {enc : TypeId × Value → H} {W : World} (hT : Tryd.prog.cellsOf Y.T = Y.k)
    (el : ∀ {n : Nat} {cs : List Value} {x : DataW H × List MemPlace}, DataW.trod enc Tryd.prog W 0 (fun _ => true) true n Y.T cs = some x → ∃ q : α, fits q ∧ cs = Y.cs q ∧ wt q ≤ Rows.uptoBulk x.1)
    {fuel : Nat} {cs : List Value} {x : DataW H × List MemPlace} (h : DataW.trod enc Tryd.prog W 0 (fun _ => true) true fuel Y.ST cs = some x) :
    ∃ (a : Option Addr) (n c : Nat) (P : List α), cs = [.slice a n c] ∧ SlY Y W a n c P ∧ (∀ q ∈ P, fits q) ∧ (P.map wt).sum + 1 ≤ Rows.uptoBulk x.1 := by
  rcases Go.Deep.open_slice K.und h with ⟨hcs, hx⟩ | ⟨y, n, c, m, k, D, Pl, hcs, hb, hl, hm, hmm, hx, hall⟩
  · refine ⟨none, 0, 0, [], hcs, ⟨rfl, Nat.le_refl _, by unfold maxLen; omega, fun _ => ⟨rfl, rfl⟩, fun x hx => .inl rfl⟩, by simp, ?_⟩
    rw [hx]
    simp [Rows.uptoBulk]
  · have hlm : n ≤ m := by rw [hmm]; split <;> omega
    have each : ∀ i, i < n → ∃ q : α, fits q ∧ (∀ j, j < Y.k → W.cell? ((y.add (i * Y.k)).add j) = (Y.cs q)[j]?) ∧ wt q ≤ Rows.uptoBulk (D i) := by
      intro i hi
      obtain ⟨cs', h1, h2⟩ := hall i (by omega)
      rw [hT] at h1
      obtain ⟨q, hf, rfl, hw⟩ := el h2
      obtain ⟨_, _, hcell⟩ := World.cells?_some h1
      exact ⟨q, hf, hcell, hw⟩
    obtain ⟨q, hq⟩ := Go.Deep.choose_lt each
    refine ⟨some y, n, c, (List.range n).map q, hcs, ⟨by simp, hl, hm, (fun e => by cases e), fun x hx => ?_⟩, ?_, ?_⟩
    · cases hx
      by_cases hn0 : n = 0
      · subst hn0
        exact .inl rfl
      · obtain ⟨b, o, s⟩ := y
        have z0 := (hq 0 (by omega)).2.1 0 K.kp
        have z1 := z0.trans (List.getElem?_eq_getElem (by rw [K.len]; exact K.kp))
        have hs := World.cell?_spot z1
        obtain rfl : s = none := by
          rw [Nat.zero_mul] at hs
          simpa [Addr.add] using hs
        refine .inr ⟨b, o, rfl, ?_, fun i x hx j u hu => ?_⟩
        · rw [Addr.add_lit, Addr.add_lit] at z1
          exact World.block_lt_of_cell? _ _ z1
        · have hi : i < n := by
            have := (List.getElem?_eq_some_iff.1 hx).1
            simpa using this
          have e : q i = x := by
            simp [hi] at hx
            exact hx
          subst e
          have hj : j < Y.k := by have := (List.getElem?_eq_some_iff.1 hu).1; rwa [K.len] at this
          have := (hq i hi).2.1 j hj
          rw [Addr.add_lit, Addr.add_lit] at this
          exact this.trans hu
    · intro z hz
      obtain ⟨i, hi, rfl⟩ := List.mem_map.1 hz
      exact (hq i (List.mem_range.1 hi)).1
    · rw [hx, List.map_map]
      have := bulk_range D (fun i => wt (q i)) n (fun i hi => (hq i hi).2.2)
      simp only [Rows.uptoBulk]
      have e : (List.range n).map (wt ∘ q) = (List.range n).map (fun i => wt (q i)) := rfl
      rw [e]
      omega
theorem cellsI20 : Tryd.prog.cellsOf 3 = 1 := by kernel_rfl
theorem cellsS20 : Tryd.prog.cellsOf 9 = 1 := by kernel_rfl
theorem cellsO20 : Tryd.prog.cellsOf 27 = 3 := by kernel_rfl
theorem cellsE20 : Tryd.prog.cellsOf 29 = 5 := by kernel_rfl
theorem up_opc {H : Type} {enc : TypeId × Value → H} {W : World} {n : Nat} {cs : List Value} {x : DataW H × List MemPlace} (h : DataW.trod enc Tryd.prog W 0 (fun _ => true) true n 27 cs = some x) :
    ∃ p : Opn, p.fits ∧ cs = [.int .i64 p.k, .int .i64 p.s, .string p.v] ∧ p.v.size ≤ Rows.uptoBulk x.1 := by
  obtain ⟨xs, k, hk, hxy, hlen, hxl, hf⟩ := DataW.trod_struct Tryd.underlying27 h
  rw [cellsO20] at hlen
  have hxl : xs.length = 3 := hxl
  match xs, hxl, cs, hlen with
  | [y0, y1, y2], _, [v0, v1, v2], _ =>
    have g0 := hf 0 _ rfl
    have g1 := hf 1 _ rfl
    have g2 := hf 2 _ rfl
    simp [cellsI20, cellsS20] at g0 g1 g2
    obtain ⟨K, hK, hx0, hw0⟩ := DataW.trod_int Tryd.underlying3 g0
    obtain ⟨N, hN, hx2, hw2⟩ := DataW.trod_int Tryd.underlying3 g1
    obtain ⟨t, hS, hx4, hw4⟩ := DataW.trod_string Tryd.underlying9 g2
    refine ⟨⟨K, N, t⟩, ⟨hw0, hw2, hw4⟩, ?_, ?_⟩
    · rw [(List.cons_eq_cons.1 hK).1, (List.cons_eq_cons.1 hN).1, (List.cons_eq_cons.1 hS).1]
    · rw [hxy]
      simp only [List.map_cons, List.map_nil, Rows.uptoBulk, Rows.uptoBulkAll, hx4]
      show t.data.size ≤ _
      rw [← Array.length_toList]
      omega
theorem up_enc {H : Type} {enc : TypeId × Value → H} {W : World} {n : Nat} {cs : List Value} {x : DataW H × List MemPlace} (h : DataW.trod enc Tryd.prog W 0 (fun _ => true) true n 29 cs = some x) :
    ∃ p : En, p.fits ∧ cs = p.cs ∧ p.o.v.size + 1 ≤ Rows.uptoBulk x.1 := by
  obtain ⟨xs, k, hk, hxy, hlen, hxl, hf⟩ := DataW.trod_struct Tryd.underlying29 h
  rw [cellsE20] at hlen
  have hxl : xs.length = 3 := hxl
  match xs, hxl, cs, hlen with
  | [y0, y1, y2], _, [v0, v1, v2, v3, v4], _ =>
    have g0 := hf 0 _ rfl
    have g1 := hf 1 _ rfl
    have g2 := hf 2 _ rfl
    simp [cellsI20, cellsO20] at g0 g1 g2
    obtain ⟨K, hK, hx0, hw0⟩ := DataW.trod_int Tryd.underlying3 g0
    obtain ⟨N, hN, hx2, hw2⟩ := DataW.trod_int Tryd.underlying3 g1
    obtain ⟨o, ho, e, hwt⟩ := up_opc g2
    refine ⟨⟨K, N, o⟩, ⟨hw0, hw2, ho⟩, ?_, ?_⟩
    · have e0 := (List.cons_eq_cons.1 hK).1
      have e1 := (List.cons_eq_cons.1 hN).1
      simp at e
      obtain ⟨e2, e3, e4⟩ := e
      subst e0 e1 e2 e3 e4
      rfl
    · rw [hxy]
      simp only [List.map_cons, List.map_nil, Rows.uptoBulk, Rows.uptoBulkAll]
      show o.v.size + 1 ≤ _
      omega
theorem mem_sum {α : Type} (f : α → Nat) : ∀ (P : List α) (x : α), x ∈ P → f x ≤ (P.map f).sum
  | [], x, h => by cases h
  | y :: r, x, h => by
    rw [List.map_cons, List.sum_cons]
    rcases List.mem_cons.1 h with rfl | h
    · omega
    · have := mem_sum f r x h
      omega
theorem up_ents {H : Type} {enc : TypeId × Value → H} {W : World} {fuel : Nat} {cs : List Value} {x : DataW H × List MemPlace} (h : DataW.trod enc Tryd.prog W 0 (fun _ => true) true fuel 25 cs = some x) :
    ∃ (a : Option Addr) (n c : Nat) (P : List En), cs = [.slice a n c] ∧ SlY yE W a n c P ∧ (∀ q ∈ P, q.fits) ∧ (P.map fun q => q.o.v.size + 1).sum + 1 ≤ Rows.uptoBulk x.1 := by
  haveI : Inhabited En := ⟨⟨0, 0, ⟨0, 0, ByteArray.empty⟩⟩⟩
  exact open_up kE (fun q => q.fits) (fun q => q.o.v.size + 1) cellsE20 (fun {n cs x} h => up_enc h) h
end Go.Proofs.YteeofcoehffegaaDoor
namespace Go.Proofs.YteeofcoehffegaaDoor
open Go.ChangeShapes Go.WideShapes Go.ChangeAt Go.RowKit
open Classical
theorem gDb20 : Tryd.prog.globalNamed "math/bits.deBruijn64tab" = some 1 := by kernel_rfl
theorem gDbT20 : (Tryd.prog.globals[1]?).map (·.type) = some 94 := by kernel_rfl
theorem cellsDb20 : Tryd.prog.cellsOf 94 = 64 := by kernel_rfl
theorem cellsU20 : Tryd.prog.cellsOf 5 = 1 := by kernel_rfl
theorem tb_of_laid {W : World} (h : laidMetH Tryd.prog [("math/bits.deBruijn32tab", Rows.laid_math_bits_deBruijn32tab), ("math/bits.deBruijn64tab", Rows.laid_math_bits_deBruijn64tab)] W) : Tb W := by
  rw [MakeChecks.laidMetH_plain _ _ _ (by kernel_rfl)] at h
  have e : (Rows.laid_math_bits_deBruijn64tab : DataW Unit) = Lib.tabData .u8 (Lib.deBruijn64tab.map fun (k : Nat) => (k : Int)) := by kernel_rfl
  have h3 := h.tail
  rw [e] at h3
  have ht := Lib.tabIs_of_head (rest := []) gDb20 gDbT20 Tryd.underlying94 Tryd.underlying5 cellsU20 cellsDb20 h3
  intro j hj
  unfold Lib.TabIs World.var? at ht
  rw [gDb20, Option.bind_some] at ht
  unfold World.cell?
  show (match W.heap[1]? with | some (.cells cs _ _) => cs[j]? | _ => none) = _
  split at ht
  · next cs t f hc =>
    rw [hc]
    have ht := Option.some.inj ht
    subst ht
    show ((Lib.deBruijn64tab.map fun (k : Nat) => (k : Int)).map fun z => Value.int .u8 z).toArray[j]? = _
    rw [List.getElem?_toArray, List.map_map, List.getElem?_map, List.getD_eq_getElem?_getD, List.getElem?_eq_getElem hj]
    rfl
  · cases ht
end Go.Proofs.YteeofcoehffegaaDoor
namespace Go.Proofs.YteeofcoehffegaaDoor
open Go.ChangeShapes Go.WideShapes Go.ChangeAt Go.RowKit
open Classical
theorem handed_cond_and {H : Type} {enc : TypeId × Value → H} {a : Assume} {C : Checked} {os : Os} {f : FuncId} {fn : Func} {s : OpenSpec} {k : (H : Type) → List (DataW H) → Bool} (hk : s.cond = some k) {F : Stop.Interp} {conds : List PathCond} {apart fresh handsOn again : Bool} {X : World → Array Value → Prop}
    (hX : ∀ (w w' : World) (args : Array Value), w.heap = w'.heap → X w args → X w' args)
    (own : ownKnob C.prog.godebug = none) (started : os.Started) (noInit : C.prog.inits.idxOf? f = none) (hfn : C.prog.funcs[f]? = some fn)
    (witness : ∃ (w : World) (tape : Tape) (i : Input), w.os = os ∧ (w.forCall tape i).Shaped C.prog ∧ i.vars = [] ∧ Input.okWide C.prog (w.forCall tape i) .any w.heap.size f i ∧
      ((s.pre enc C.prog fn conds apart (w.forCall tape i).memory i.args ∧ X (w.forCall tape i).memory i.args) ∧ sizedMet enc C.prog fn s apart (w.forCall tape i).memory i.args) ∧ a.holds C.prog (lone (Frame.enter C.prog f i.args .normal) [] (w.forCall tape i)))
    (contract : ∀ (W : World) (base : Nat) (args : Array Value) (ds gs : List (DataW H)) (before : List MemPlace),
      (∀ (j : Nat) t v, fn.params[j]? = some t → args[j]? = some v → Value.okWide C.prog W .any base t v) →
      DataW.Whole enc C.prog fn.params.toList s.vars apart W args.toList ds gs before →
      conds.all (PathCond.test C.prog ⟨fn.params.toList, ds, s.bare.plain.varTypes C.prog, gs⟩) = true → k H (ds ++ gs) = true → X W args →
      a.holds C.prog (lone (Frame.enter C.prog f args .normal) [] W) →
      Calls C.prog f args W fun e W' => ∃ v, e = .returned v ∧ (s.at F).post enc C.prog fn apart fresh handsOn again W args v W') :
    ReturnsInHanded a C os f .any (fun w args => (s.pre enc C.prog fn conds apart w args ∧ X w args) ∧ sizedMet enc C.prog fn s apart w args) ((s.at F).post enc C.prog fn apart fresh handsOn again) := by
  refine returnsInHanded_of_calls own started noInit witness ?_
  intro w tape i _ _ _ hok hpre hholds
  obtain ⟨_, _, _, fn', hfn', _, _, _, _, hval⟩ := hok
  have e : fn' = fn := Option.some.inj (hfn'.symm.trans hfn)
  subst e
  obtain ⟨ds, gs, before, hw, hc, hkk⟩ := (OpenSpec.pre_some hk conds apart _ _).1 hpre.1.1
  have hw' := DataW.Whole.of_heap (w' := w.forCall tape i) (by rfl) hw
  refine (contract (w.forCall tape i) w.heap.size i.args ds gs before hval hw' hc hkk (hX _ _ _ (by rfl) hpre.1.2) hholds).mono fun e W' ⟨v, he, hp⟩ => ?_
  subst he
  exact ChangeSpec.post_blind hp
theorem witness_cond_and {H : Type} {enc : TypeId × Value → H} {C : Checked} {os : Os} {f : FuncId} {fn : Func} {s : OpenSpec} {k : (H : Type) → List (DataW H) → Bool} (hk : s.cond = some k) {conds : List PathCond} {apart : Bool} {X : World → Array Value → Prop} (modest : Bool) (w0 : World) (args : Array Value) (fuel : Nat) (hos : w0.os = os)
    (hsh : (w0.forCall (fun _ _ => 0) ⟨#[], args, []⟩).Shaped C.prog)
    (hok : Input.okWideB C.prog (w0.forCall (fun _ _ => 0) ⟨#[], args, []⟩) f ⟨#[], args, []⟩ = true)
    {x : List (DataW H) × List (DataW H) × List MemPlace} (hx : DataW.whole enc C.prog (w0.forCall (fun _ _ => 0) ⟨#[], args, []⟩).memory fn.params.toList s.vars apart args.toList fuel = some x)
    (hconds : conds.all (PathCond.test C.prog ⟨fn.params.toList, x.1, s.bare.plain.varTypes C.prog, x.2.1⟩) = true) (hkk : k H (x.1 ++ x.2.1) = true)
    (hsz : s.bare.sizedB enc C.prog fn apart (w0.forCall (fun _ _ => 0) ⟨#[], args, []⟩).memory args fuel = true)
    (hX : X (w0.forCall (fun _ _ => 0) ⟨#[], args, []⟩).memory args) :
    ∃ (w : World) (tape : Tape) (i : Input), w.os = os ∧ (w.forCall tape i).Shaped C.prog ∧ i.vars = [] ∧ Input.okWide C.prog (w.forCall tape i) .any w.heap.size f i ∧
      ((s.pre enc C.prog fn conds apart (w.forCall tape i).memory i.args ∧ X (w.forCall tape i).memory i.args) ∧ sizedMet enc C.prog fn s apart (w.forCall tape i).memory i.args) ∧ ({ modest := modest } : Assume).holds C.prog (lone (Frame.enter C.prog f i.args .normal) [] (w.forCall tape i)) :=
  ⟨w0, fun _ _ => 0, ⟨#[], args, []⟩, hos, hsh, (Input.okWide_of_okWideB (base := 0) hok).1, (Input.okWide_of_okWideB hok).2,
    ⟨⟨(OpenSpec.pre_some hk conds apart _ _).2 ⟨x.1, x.2.1, x.2.2, DataW.Whole_of_whole hx, hconds, hkk⟩, hX⟩, sizedMet_of_sizedB hsz⟩, by
    simp only [Assume.holds]
    exact ⟨by simp, by simp, fun _ => Modest.zero, by simp, by simp⟩⟩
end Go.Proofs.YteeofcoehffegaaDoor
namespace Go.Proofs.YteeofcoehffegaaDoor
open Go.RowKit Go.Maps
open Classical
theorem up_sizes9 {P : List En} {B : Nat} (h : (P.map fun q => q.o.v.size + 1).sum + 1 ≤ B) (hB : B ≤ 1048576) : ∀ x ∈ P, x.o.v.size ≤ 140737488349000 := fun x hx => by
  have := mem_sum (fun q : En => q.o.v.size + 1) P x hx
  omega
theorem towns_came20 (l o : List En) (a1 : Option Addr) (n1 c1 : Nat) (a2 : Option Addr) (n2 c2 : Nat) (pl : Int) (W : World) (h1 : SlY yE W a1 n1 c1 l) (h2 : SlY yE W a2 n2 c2 o) (hv1 : ∀ x ∈ l, x.o.v.size ≤ 140737488349000) (hv2 : ∀ x ∈ o, x.o.v.size ≤ 140737488349000) (ht : Tb W) :
    Calls Tryd.prog 4 #[.slice a1 n1 c1, .slice a2 n2 c2, .int .i64 pl] W fun e W' => e = .returned (.bool true) ∧ Below W.heap.size W W' :=
  towns20 l o a1 n1 c1 a2 n2 c2 pl W h1 h2 ht hv1 hv2
end Go.Proofs.YteeofcoehffegaaDoor
