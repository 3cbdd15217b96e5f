import Derived.Test.YtfafhlahbhopaaaRows
import Derived.Deep.SlicePairs
import Derived.ChangeOld
import Derived.OpenShut
import Derived.ProofKit
import Derived.SizedLaws
import Derived.Deep.RegionLaw
import Derived.Lib.ConvBytes
import Derived.Laws.StructEq
import Derived.Test.YtfafhlahbhopaaaH4
set_option maxRecDepth 100000
set_option linter.unusedVariables false
set_option linter.unusedSimpArgs false
namespace Go.Proofs.Ytfafhlahbhopaaa
open Go.ChangeShapes Go.WideShapes Go.RowKit
open Classical
theorem cellsI20 : Try.prog.cellsOf 3 = 1 := by kernel_rfl
theorem cellsS20 : Try.prog.cellsOf 9 = 1 := by kernel_rfl
theorem cellsO20 : Try.prog.cellsOf 26 = 3 := by kernel_rfl
theorem cellsE20 : Try.prog.cellsOf 28 = 5 := by kernel_rfl
end Go.Proofs.Ytfafhlahbhopaaa
namespace Go.Proofs.Ytfafhlahbhopaaa
open Go.ChangeShapes Go.WideShapes Go.ChangeAt Go.RowKit Go.Maps
open Classical
theorem weights_in20 {H : Type} {P : Program} {e : TypeId} : ∀ {ds : List (DataW H)} {d : DataW H}, d ∈ ds → ∀ m, m ∈ d.weights P e → m ∈ DataW.weightsAll P e ds
  | x :: r, d, hd, m, hm => by
    simp only [DataW.weightsAll, List.mem_append]
    rcases List.mem_cons.1 hd with rfl | hd
    · exact .inl hm
    · exact .inr (weights_in20 hd m hm)
  | [], _, hd, _, _ => by cases hd
theorem rows_w20 {α : Type} [Inhabited α] {Y : Lay α} (K : Y.Ok) (F : α → Prop) (hT : Try.prog.cellsOf Y.T = Y.k) (hby : Try.prog.bytesOf Y.T = Y.by_) {H : Type} {enc : TypeId × Value → H} {W : World} {v : Value} {d : DataW H} {p : List MemPlace} {fuel : Nat}
    (hop : ∀ {m : Nat} {cs : List Value} {D : DataW H} {q : List MemPlace}, DataW.trod enc Try.prog W 0 (fun _ => true) true m Y.T cs = some (D, q) → (∀ k, k ∈ D.weights Try.prog Y.T → k ≤ reachBytes) → ∃ e : α, F e ∧ cs = Y.cs e)
    (h : DataW.trod enc Try.prog W 0 (fun _ => true) true fuel Y.ST [v] = some (d, p)) (hw : ∀ m, m ∈ d.weights Try.prog Y.ST → m ≤ reachBytes) :
    ∃ a len cap, v = .slice a len cap ∧ ∃ P : List α, SlY Y W a len cap P ∧ (∀ e ∈ P, F e) ∧ len * Y.by_ ≤ 140737488351232 := by
  rcases Go.Deep.open_slice K.und h with ⟨hcs, hx⟩ | ⟨y, n, c, m, k, D, Pl, hcs, hb, hl, hm, hmm, hx, hall⟩
  · have e := (List.cons_eq_cons.1 hcs).1
    exact ⟨none, 0, 0, e, [], ⟨rfl, Nat.le_refl _, by unfold maxLen; omega, fun _ => ⟨rfl, rfl⟩, fun x hx => .inl rfl⟩, by simp, by omega⟩
  · have e := (List.cons_eq_cons.1 hcs).1
    refine ⟨some y, n, c, e, ?_⟩
    have hlm : n ≤ m := by rw [hmm]; split <;> omega
    have hd := congrArg Prod.fst hx
    dsimp only at hd
    have hsz : n * Y.by_ ≤ 140737488351232 := by
      have := hw _ (by
        rw [hd]
        simp only [DataW.weights, K.und, hby]
        exact List.mem_cons_self)
      simp only [List.length_map, List.length_range, reachBytes] at this
      rw [Nat.add_mul] at this
      omega
    have each : ∀ i, i < n → ∃ q : α, F q ∧ (∀ j, j < Y.k → W.cell? ((y.add (i * Y.k)).add j) = (Y.cs q)[j]?) := by
      intro i hi
      obtain ⟨cs', h1, h2⟩ := hall i (by omega)
      rw [hT] at h1
      obtain ⟨q, hf, rfl⟩ := hop h2 (fun k hk => hw k (by
        rw [hd]
        simp only [DataW.weights, K.und]
        exact List.mem_cons_of_mem _ (List.mem_append_left _ (weights_in20 (List.mem_map_of_mem (List.mem_range.2 hi)) k hk))))
      obtain ⟨_, _, hcell⟩ := World.cells?_some h1
      exact ⟨q, hf, hcell⟩
    obtain ⟨q, hq⟩ := Go.Deep.choose_lt each
    refine ⟨(List.range n).map q, ⟨by simp, hl, hm, (fun e => by cases e), fun x hx => ?_⟩, ?_, hsz⟩
    · cases hx
      by_cases hn0 : n = 0
      · subst hn0
        exact .inl rfl
      · obtain ⟨b, o, s⟩ := y
        have z0 := (hq 0 (by omega)).2 0 K.kp
        have z1 := z0.trans (List.getElem?_eq_getElem (by rw [K.len]; exact K.kp))
        have hs := World.cell?_spot z1
        obtain rfl : s = none := by
          rw [Nat.zero_mul] at hs
          simpa [Addr.add] using hs
        refine .inr ⟨b, o, rfl, ?_, fun i x hx j u hu => ?_⟩
        · rw [Addr.add_lit, Addr.add_lit] at z1
          exact World.block_lt_of_cell? _ _ z1
        · have hi : i < n := by
            have := (List.getElem?_eq_some_iff.1 hx).1
            simpa using this
          have e : q i = x := by
            simp [hi] at hx
            exact hx
          subst e
          have hj : j < Y.k := by have := (List.getElem?_eq_some_iff.1 hu).1; rwa [K.len] at this
          have := (hq i hi).2 j hj
          rw [Addr.add_lit, Addr.add_lit] at this
          exact this.trans hu
    · intro z hz
      obtain ⟨i, hi, rfl⟩ := List.mem_map.1 hz
      exact (hq i (List.mem_range.1 hi)).1
theorem bytesE20 : Try.prog.bytesOf 28 = 48 := by kernel_rfl
theorem op_w20 {H : Type} {enc : TypeId × Value → H} {W : World} {n : Nat} {cs : List Value} {x : DataW H × List MemPlace} (h : DataW.trod enc Try.prog W 0 (fun _ => true) true n 26 cs = some x) (hw : ∀ k, k ∈ x.1.weights Try.prog 26 → k ≤ reachBytes) :
    ∃ p : Opn, p.v.size ≤ 140737488351232 ∧ cs = [.int .i64 p.k, .int .i64 p.s, .string p.v] := by
  obtain ⟨xs, k, hk, hxy, hlen, hxl, hf⟩ := DataW.trod_struct Try.underlying26 h
  rw [cellsO20] at hlen
  have hxl : xs.length = 3 := hxl
  match xs, hxl, cs, hlen with
  | [y0, y1, y2], _, [v0, v1, v2], _ =>
    have hd : x.1 = .agg ([y0, y1, y2].map Prod.fst) := congrArg Prod.fst hxy
    have g0 := hf 0 _ rfl
    have g1 := hf 1 _ rfl
    have g2 := hf 2 _ rfl
    simp [cellsI20, cellsS20] at g0 g1 g2
    obtain ⟨K, hK, hx0, hw0⟩ := DataW.trod_int Try.underlying3 g0
    obtain ⟨N, hN, hx2, hw2⟩ := DataW.trod_int Try.underlying3 g1
    obtain ⟨t, hS, hx4, hw4⟩ := DataW.trod_string Try.underlying9 g2
    have hwt : t.data.toList.length ≤ reachBytes := hw _ (by
      rw [hd]
      simp only [DataW.weights, Try.underlying26]
      refine DataW.weights_mem_each (j := 2) (t := 9) (d := y2.1) rfl rfl _ ?_
      rw [hx4]
      simp [DataW.weights])
    refine ⟨⟨K, N, t⟩, ?_, ?_⟩
    · show t.data.size ≤ _
      rw [← Array.length_toList]
      exact hwt
    · rw [(List.cons_eq_cons.1 hK).1, (List.cons_eq_cons.1 hN).1, (List.cons_eq_cons.1 hS).1]
theorem enc_w20 {H : Type} {enc : TypeId × Value → H} {W : World} {n : Nat} {cs : List Value} {x : DataW H × List MemPlace} (h : DataW.trod enc Try.prog W 0 (fun _ => true) true n 28 cs = some x) (hw : ∀ k, k ∈ x.1.weights Try.prog 28 → k ≤ reachBytes) :
    ∃ p : En, p.o.v.size ≤ 140737488351232 ∧ cs = p.cs := by
  obtain ⟨xs, k, hk, hxy, hlen, hxl, hf⟩ := DataW.trod_struct Try.underlying28 h
  rw [cellsE20] at hlen
  have hxl : xs.length = 3 := hxl
  match xs, hxl, cs, hlen with
  | [y0, y1, y2], _, [v0, v1, v2, v3, v4], _ =>
    have hd : x.1 = .agg ([y0, y1, y2].map Prod.fst) := congrArg Prod.fst hxy
    have g0 := hf 0 _ rfl
    have g1 := hf 1 _ rfl
    have g2 := hf 2 _ rfl
    simp [cellsI20, cellsO20] at g0 g1 g2
    obtain ⟨K, hK, hx0, hw0⟩ := DataW.trod_int Try.underlying3 g0
    obtain ⟨N, hN, hx2, hw2⟩ := DataW.trod_int Try.underlying3 g1
    obtain ⟨o, ho, e⟩ := op_w20 g2 (fun k hk => hw k (by
      rw [hd]
      simp only [DataW.weights, Try.underlying28]
      exact DataW.weights_mem_each (j := 2) (t := 26) (d := y2.1) rfl rfl _ hk))
    refine ⟨⟨K, N, o⟩, ho, ?_⟩
    have e0 := (List.cons_eq_cons.1 hK).1
    have e1 := (List.cons_eq_cons.1 hN).1
    simp at e
    obtain ⟨e2, e3, e4⟩ := e
    subst e0 e1 e2 e3 e4
    rfl
def CameW (W : World) (a : Option Addr) (n c : Nat) : Prop := ∃ P : List En, SlY yE W a n c P ∧ (∀ x ∈ P, x.o.v.size ≤ 140737488351232) ∧ n ≤ 2932031007317
theorem open_entsW {H : Type} {enc : TypeId × Value → H} {W : World} {base : Nat} {v : Value} {d : DataW H} {p : List MemPlace} (hv : Value.okWide Try.prog W .any base 22 v) (h : DataW.Trod enc Try.prog W 0 (fun _ => true) true 22 v d p)
    (hw : ∀ m, m ∈ d.weights Try.prog 22 → m ≤ reachBytes) : ∃ a n c, v = .slice a n c ∧ CameW W a n c := by
  haveI : Inhabited En := ⟨⟨0, 0, ⟨0, 0, ByteArray.empty⟩⟩⟩
  obtain ⟨a, n, c, rfl⟩ := okWide_slice Try.underlying22 hv
  obtain ⟨fuel, h⟩ := h
  simp only [Value.cells] at h
  obtain ⟨a2, n2, c2, e, P, s, f, hb⟩ := rows_w20 kE (fun q : En => q.o.v.size ≤ 140737488351232) cellsE20 bytesE20 (fun {m cs D q} h hw => enc_w20 h hw) h hw
  cases e
  have hb : n * 48 ≤ 140737488351232 := hb
  exact ⟨a, n, c, rfl, P, s, f, by omega⟩
end Go.Proofs.Ytfafhlahbhopaaa
namespace Go.Proofs.Ytfafhlahbhopaaa
open Go.RowKit Go.Maps
open Classical
end Go.Proofs.Ytfafhlahbhopaaa
namespace Go.Proofs.Ytfafhlahbhopaaa
open Go.RowKit Go.Maps
open Classical
end Go.Proofs.Ytfafhlahbhopaaa
namespace Go.Proofs.Ytfafhlahbhopaaa
open Go.RowKit Go.Maps Go.WideShapes
open Classical
theorem u8_wf {n : Int} (h : (Lit.int .u8 n).wf = true) : 0 ≤ n ∧ n < 256 := by
  simp [Lit.wf, IntKind.min, IntKind.max, IntKind.signed, IntKind.bits] at h
  omega
theorem open_hash {H : Type} {enc : TypeId × Value → H} {W : World} {base : Nat} {v : Value} {d : DataW H} {p : List MemPlace} (hv : Value.okWide Try.prog W .any base 24 v) (h : DataW.Trod enc Try.prog W 0 (fun _ => true) true 24 v d p) :
    ∃ o : List Int, v = .agg (o.map bV).toArray ∧ Hb o := by
  obtain ⟨fuel, hf⟩ := h
  obtain ⟨xs, m, _, _, hl, hx, he⟩ := DataW.trod_array Try.underlying24 hf
  have c32 : Try.prog.cellsOf 24 = 32 := by kernel_rfl
  have c1 : Try.prog.cellsOf 5 = 1 := by kernel_rfl
  rw [c32] at hl
  have hag : ∃ cs, v = .agg cs := by
    cases v with
    | agg cs => exact ⟨cs, rfl⟩
    | _ => simp [Value.cells] at hl
  obtain ⟨cs, rfl⟩ := hag
  have hcl : cs.toList.length = 32 := hl
  have key : ∀ i, (hi : i < 32) → ∃ n : Int, cs.toList[i]? = some (.int .u8 n) ∧ 0 ≤ n ∧ n < 256 := fun i hi => by
    have h1 := he i hi
    rw [c1, Nat.mul_one] at h1
    obtain ⟨x, hxx⟩ : ∃ x, xs[i]? = some x := ⟨_, List.getElem?_eq_getElem (by omega)⟩
    rw [hxx] at h1
    obtain ⟨K, hK, _, hw⟩ := DataW.trod_int Try.underlying5 h1
    have hb := u8_wf hw
    refine ⟨K, ?_, hb.1, hb.2⟩
    have h2 : (cs.toList.drop i).take 1 = [.int .u8 K] := hK
    have h3 : ((cs.toList.drop i).take 1)[0]? = some (.int .u8 K) := by rw [h2]; rfl
    rw [List.getElem?_take, if_pos (by decide), List.getElem?_drop, Nat.add_zero] at h3
    exact h3
  refine ⟨cs.toList.map intOf, ?_, ⟨by rw [List.length_map, hcl], fun x hx => ?_⟩⟩
  · have : (cs.toList.map intOf).map bV = cs.toList := by
      apply List.ext_getElem?
      intro i
      rw [List.getElem?_map, List.getElem?_map]
      by_cases hi : i < 32
      · obtain ⟨n, hn, _⟩ := key i hi
        rw [hn]
        rfl
      · rw [List.getElem?_eq_none (by omega)]
        rfl
    rw [this]
  · obtain ⟨u, hu, rfl⟩ := List.mem_map.1 hx
    obtain ⟨i, hi, rfl⟩ := List.mem_iff_getElem.1 hu
    obtain ⟨n, hn, h0, h1⟩ := key i (by omega)
    rw [List.getElem?_eq_getElem hi] at hn
    rw [Option.some.inj hn]
    exact ⟨h0, h1⟩
end Go.Proofs.Ytfafhlahbhopaaa
namespace Go.Proofs.Ytfafhlahbhopaaa
open Go.RowKit Go.Maps
open Classical
end Go.Proofs.Ytfafhlahbhopaaa
namespace Go.Proofs.Ytfafhlahbhopaaa
open Go.RowKit Go.Maps
open Classical
end Go.Proofs.Ytfafhlahbhopaaa
namespace Go.Proofs.Ytfafhlahbhopaaa
open Go.RowKit Go.Maps
open Classical
/-! The document's numbers of many halves. -/
end Go.Proofs.Ytfafhlahbhopaaa
namespace Go.Proofs.Ytfafhlahbhopaaa
open Go.RowKit Go.Maps
open Classical
end Go.Proofs.Ytfafhlahbhopaaa
namespace Go.Proofs.Ytfafhlahbhopaaa
open Go.RowKit Go.Maps
open Classical
end Go.Proofs.Ytfafhlahbhopaaa
namespace Go.Proofs.Ytfafhlahbhopaaa
open Go.RowKit Go.Maps
open Classical
end Go.Proofs.Ytfafhlahbhopaaa
namespace Go.Proofs.Ytfafhlahbhopaaa
open Go.RowKit Go.Maps
open Classical
def sh9 (b : List Int) (i k : Nat) : Int := IntKind.u32.wrap (IntKind.u32.wrap (b.getD i 0) * 2 ^ k)
def wqF (b : List Int) (j : Nat) : Int := bits .or .u32 (bits .or .u32 (bits .or .u32 (sh9 b (4 * j) 24) (sh9 b (4 * j + 1) 16)) (sh9 b (4 * j + 2) 8)) (IntKind.u32.wrap (b.getD (4 * j + 3) 0))
def wA (b : List Int) : Nat → List Int
  | 0 => List.replicate 64 0
  | j + 1 => (wA b j).set j (wqF b j)
end Go.Proofs.Ytfafhlahbhopaaa
namespace Go.Proofs.Ytfafhlahbhopaaa
open Go.RowKit Go.Maps
open Classical
end Go.Proofs.Ytfafhlahbhopaaa
namespace Go.Proofs.Ytfafhlahbhopaaa
open Go.RowKit Go.Maps
open Classical
/-! A region that draws its order, whatever it does: each operation by itself, in whatever frame and world, from what those tell that it waits for; behind all of them what each tells holds. -/
theorem look_mem {L : List (Nat × Value)} {j : Nat} {v : Value} (h : look L j = some v) : j ∈ L.map Prod.fst := by
  induction L with
  | nil => cases h
  | cons x r ih =>
    obtain ⟨k, y⟩ := x
    unfold look at h
    cases hb : Nat.beq k j with
    | true => rw [Nat.eq_of_beq_eq_true hb]; exact List.mem_cons_self ..
    | false => rw [hb] at h; exact List.mem_cons_of_mem _ (ih h)
theorem Rp.ch {T T' : Array Value} {n : Nat} {L : List (Nat × Value)} (h : Rp T n L) (hz : T'.size = n) (hk : ∀ k ∈ L.map Prod.fst, T'[k]? = T[k]?) : Rp T' n L := ⟨hz, fun j v e => (hk j (look_mem e)).trans (h.at_ j v e)⟩
theorem Upd.tr20 {S R : Nat → Prop} {a b c : World} (h : Upd S a b) (k : Upd R b c) (hs : ∀ i, i < a.heap.size → R i → S i) : Upd S a c :=
  ⟨k.os.trans h.os, k.tape.trans h.tape, k.output.trans h.output, Nat.le_trans h.size k.size, fun i hi hn => (k.block i (Nat.lt_of_lt_of_le hi h.size) (fun hr => hn (hs i hi hr))).trans (h.block i hi hn)⟩
theorem Upd.sub20 {S R : Nat → Prop} {a b : World} (h : Upd S a b) (hs : ∀ i, S i → R i) : Upd R a b := ⟨h.os, h.tape, h.output, h.size, fun i hi hn => h.block i hi (fun hr => hn (hs i hr))⟩
theorem Upd.drew20 {S : Nat → Prop} {a w : World} (h : Upd S a w) : Upd S a w.drew := ⟨h.os, h.tape, h.output, h.size, h.block⟩
def Does (o : Oper) (T : Array Value) (df : List Deferred) (w : World) (K : Value → World → Prop) : Prop :=
  (∃ V w', (execOp (⟨T, df⟩ : Act).eval o).run Try.prog w = .ok (.value V) w' ∧ K V w') ∨
  (∃ w', (execOp (⟨T, df⟩ : Act).eval o).run Try.prog w = .ok .skip w' ∧ K undef w') ∨
  (∃ fid args R, (execOp (⟨T, df⟩ : Act).eval o).run Try.prog w = .ok (.enter fid args) w ∧ Calls Try.prog fid args w R ∧ ∀ e w', R e w' → ∃ V, e = .returned V ∧ K V w')
def hasDep (o : Oper) (j : Nat) : Bool := o.after.toList.any fun e => Region.binds .any e && e.on == j
def ptr (T : Array Value) (k : Nat) : Nat := match T[k]? with
  | some (.pointer (some a)) => a.block
  | _ => 0
def dstIs (o : Oper) (k : Nat) : Bool := match o.dst with
  | none => false
  | some d => d == k
structure Nx (o : Oper) (n : Nat) (T T' : Array Value) (V : Value) : Prop where
  z : T'.size = n
  k : ∀ k, dstIs o k = false → T'[k]? = T[k]?
  s : ∀ d, o.dst = some d → T'[d]? = some V
def okU (l : List Oper) (u : Nat → Nat → Bool) (i j : Nat) : Bool := (List.range l.length).all fun k => !u j k || (k == i) || match l[k]? with
  | none => false
  | some ok => hasDep ok i
def Stp (l : List Oper) (u : Nat → Nat → Bool) (n : Nat) (B : Array Value → World → Prop) (P C : Nat → Array Value → World → Prop) (E : Nat → Array Value → Nat → Prop) (al : Nat → Bool) (i : Nat) (o : Oper) : Prop :=
  ∀ T df w, T.size = n → B T w → (∀ j, hasDep o j = true → okU l u i j = true → P j T w) → (∀ s os, l[s]? = some os → (s = i ∨ hasDep os i = true) → C s T w) →
    ∃ c, Region.wanted o (yielded l.toArray T) = c ∧ (c = true → Does o T df w fun V w' => Upd (E i T) w w' ∧ (al i = true → ∃ a, V = .pointer (some a) ∧ w.heap.size ≤ a.block ∧ a.block < w'.heap.size) ∧ ∀ T', Nx o n T T' V → P i T' w') ∧ (c = false → al i = false) ∧ (c = false → ∀ T', Nx o n T T' undef → P i T' w)
def StB (n : Nat) (F : Array Value → World → Prop) (sl : List Nat) (E : Array Value → Nat → Prop) (D : Array Value → Prop) : Prop :=
  ∀ T T' w w', F T w → D T → T'.size = n → (∀ k ∈ sl, T'[k]? = T[k]?) → Upd (E T) w w' → F T' w'
def Apt (l : List Oper) (al : Nat → Bool) (i j : Nat) (T : Array Value) : Prop :=
  ∀ oi oj a b d e, l[i]? = some oi → l[j]? = some oj → al a = true → al b = true → a ≠ b → (a = i ∨ hasDep oi a = true) → hasDep oj b = true → (l[a]?.bind (·.dst)) = some d → (l[b]?.bind (·.dst)) = some e → ptr T d ≠ ptr T e
def AllI (f : Nat → Oper → Prop) : Nat → List Oper → Prop
  | _, [] => True
  | k, o :: r => f k o ∧ AllI f (k + 1) r
theorem AllI.get {f : Nat → Oper → Prop} : ∀ {l : List Oper} {k i : Nat} {o : Oper}, AllI f k l → l[i]? = some o → f (k + i) o
  | [], _, _, _, _, h => by simp at h
  | a :: r, k, 0, o, H, h => by simp at h; subst h; exact H.1
  | a :: r, k, i + 1, o, H, h => by
    have := AllI.get (i := i) H.2 (by simpa using h)
    rwa [show k + 1 + i = k + (i + 1) by omega] at this
def chkP (l : List Oper) (n : Nat) (sl slC : Nat → List Nat) (slB : List Nat) (al : Nat → Bool) : Bool :=
  (List.range l.length).all fun j => match l[j]? with
    | none => false
    | some o => (o.after.toList.all fun e => !Region.binds .any e || decide (e.on < j)) && match o.dst with
      | none => !al j
      | some d => decide (d < n) && !slB.contains d && (List.range l.length).all fun i => (i == j) || ((!(sl i).contains d || match l[i]? with
          | none => false
          | some oi => hasDep oi j) && !(slC i).contains d && (!al i || match l[i]? with
          | none => false
          | some oi => !dstIs oi d))
theorem countP_same {f g : Nat → Bool} : ∀ {l : List Nat}, (∀ j ∈ l, g j = f j) → l.countP g = l.countP f
  | [], _ => rfl
  | a :: r, h => by
    rw [List.countP_cons, List.countP_cons, countP_same (fun j hj => h j (List.mem_cons_of_mem _ hj)), h a (List.mem_cons_self ..)]
theorem countP_one {f g : Nat → Bool} {i : Nat} (hf : f i = true) (hg : g i = false) (hs : ∀ j, j ≠ i → g j = f j) : ∀ {l : List Nat}, l.Nodup → i ∈ l → l.countP g + 1 = l.countP f
  | [], _, h => by cases h
  | a :: r, hn, h => by
    rw [List.countP_cons, List.countP_cons]
    have hn2 := List.nodup_cons.1 hn
    by_cases e : a = i
    · subst e
      rw [countP_same (f := f) (g := g) (fun j hj => hs j (by rintro rfl; exact hn2.1 hj)), hf, hg]
      simp
    · have hi : i ∈ r := by
        rcases List.mem_cons.1 h with h | h
        · exact absurd h.symm e
        · exact h
      have := countP_one hf hg hs hn2.2 hi
      rw [hs a e]
      omega
theorem exists_min {p : Nat → Prop} {k : Nat} (h : p k) : ∃ i, p i ∧ ∀ j, j < i → ¬ p j := by
  induction k using Nat.strongRecOn with
  | _ k ih =>
    by_cases e : ∃ j, j < k ∧ p j
    · obtain ⟨j, hj, hp⟩ := e
      exact ih j hj hp
    · exact ⟨k, h, fun j hj hp => e ⟨j, hj, hp⟩⟩
section
variable {l : List Oper} {n : Nat} {B : Array Value → World → Prop} {P C : Nat → Array Value → World → Prop} {E : Nat → Array Value → Nat → Prop} {sl slC : Nat → List Nat} {slB : List Nat} {u : Nat → Nat → Bool} {al : Nat → Bool} {Q : Exit → Act → World → Prop} {df : List Deferred}
theorem hasDep_iff {o : Oper} {j : Nat} : hasDep o j = true ↔ ∃ e ∈ o.after, Region.binds .any e = true ∧ e.on = j := by
  unfold hasDep
  rw [List.any_eq_true]
  constructor
  · rintro ⟨e, he, h⟩
    simp only [Bool.and_eq_true, beq_iff_eq] at h
    exact ⟨e, by simpa using he, h.1, h.2⟩
  · rintro ⟨e, he, h1, h2⟩
    exact ⟨e, by simpa using he, by simp [h1, h2]⟩
theorem chk_lt (h : chkP l n sl slC slB al = true) {j : Nat} {o : Oper} (ho : l[j]? = some o) {i : Nat} (hd : hasDep o i = true) : i < j := by
  have hl : j < l.length := (List.getElem?_eq_some_iff.1 ho).1
  have := List.all_eq_true.1 h j (List.mem_range.2 hl)
  rw [ho] at this
  simp only [Bool.and_eq_true] at this
  obtain ⟨e, he, hb, rfl⟩ := hasDep_iff.1 hd
  have := List.all_eq_true.1 this.1 e (by simpa using he)
  simpa [hb] using this
theorem chk_dst (h : chkP l n sl slC slB al = true) {j : Nat} {o : Oper} (ho : l[j]? = some o) {d : Nat} (hd : o.dst = some d) : d < n ∧ d ∉ slB ∧ ∀ i oi, l[i]? = some oi → i ≠ j → (d ∈ sl i → hasDep oi j = true) ∧ d ∉ slC i ∧ (al i = true → dstIs oi d = false) := by
  have hl : j < l.length := (List.getElem?_eq_some_iff.1 ho).1
  have := List.all_eq_true.1 h j (List.mem_range.2 hl)
  rw [ho] at this
  simp only [Bool.and_eq_true, hd, decide_eq_true_eq, Bool.not_eq_true', List.contains_eq_mem, decide_eq_false_iff_not] at this
  refine ⟨this.2.1.1, this.2.1.2, fun i oi hi hne => ?_⟩
  have h2 := List.all_eq_true.1 this.2.2 i (List.mem_range.2 (List.getElem?_eq_some_iff.1 hi).1)
  rw [hi] at h2
  simp only [Bool.or_eq_true, Bool.and_eq_true, beq_iff_eq, Bool.not_eq_true', decide_eq_false_iff_not] at h2
  rcases h2 with h2 | h2
  · exact absurd h2 hne
  · exact ⟨fun hm => h2.1.1.resolve_left (fun hn => hn hm), h2.1.2, fun ha => h2.2.resolve_left (by rw [ha]; decide)⟩
theorem put_nx {o : Oper} {T : Array Value} {V : Value} (hz : T.size = n) (hd : ∀ d, o.dst = some d → d < n) : ∃ T', (⟨T, df⟩ : Act).put o.dst V = ⟨T', df⟩ ∧ Nx o n T T' V := by
  cases h : o.dst with
  | none => exact ⟨T, rfl, hz, fun _ _ => rfl, fun d hd => by rw [h] at hd; cases hd⟩
  | some d =>
    refine ⟨T.setIfInBounds d V, rfl, by simp [hz], fun k hk => at_set_ne _ ?_, fun d' h' => ?_⟩
    · rintro rfl
      unfold dstIs at hk
      rw [h] at hk
      simp at hk
    · rw [h] at h'
      cases h'
      have := hd d h
      exact at_set _ (by rw [hz]; exact this)
theorem getD_tf {L : Array Bool} {i : Nat} (h : i < L.size) : L.getD i true = L.getD i false := by
  rw [Array.getD_eq_getD_getElem?, Array.getD_eq_getD_getElem?, Array.getElem?_eq_getElem h]
  rfl
structure AlI (l : List Oper) (al : Nat → Bool) (listed : Array Bool) (T : Array Value) (w : World) : Prop where
  lt : ∀ a o d, l[a]? = some o → al a = true → listed.getD a false = true → o.dst = some d → ptr T d < w.heap.size
  ne : ∀ a b oa ob d e, l[a]? = some oa → l[b]? = some ob → al a = true → al b = true → a ≠ b → listed.getD a false = true → listed.getD b false = true → oa.dst = some d → ob.dst = some e → ptr T d ≠ ptr T e
theorem vp_run (hchk : chkP l n sl slC slB al = true) (stB : ∀ j, StB n B slB (E j) (fun _ => True)) (stP : AllI (fun i _ => ∀ j, j ≠ i → u i j = false → StB n (P i) (sl i) (E j) (Apt l al i j)) 0 l) (stC : AllI (fun i _ => ∀ j, j ≠ i → StB n (C i) (slC i) (E j) (fun _ => True)) 0 l)
    (H : AllI (Stp l u n B P C E al) 0 l) (fin : ∀ T w, T.size = n → B T w → (∀ i o, l[i]? = some o → (∀ k, u i k = false) → P i T w) → (∀ a b oa ob d e, l[a]? = some oa → l[b]? = some ob → al a = true → al b = true → a ≠ b → oa.dst = some d → ob.dst = some e → ptr T d ≠ ptr T e) → Q .normal ⟨T, df⟩ w) :
    ∀ (fuel : Nat) (listed : Array Bool) (T : Array Value) (w : World), listed.size = l.length → (List.range l.length).countP (fun i => !listed.getD i false) ≤ fuel → T.size = n → B T w →
      (∀ i o, l[i]? = some o → listed.getD i false = true → ((∀ k, u i k = true → listed.getD k false = false) → P i T w) ∧ ∀ j, hasDep o j = true → listed.getD j false = true) → (∀ s o, l[s]? = some o → listed.getD s false = false → C s T w) → AlI l al listed T w →
      wpAny Try.prog .any l.toArray (NoPanic Q) fuel listed ⟨T, df⟩ w := by
  have done : ∀ (listed : Array Bool) (T : Array Value) (w : World), listed.size = l.length → T.size = n → B T w → (∀ i o, l[i]? = some o → listed.getD i false = true → ((∀ k, u i k = true → listed.getD k false = false) → P i T w) ∧ ∀ j, hasDep o j = true → listed.getD j false = true) → AlI l al listed T w → Region.ready .any l.toArray listed = [] → NoPanic Q .normal ⟨T, df⟩ w := by
    intro listed T w hls hz hB hP hA hr
    have hall : ∀ i o, l[i]? = some o → listed.getD i false = true := by
      intro i o ho
      by_cases hl : listed.getD i false = true
      · exact hl
      · exfalso
        obtain ⟨i, ⟨o, ho, hl⟩, hmin⟩ := exists_min (p := fun i => ∃ o, l[i]? = some o ∧ ¬ listed.getD i false = true) ⟨o, ho, hl⟩
        have hlt := (List.getElem?_eq_some_iff.1 ho).1
        have hmem : i ∈ Region.ready .any l.toArray listed := mem_ready.2 ⟨by
          rw [getD_tf (by omega)]
          simpa using hl, o, by simpa using ho, fun e he hb => ?_⟩
        · rw [hr] at hmem; cases hmem
        · have hd : hasDep o e.on = true := hasDep_iff.2 ⟨e, he, hb, rfl⟩
          have h1 := chk_lt hchk ho hd
          have := hmin e.on h1
          by_cases hx : listed.getD e.on false = true
          · exact hx
          · exact absurd ⟨_, List.getElem?_eq_getElem (by omega), hx⟩ this
    exact NoPanic.normal (fin T w hz hB (fun i o ho hu => (hP i o ho (hall i o ho)).1 (fun k hk => by rw [hu k] at hk; cases hk)) (fun a b oa ob d e h1 h2 h3 h4 h5 h6 h7 => hA.ne a b oa ob d e h1 h2 h3 h4 h5 (hall a oa h1) (hall b ob h2) h6 h7))
  intro fuel
  induction fuel with
  | zero =>
    intro listed T w hls hc hz hB hP hC hA
    have hr : Region.ready .any l.toArray listed = [] := by
      refine List.eq_nil_iff_forall_not_mem.2 (fun i hi => ?_)
      obtain ⟨h1, o, ho, h2⟩ := mem_ready.1 hi
      have hlt : i < l.length := by simpa using (Array.getElem?_eq_some_iff.1 ho).1
      have h3 : listed.getD i false = false := by rw [← getD_tf (by omega)]; exact h1
      have := (List.countP_pos_iff (p := fun i => !listed.getD i false)).2 ⟨i, List.mem_range.2 hlt, show (!listed.getD i false) = true by rw [h3]; rfl⟩
      omega
    exact ⟨hr, done listed T w hls hz hB hP hA hr⟩
  | succ fuel ih =>
    intro listed T w hls hc hz hB hP hC hA
    refine ⟨fun hr => done listed T w hls hz hB hP hA hr, fun i hi => ?_⟩
    obtain ⟨h1, o, ho, h2⟩ := mem_ready.1 hi
    have ho' : l[i]? = some o := by simpa using ho
    have hlt : i < l.length := (List.getElem?_eq_some_iff.1 ho').1
    have h3 : listed.getD i false = false := by rw [← getD_tf (by omega)]; exact h1
    have hset : ∀ j, j ≠ i → (listed.setIfInBounds i true).getD j false = listed.getD j false := fun j hj => getD_setb (fun e => hj e.symm) false
    have hseti : (listed.setIfInBounds i true).getD i false = true := by
      rw [Array.getD_eq_getD_getElem?, Array.getElem?_setIfInBounds_self_of_lt (by omega)]
      rfl
    have hcount : (List.range l.length).countP (fun j => !(listed.setIfInBounds i true).getD j false) ≤ fuel := by
      have := countP_one (f := fun j => !listed.getD j false) (g := fun j => !(listed.setIfInBounds i true).getD j false) (i := i) (by simp only [h3]; rfl) (by simp only [hseti]; rfl) (fun j hj => by simp only [hset j hj]) List.nodup_range (List.mem_range.2 hlt)
      omega
    have hS := (H.get ho')
    rw [Nat.zero_add] at hS
    have hdep : ∀ j, hasDep o j = true → listed.getD j false = true := fun j hj => by
      obtain ⟨e, he, hb, rfl⟩ := hasDep_iff.1 hj
      exact h2 e he hb
    have hun : ∀ s os, l[s]? = some os → hasDep os i = true → listed.getD s false = false := fun s os hs hd => by
      by_cases hx : listed.getD s false = true
      · have := (hP s os hs hx).2 i hd
        rw [h3] at this
        cases this
      · simpa using hx
    have hdP : ∀ j, hasDep o j = true → okU l u i j = true → P j T w := fun j hj hok => by
      have hc := chk_lt hchk ho' hj
      refine (hP j (l[j]'(by omega)) (List.getElem?_eq_getElem _) (hdep j hj)).1 (fun k hk => ?_)
      by_cases hkl : k < l.length
      · have h2 := List.all_eq_true.1 hok k (List.mem_range.2 hkl)
        rw [List.getElem?_eq_getElem hkl] at h2
        simp only [hk, Bool.not_true, Bool.false_or, Bool.or_eq_true, beq_iff_eq] at h2
        rcases h2 with rfl | hd
        · exact h3
        · exact hun k _ (List.getElem?_eq_getElem hkl) hd
      · rw [Array.getD_eq_getD_getElem?, Array.getElem?_eq_none (by omega)]
        rfl
    obtain ⟨c, hw, ht, hf0, hf⟩ := hS T df w hz hB hdP (fun s os hs hor => hC s os hs (by
      rcases hor with rfl | hd
      · exact h3
      · exact hun s os hs hd))
    have next : ∀ V w', Upd (E i T) w w' → (al i = true → ∃ a, V = .pointer (some a) ∧ w.heap.size ≤ a.block ∧ a.block < w'.heap.size) → (∀ T', Nx o n T T' V → P i T' w') → wpAny Try.prog .any l.toArray (NoPanic Q) fuel (listed.setIfInBounds i true) ((⟨T, df⟩ : Act).put o.dst V) w' := by
      intro V w' hu hal hPi
      obtain ⟨T', hT, hN⟩ := put_nx (df := df) (V := V) hz (fun d hd => (chk_dst hchk ho' hd).1)
      rw [hT]
      have keep : ∀ k, (∀ d, o.dst = some d → d ≠ k) → T'[k]? = T[k]? := fun k hk => hN.k k (by
        unfold dstIs
        cases hd : o.dst with
        | none => rfl
        | some d => simpa using hk d hd)
      have keepA : ∀ a oa d, l[a]? = some oa → al a = true → a ≠ i → oa.dst = some d → ptr T' d = ptr T d := fun a oa d ha hal2 hne hd => by
        unfold ptr
        rw [keep d (fun d2 hd2 e => by
          have := ((chk_dst hchk ho' hd2).2.2 a oa ha hne).2.2 hal2
          unfold dstIs at this
          rw [hd, e] at this
          simp at this)]
      have newA : ∀ d, al i = true → o.dst = some d → w.heap.size ≤ ptr T' d ∧ ptr T' d < w'.heap.size := fun d h1 h2 => by
        obtain ⟨a, rfl, ha, hb⟩ := hal h1
        unfold ptr
        rw [hN.s d h2]
        exact ⟨ha, hb⟩
      refine ih (listed.setIfInBounds i true) T' w' (by simp [hls]) hcount hN.z (stB i T T' w w' hB trivial hN.z (fun k hk => keep k (fun d hd e => (chk_dst hchk ho' hd).2.1 (e ▸ hk))) hu) (fun j oj hj hl => ?_) (fun s os hs hl => ?_) ⟨fun a oa d ha hal2 hl hd => ?_, fun a b oa ob d e ha hb ha2 hb2 hne hla hlb hd he => ?_⟩
      · by_cases e : j = i
        · subst e
          rw [ho'] at hj
          cases hj
          refine ⟨fun _ => hPi T' hN, fun k hk => ?_⟩
          have := chk_lt hchk ho' hk
          rw [hset k (by omega)]
          exact hdep k hk
        · rw [hset j e] at hl
          have hj2 := hP j oj hj hl
          refine ⟨fun hun2 => ?_, fun k hk => ?_⟩
          · have hst := stP.get hj
            rw [Nat.zero_add] at hst
            have huj : u j i = false := by
              cases hx : u j i with
              | false => rfl
              | true => have := hun2 i hx; rw [hseti] at this; cases this
            refine hst i (fun h => e h.symm) huj T T' w w' (hj2.1 (fun k hk => ?_)) (fun oi2 oj2 a b d f h1 h2 ha hb hab hda hdb hd hf => ?_) hN.z (fun k hk => keep k (fun d hd e2 => ?_)) hu
            · have := hun2 k hk
              by_cases e4 : k = i
              · subst e4; exact h3
              · rwa [hset k e4] at this
            · rw [hj] at h1
              cases h1
              rw [ho'] at h2
              cases h2
              cases hla : l[a]? with
              | none => rw [hla] at hd; cases hd
              | some oa =>
                cases hlb : l[b]? with
                | none => rw [hlb] at hf; cases hf
                | some ob =>
                  rw [hla] at hd
                  rw [hlb] at hf
                  refine hA.ne a b oa ob d f hla hlb ha hb hab ?_ (hdep b hdb) hd hf
                  rcases hda with rfl | hda
                  · exact hl
                  · exact hj2.2 a hda
            · have := ((chk_dst hchk ho' hd).2.2 j oj hj e).1 (e2 ▸ hk)
              have := hj2.2 i this
              rw [h3] at this
              cases this
          · by_cases e3 : k = i
            · subst e3; exact hseti
            · rw [hset k e3]; exact hj2.2 k hk
      · by_cases e : s = i
        · subst e; rw [hseti] at hl; cases hl
        · rw [hset s e] at hl
          have hst := stC.get hs
          rw [Nat.zero_add] at hst
          exact hst i (fun h => e h.symm) T T' w w' (hC s os hs hl) trivial hN.z (fun k hk => keep k (fun d hd e2 => ((chk_dst hchk ho' hd).2.2 s os hs e).2.1 (e2 ▸ hk))) hu
      · by_cases e : a = i
        · subst e
          rw [ho'] at ha
          cases ha
          exact (newA d hal2 hd).2
        · rw [hset a e] at hl
          rw [keepA a oa d ha hal2 e hd]
          exact Nat.lt_of_lt_of_le (hA.lt a oa d ha hal2 hl hd) hu.size
      · by_cases ea : a = i
        · subst ea
          rw [ho'] at ha
          cases ha
          have eb : b ≠ a := fun h => hne h.symm
          rw [hset b eb] at hlb
          rw [keepA b ob e hb hb2 eb he]
          have := hA.lt b ob e hb hb2 hlb he
          have := (newA d ha2 hd).1
          omega
        · rw [hset a ea] at hla
          rw [keepA a oa d ha ha2 ea hd]
          by_cases eb : b = i
          · subst eb
            rw [ho'] at hb
            cases hb
            have := hA.lt a oa d ha ha2 hla hd
            have := (newA e hb2 he).1
            omega
          · rw [hset b eb] at hlb
            rw [keepA b ob e hb hb2 eb he]
            exact hA.ne a b oa ob d e ha hb ha2 hb2 hne hla hlb hd he
    unfold wpOp
    rw [show l.toArray[i]? = some o from ho]
    simp only
    rw [hw]
    cases c with
    | false => exact next undef w (Upd.refl _ _) (fun h => by rw [hf0 rfl] at h; cases h) (fun T' hN => hf rfl T' hN)
    | true =>
      simp only [if_true]
      refine .inl ?_
      unfold Oper.wp
      rcases ht rfl with ⟨V, w', he, hu, ha, hp⟩ | ⟨w', he, hu, ha, hp⟩ | ⟨fid, args, R, he, hcall, hR⟩
      · rw [he, Oper.upon_value]; exact next V w' hu ha hp
      · rw [he, Oper.upon_skip]; exact next undef w' hu ha hp
      · rw [he, Oper.upon_enter]
        refine hcall.mono ?_
        intro e w' hr
        obtain ⟨V, rfl, hu, ha, hp⟩ := hR e w' hr
        exact next V w' hu ha hp
theorem vp_start {id : Nat} {T : Array Value} {w : World} (n : Nat) (B : Array Value → World → Prop) (P C : Nat → Array Value → World → Prop) (E : Nat → Array Value → Nat → Prop) (sl slC : Nat → List Nat) (slB : List Nat) (u : Nat → Nat → Bool) (al : Nat → Bool) (hm : Try.prog.follows .mixedOrders = true) (hchk : chkP l n sl slC slB al = true) (hz : T.size = n) (hB : B T w.drew) (hC : AllI (fun i _ => C i T w.drew) 0 l)
    (stB : ∀ j, StB n B slB (E j) (fun _ => True)) (stP : AllI (fun i _ => ∀ j, j ≠ i → u i j = false → StB n (P i) (sl i) (E j) (Apt l al i j)) 0 l) (stC : AllI (fun i _ => ∀ j, j ≠ i → StB n (C i) (slC i) (E j) (fun _ => True)) 0 l)
    (H : AllI (Stp l u n B P C E al) 0 l) (fin : ∀ T w, T.size = n → B T w → (∀ i o, l[i]? = some o → (∀ k, u i k = false) → P i T w) → (∀ a b oa ob d e, l[a]? = some oa → l[b]? = some ob → al a = true → al b = true → a ≠ b → oa.dst = some d → ob.dst = some e → ptr T d ≠ ptr T e) → Q .normal ⟨T, df⟩ w) : (Code.region id l.toArray true).wp Try.prog Q ⟨T, df⟩ w := by
  refine wp_region_noPanic (wp_region_any hm ?_)
  have hno : ∀ i, ¬ (Array.replicate l.length false).getD i false = true := fun i hl => by
    rw [Array.getD_eq_getD_getElem?, Array.getElem?_replicate] at hl
    split at hl <;> simp at hl
  have := vp_run (df := df) hchk stB stP stC H fin l.length (Array.replicate l.length false) T w.drew (by simp) (by have := List.countP_le_length (p := fun i => !(Array.replicate l.length false).getD i false) (l := List.range l.length); rw [List.length_range] at this; exact this) hz hB (fun i o ho hl => absurd hl (hno i)) (fun s o hs _ => by have := hC.get hs; rwa [Nat.zero_add] at this) ⟨fun a o d _ _ hl => absurd hl (hno a), fun a b _ _ _ _ _ _ _ _ _ hl => absurd hl (hno a)⟩
  simpa using this
end
end Go.Proofs.Ytfafhlahbhopaaa
namespace Go.Proofs.Ytfafhlahbhopaaa
open Go.ChangeShapes Go.WideShapes Go.ChangeAt Go.RowKit Go.Maps
open Classical
theorem u8_wf20 {n : Int} (h : (Lit.int .u8 n).wf = true) : 0 ≤ n ∧ n < 256 := by
  simp [Lit.wf, IntKind.min, IntKind.max, IntKind.signed, IntKind.bits] at h
  omega
theorem open_hashc20 {H : Type} {enc : TypeId × Value → H} {W : World} {base : Nat} {sp : Nat → Bool} {held : Bool} {n : Nat} {cl : List Value} {x : DataW H × List MemPlace} (hf : DataW.trod enc Try.prog W base sp held n 24 cl = some x) :
    ∃ o : Hs, True ∧ cl = o.cs := by
  obtain ⟨xs, m, _, _, hl, hx, he⟩ := DataW.trod_array Try.underlying24 hf
  have c32 : Try.prog.cellsOf 24 = 32 := by kernel_rfl
  have c1 : Try.prog.cellsOf 5 = 1 := by kernel_rfl
  rw [c32] at hl
  have hcl : cl.length = 32 := hl
  have key : ∀ i, (hi : i < 32) → ∃ n : Int, cl[i]? = some (.int .u8 n) ∧ 0 ≤ n ∧ n < 256 := fun i hi => by
    have h1 := he i hi
    rw [c1, Nat.mul_one] at h1
    obtain ⟨x, hxx⟩ : ∃ x, xs[i]? = some x := ⟨_, List.getElem?_eq_getElem (by omega)⟩
    rw [hxx] at h1
    obtain ⟨K, hK, _, hw⟩ := DataW.trod_int Try.underlying5 h1
    have hb := u8_wf20 hw
    refine ⟨K, ?_, hb.1, hb.2⟩
    have h2 : (cl.drop i).take 1 = [.int .u8 K] := hK
    have h3 : ((cl.drop i).take 1)[0]? = some (.int .u8 K) := by rw [h2]; rfl
    rw [List.getElem?_take, if_pos (by decide), List.getElem?_drop, Nat.add_zero] at h3
    exact h3
  refine ⟨⟨cl.map intOf, by rw [List.length_map, hcl], fun x hx => ?_⟩, trivial, ?_⟩
  rotate_left
  · have : (cl.map intOf).map bV = cl := by
      apply List.ext_getElem?
      intro i
      rw [List.getElem?_map, List.getElem?_map]
      by_cases hi : i < 32
      · obtain ⟨n, hn, _⟩ := key i hi
        rw [hn]
        rfl
      · rw [List.getElem?_eq_none (by omega)]
        rfl
    exact this.symm
  · obtain ⟨u, hu, rfl⟩ := List.mem_map.1 hx
    obtain ⟨i, hi, rfl⟩ := List.mem_iff_getElem.1 hu
    obtain ⟨n, hn, h0, h1⟩ := key i (by omega)
    rw [List.getElem?_eq_getElem hi] at hn
    rw [Option.some.inj hn]
    exact ⟨h0, h1⟩
theorem hCells20 : Try.prog.cellsOf 24 = 32 := by kernel_rfl
end Go.Proofs.Ytfafhlahbhopaaa
namespace Go.Proofs.Ytfafhlahbhopaaa
open Go.ChangeShapes Go.WideShapes Go.ChangeAt Go.RowKit Go.Maps
open Classical
def Hb.h20 {o : List Int} (h : Hb o) : Hs := ⟨o, h.len, h.in_⟩
end Go.Proofs.Ytfafhlahbhopaaa
namespace Go.Proofs.Ytfafhlahbhopaaa
open Go.RowKit Go.Maps
open Classical
end Go.Proofs.Ytfafhlahbhopaaa
namespace Go.Proofs.Ytfafhlahbhopaaa
open Go.RowKit Go.Maps
open Classical
end Go.Proofs.Ytfafhlahbhopaaa
namespace Go.Proofs.Ytfafhlahbhopaaa
open Go.RowKit Go.Maps
open Classical
end Go.Proofs.Ytfafhlahbhopaaa
namespace Go.Proofs.Ytfafhlahbhopaaa
open Go.RowKit Go.Maps
open Classical
theorem len2 {α : Type} : ∀ l : List α, l.length = 2 → ∃ a b, l = [a, b]
  | [], h => by cases h
  | [a], h => by simp at h
  | [a, b], _ => ⟨a, b, rfl⟩
  | a :: b :: c :: r, h => by simp at h
theorem eqHd {h k : List Int} (hl : h.length = 32) (kl : k.length = 32) (d : Nat) (w : World) : (Op.equalIn (d + 2) 24 (.agg (h.map bV).toArray) (.agg (k.map bV).toArray)).run Try.prog w = .ok (decide (h = k)) w := by
  have hi0 := i1b
  rw [Option.map_eq_some_iff] at hi0
  obtain ⟨i, hi, _⟩ := hi0
  have hc : Try.prog.cellsOf 5 = 1 := by kernel_rfl
  have := run_equalIn_array (P := Try.prog) w (d + 1) (h.map bV).toArray (k.map bV).toArray Try.underlying24 hi
  rw [hc, items_b hl kl d w _ (fun i hi => List.mem_range.1 hi), all_eq hl kl] at this
  exact this
theorem part0 (a b : Hs) (w : World) : (part 24 (pcs a b).toArray 0).run Try.prog w = .ok a.val w := by
  have e1 : (isAgg 24).run Try.prog w = .ok true w := by kernel_rfl
  have e2 : (sizeOf 24).run Try.prog w = .ok 32 w := by kernel_rfl
  have e4 : List.take 32 (pcs a b) = a.cs := by rw [pcs, List.take_left' a.len]
  unfold part
  rw [Sem.run_bind, e1, Result.andThen_ok]
  simp [e2, e4]
  first | done | rfl
theorem part32 (a b : Hs) (w : World) : (part 24 (pcs a b).toArray 32).run Try.prog w = .ok b.val w := by
  have e1 : (isAgg 24).run Try.prog w = .ok true w := by kernel_rfl
  have e2 : (sizeOf 24).run Try.prog w = .ok 32 w := by kernel_rfl
  have e4 : List.take 32 (List.drop 32 (pcs a b)) = b.cs := by rw [pcs, List.drop_left' a.len, List.take_of_length_le (by rw [b.len]; omega)]
  unfold part
  rw [Sem.run_bind, e1, Result.andThen_ok]
  simp [e2, e4]
  first | done | rfl
theorem eqP (a b c d : Hs) (w : World) : (Op.equal 95 (pval a b) (pval c d)).run Try.prog w = .ok (decide (a.v = c.v) && decide (b.v = d.v)) w := by
  have hu : Try.prog.underlying 95 = some (.struct (Try.prog.fieldsOf 95)) := by kernel_rfl
  have hp : Try.prog.stoodInHeld 95 = false := by kernel_rfl
  have h := run_equalIn_struct (P := Try.prog) w 9999 95 (pcs a b).toArray (pcs c d).toArray hu hp
  have hf : (Try.prog.fieldsOf 95).toList.map (fun f => (f.type, f.offset, decide (f.name ≠ "_"))) = [(24, 0, true), (24, 32, true)] := by kernel_rfl
  generalize (Try.prog.fieldsOf 95).toList = fs at h hf
  obtain ⟨f, g, rfl⟩ := len2 _ (show fs.length = 2 by have := congrArg List.length hf; rw [List.length_map] at this; exact this)
  simp only [List.map_cons, List.map_nil, List.cons.injEq, Prod.mk.injEq, decide_eq_true_eq, and_true] at hf
  obtain ⟨⟨f1, f2, f3⟩, g1, g2, g3⟩ := hf
  refine h.trans ?_
  have q1 : (Op.equalIn 9999 24 a.val c.val).run Try.prog w = .ok (decide (a.v = c.v)) w := eqHd a.p c.p 9997 w
  have q2 : (Op.equalIn 9999 24 b.val d.val).run Try.prog w = .ok (decide (b.v = d.v)) w := eqHd b.p d.p 9997 w
  rw [Op.eqFields, if_pos f3, f1, f2, Sem.run_bind, part0, Result.andThen_ok, Sem.run_bind, part0, Result.andThen_ok, Sem.run_bind, q1, Result.andThen_ok]
  by_cases e1 : a.v = c.v
  · rw [decide_eq_true e1, if_neg (by simp), Op.eqFields, if_pos g3, g1, g2, Sem.run_bind, part32, Result.andThen_ok, Sem.run_bind, part32, Result.andThen_ok, Sem.run_bind, q2, Result.andThen_ok]
    by_cases e2 : b.v = d.v
    · rw [decide_eq_true e2, if_neg (by simp)]; rfl
    · rw [decide_eq_false e2, if_pos (by simp)]; rfl
  · rw [decide_eq_false e1, if_pos (by simp)]; rfl
theorem gdP (x y : Operand) (A B : Array Value) (w : World) : (eqGuard .neq 95 x y (.agg A) (.agg B)).run Try.prog w = .ok () w := by
  have e : (Try.prog.eqGuardType Try.prog.depth 95) = false := by kernel_rfl
  unfold eqGuard
  simp [e]
theorem neP (x y : Operand) (a b c d : Hs) (w : World) : (do eqGuard .neq 95 x y (pval a b) (pval c d); binOp .neq 95 (pval a b) (pval c d) : Sem Value).run Try.prog w = .ok (.bool (!(decide (a.v = c.v) && decide (b.v = d.v)))) w := by
  rw [Sem.run_bind, show (eqGuard .neq 95 x y (pval a b) (pval c d)).run Try.prog w = .ok () w from gdP x y _ _ w, Result.andThen_ok]
  show (do pure (.bool (!(← Op.equal 95 (pval a b) (pval c d)))) : Sem Value).run Try.prog w = _
  rw [Sem.run_bind, eqP]
  rfl
theorem slFromE20 (q o n c k : Nat) (h1 : k ≤ n) (h2 : n ≤ c) (w : World) : (Instr.sliceAt 22 (.slice (some ⟨q, o, none⟩) n c) (some (.int .i64 (k : Int))) none none).run Try.prog w = .ok (.slice (some (if c = k then ⟨q, o, none⟩ else ⟨q, o + k * 5, none⟩)) (n - k) (c - k)) w := by
  have e1 : (0 : Int) ≤ (k : Int) := by omega
  have e2 : (k : Int) ≤ (n : Int) := by omega
  have e3 : (n : Int) ≤ (c : Int) := by omega
  by_cases h : c = k
  · subst h
    rw [if_pos rfl]
    go_simp
    first | done | simp
  · rw [if_neg h]
    go_simp
    first | done | simp [h]
theorem ex_bdP {o : Oper} {ρ : Operand → Value} {s : TypeId} {a b : Operand} {A B V : Value} {w : World} (ho : o.op = .build s #[(0, a), (1, b)]) (ha : ρ a = A) (hb : ρ b = B) (hr : (Instr.build s #[(0, A), (1, B)]).run Try.prog w = .ok V w) : (execOp ρ o).run Try.prog w = .ok (.value V) w := ex_buildP18 ho (by simp only [List.map_toArray, List.map_cons, List.map_nil, ha, hb]) hr
set_option maxHeartbeats 2000000 in
theorem one20 (a b c d : Hs) (w : World) :
    Calls Try.prog 61 #[pval a b, pval c d] w fun e w' => e = .returned (.bool ((!(decide (a.v = c.v) && decide (b.v = d.v))) && decide ((nd a b).v = (nd c d).v))) ∧ Below w.heap.size w w' := by
  go_enter Try.func61, Try.ntmps61
  go_upto_region 0 with fail
  refine wp_region_lit ?_
  refine vl_gen (fun T => Rp T 21 [(1, gw true (pval c d)), (0, gw true (pval a b))]) (((Rp.nil rfl).cons rfl).cons rfl) (fun Z0 q0 => ?_)
  obtain ⟨w1, hw1⟩ : ∃ y, y = w.alloc (.cells (pcs a b).toArray 95) := ⟨_, rfl⟩
  refine vw (.pointer (some ⟨w.heap.size, 0, none⟩)) w1 (want_none rfl) (ex_box18 rfl (q0.e (j := 0) rfl) (by rw [hw1]; exact bxP _ _ _)) rfl q0.z (by decide) (q0.k fun _ q1 => ?_);clear q0
  have Bw1 : BB w1 w.heap.size 95 (pcs a b) := by rw [hw1]; exact BB.new _ _ _
  have bw1 : Below w.heap.size w w1 := by rw [hw1]; exact (Below.refl _ _).alloc (Nat.le_refl _) _
  have zw1 : w1.heap.size = w.heap.size + 1 := by rw [hw1]; exact World.size_alloc _ _
  clear hw1
  obtain ⟨w2, hw2⟩ : ∃ y, y = w1.alloc (.cells (pcs c d).toArray 95) := ⟨_, rfl⟩
  refine vw (.pointer (some ⟨w1.heap.size, 0, none⟩)) w2 (want_none rfl) (ex_box18 rfl (q1.e (j := 1) rfl) (by rw [hw2]; exact bxP _ _ _)) rfl q1.z (by decide) (q1.k fun _ q2 => ?_);clear q1
  have Bw2 : BB w2 w1.heap.size 95 (pcs c d) := by rw [hw2]; exact BB.new _ _ _
  have bw2 : Below w1.heap.size w1 w2 := by rw [hw2]; exact (Below.refl _ _).alloc (Nat.le_refl _) _
  have zw2 : w2.heap.size = w1.heap.size + 1 := by rw [hw2]; exact World.size_alloc _ _
  clear hw2
  refine q2.t (.bool false) (ex_assign rfl rfl) fun _ q3 => ?_;clear q2
  refine wpList_nil ?_
  go_upto_region 1 with fail
  have A2 := Bw1.later bw2
  have d2 : Below w.heap.size w w2 := bw1.trans (bw2.mono (by omega))
  refine vq_start (C := fun v => Below w2.heap.size w2 v) (by kernel_rfl) (by kernel_rfl) ((Below.refl _ _).drew) ?_
  refine q3.q (pval a b) (fun v hv => ex_ld rfl (q3.e (j := 2) rfl) (A2.later hv).ldP) fun _ q4 => ?_;clear q3
  refine q4.q (pval c d) (fun v hv => ex_ld rfl (q4.e (j := 3) rfl) (Bw2.later hv).ldP) fun _ q5 => ?_;clear q4
  refine q5.q (.bool (!(decide (a.v = c.v) && decide (b.v = d.v)))) (fun v hv => ex_bin rfl (q5.e (j := 5) rfl) (q5.e (j := 6) rfl) (neP _ _ _ _ _ _ _)) fun _ q6 => ?_;clear q5
  refine q6.q (.bool (!(decide (a.v = c.v) && decide (b.v = d.v)))) (fun v hv => ex_move rfl (q6.e (j := 7) rfl)) fun _ q7 => ?_;clear q6
  refine vq ((true && ((!(decide (a.v = c.v) && decide (b.v = d.v))) == true))) (.pointer (some ⟨w.heap.size, 0, none⟩)) (want_g rfl rfl (q7.a 8 rfl)) (fun hc v hv => ex_fa rfl (q7.e (j := 2) rfl) (faP _ 0 0 (by simp) _)) rfl q7.z (by decide) (q7.k fun _ q8 => ?_);clear q7
  refine vq ((true && ((!(decide (a.v = c.v) && decide (b.v = d.v))) == true))) (a.val) (want_g rfl rfl (q8.a 8 rfl)) (fun hc v hv => ex_ld rfl (ev (q8.a 9 rfl) hc) (A2.later hv).ldA) rfl q8.z (by decide) (q8.k fun _ q9 => ?_);clear q8
  refine vq ((true && ((!(decide (a.v = c.v) && decide (b.v = d.v))) == true))) (.pointer (some ⟨w.heap.size, 32, none⟩)) (want_g rfl rfl (q9.a 8 rfl)) (fun hc v hv => ex_fa rfl (q9.e (j := 2) rfl) (faP _ 1 32 (by simp) _)) rfl q9.z (by decide) (q9.k fun _ q10 => ?_);clear q9
  refine vq ((true && ((!(decide (a.v = c.v) && decide (b.v = d.v))) == true))) (b.val) (want_g rfl rfl (q10.a 8 rfl)) (fun hc v hv => ex_ld rfl (ev (q10.a 11 rfl) hc) (A2.later hv).ldB) rfl q10.z (by decide) (q10.k fun _ q11 => ?_);clear q10
  refine vq_call18 ((true && ((!(decide (a.v = c.v) && decide (b.v = d.v))) == true))) ((nd a b).val) (want_g rfl rfl (q11.a 8 rfl)) (fun hc v hv => ex_call rfl (by simp only [List.map_toArray, List.map_cons, List.map_nil, (ev (q11.a 10 rfl) hc), (ev (q11.a 12 rfl) hc), evc] <;> rfl) rfl) (fun hc v hv => bel18 hv (node20 a b v) hv.size) rfl q11.z (by decide) (q11.k fun _ q12 => ?_);clear q11
  refine vq ((true && ((!(decide (a.v = c.v) && decide (b.v = d.v))) == true))) (.pointer (some ⟨w1.heap.size, 0, none⟩)) (want_g rfl rfl (q12.a 8 rfl)) (fun hc v hv => ex_fa rfl (q12.e (j := 3) rfl) (faP _ 0 0 (by simp) _)) rfl q12.z (by decide) (q12.k fun _ q13 => ?_);clear q12
  refine vq ((true && ((!(decide (a.v = c.v) && decide (b.v = d.v))) == true))) (c.val) (want_g rfl rfl (q13.a 8 rfl)) (fun hc v hv => ex_ld rfl (ev (q13.a 14 rfl) hc) (Bw2.later hv).ldA) rfl q13.z (by decide) (q13.k fun _ q14 => ?_);clear q13
  refine vq ((true && ((!(decide (a.v = c.v) && decide (b.v = d.v))) == true))) (.pointer (some ⟨w1.heap.size, 32, none⟩)) (want_g rfl rfl (q14.a 8 rfl)) (fun hc v hv => ex_fa rfl (q14.e (j := 3) rfl) (faP _ 1 32 (by simp) _)) rfl q14.z (by decide) (q14.k fun _ q15 => ?_);clear q14
  refine vq ((true && ((!(decide (a.v = c.v) && decide (b.v = d.v))) == true))) (d.val) (want_g rfl rfl (q15.a 8 rfl)) (fun hc v hv => ex_ld rfl (ev (q15.a 16 rfl) hc) (Bw2.later hv).ldB) rfl q15.z (by decide) (q15.k fun _ q16 => ?_);clear q15
  refine vq_call18 ((true && ((!(decide (a.v = c.v) && decide (b.v = d.v))) == true))) ((nd c d).val) (want_g rfl rfl (q16.a 8 rfl)) (fun hc v hv => ex_call rfl (by simp only [List.map_toArray, List.map_cons, List.map_nil, (ev (q16.a 15 rfl) hc), (ev (q16.a 17 rfl) hc), evc] <;> rfl) rfl) (fun hc v hv => bel18 hv (node20 c d v) hv.size) rfl q16.z (by decide) (q16.k fun _ q17 => ?_);clear q16
  refine vq ((true && ((!(decide (a.v = c.v) && decide (b.v = d.v))) == true))) (.bool (decide ((nd a b).v = (nd c d).v))) (want_g rfl rfl (q17.a 8 rfl)) (fun hc v hv => ex_bin rfl (ev (q17.a 13 rfl) hc) (ev (q17.a 18 rfl) hc) (eqHZ _ _ _ _ _)) rfl q17.z (by decide) (q17.k fun _ q18 => ?_);clear q17
  refine q18.q (.bool ((!(decide (a.v = c.v) && decide (b.v = d.v))) && decide ((nd a b).v = (nd c d).v))) (fun v hv => ex_and rfl (q18.a 8 rfl) (q18.a 19 rfl) rfl) fun _ q19 => ?_;clear q18
  refine q19.q (.bool ((!(decide (a.v = c.v) && decide (b.v = d.v))) && decide ((nd a b).v = (nd c d).v))) (fun v hv => ex_assign rfl (q19.e (j := 20) rfl)) fun _ q20 => ?_;clear q19
  refine vq_nil (fun r1 hr1 => ?_)
  go_wp2
  refine bodyPost_ret (results_tmp rfl _ _ _) rfl ?_
  rw [getD_of (q20.a 4 rfl)]
  exact ⟨rfl, d2.trans (hr1.mono d2.size)⟩
set_option maxHeartbeats 2000000 in
theorem halves20 (l : List En) (a : Option Addr) (n c : Nat) (w : World) (h : SlY yE w a n c l) (h2 : 2 ≤ n) (hn : n ≤ 1000000) (hv : ∀ x ∈ l, x.o.v.size ≤ 140737488352232) :
    Calls Try.prog 62 #[.slice a n c] w fun e w' => e = .returned (pval (hd ((l.map lf).take (lft n))) (hd ((l.map lf).drop (lft n)))) ∧ Below w.heap.size w w' := by
  go_enter Try.func62, Try.ntmps62
  go_upto_region 0 with fail
  refine wp_region_lit ?_
  refine vl_gen (fun T => Rp T 16 [(0, gw true (.slice a n c))]) ((Rp.nil rfl).cons rfl) (fun Z0 q0 => ?_)
  have hln := h.len
  have hcap := h.cap
  obtain ⟨q, o, rfl, hq, hl⟩ := h.place (by rintro rfl; simp at hln; omega)
  obtain ⟨w1, hw1⟩ : ∃ y, y = w.alloc (.cells (pz).toArray 95) := ⟨_, rfl⟩
  refine vw (.pointer (some ⟨w.heap.size, 0, none⟩)) w1 (want_none rfl) (ex_al rfl (by rw [hw1]; exact alP _)) rfl q0.z (by decide) (q0.k fun _ q1 => ?_);clear q0
  have Bw1 : BB w1 w.heap.size 95 (pz) := by rw [hw1]; exact BB.new _ _ _
  have bw1 : Below w.heap.size w w1 := by rw [hw1]; exact (Below.refl _ _).alloc (Nat.le_refl _) _
  have zw1 : w1.heap.size = w.heap.size + 1 := by rw [hw1]; exact World.size_alloc _ _
  clear hw1
  refine wpList_nil ?_
  go_upto_region 1 with fail
  refine wp_region_lit ?_
  refine q1.t (.slice (some ⟨q, o, none⟩) n c) (ex_move rfl (q1.e (j := 0) rfl)) fun _ q2 => ?_;clear q1
  refine q2.t (.int .i64 ((n : Nat) : Int)) (ex_lenG rfl rfl Try.underlying22 (q2.e (j := 4) rfl)) fun _ q3 => ?_;clear q2
  refine vcallP (want_none rfl) (ex_call rfl (by simp only [List.map_toArray, List.map_cons, List.map_nil, (q3.e (j := 5) rfl), evc] <;> rfl) rfl) (split20 n h2 hn w1) rfl q3.z (by decide) ?_
  rintro e w9 ⟨rfl, hw9⟩
  refine ⟨_, rfl, q3.k fun _ q4 => ?_⟩;clear q3
  have hw9 := hw9.symm
  subst hw9
  refine q4.t (.int .i64 ((lft n : Nat) : Int)) (ex_assign rfl (q4.e (j := 6) rfl)) fun _ q5 => ?_;clear q4
  refine wpList_nil ?_
  go_upto_region 2 with fail
  have hb := lft_b (n := n) (by omega)
  refine vg_start (fun k => k == 9) (fun _ => True) (by kernel_rfl) ?_
  have hy0 : Below w1.heap.size w1 w1.drew := (Below.refl _ _).drew
  have hzy0 : w1.drew.heap.size = w1.heap.size := rfl
  generalize w1.drew = y0 at *
  have hS := (h.later bw1).later hy0
  have sT := hS.take (lft n) (by omega)
  have sF := hS.from20 (lft n) (by omega)
  refine vg_takeW 0 true (.slice (some ⟨q, o, none⟩) n c) rfl (by kernel_rfl) (by kernel_rfl) (by kernel_rfl) (by kernel_rfl) (want_none rfl) (fun hc v => ex_move rfl (q5.e (j := 0) rfl)) rfl q5.z (by decide) (fun _ => trivial) (q5.k fun _ q6 => ?_);clear q5
  refine vg_takeW 1 true (.int .i64 ((lft n : Nat) : Int)) rfl (by kernel_rfl) (by kernel_rfl) (by kernel_rfl) (by kernel_rfl) (want_none rfl) (fun hc v => ex_move rfl (q6.e (j := 3) rfl)) rfl q6.z (by decide) (fun _ => trivial) (q6.k fun _ q7 => ?_);clear q6
  refine vg_takeW 2 true (.slice (some ⟨q, o, none⟩) (lft n) c) rfl (by kernel_rfl) (by kernel_rfl) (by kernel_rfl) (by kernel_rfl) (want_none rfl) (fun hc v => ex_sl19 rfl (q7.e (j := 7) rfl) rfl (congrArg some (q7.e (j := 8) rfl)) rfl (slToE20 q o n c (lft n) (by omega) hcap _)) rfl q7.z (by decide) (fun _ => trivial) (q7.k fun _ q8 => ?_);clear q7
  refine vg_takeW 4 true (.slice (some ⟨q, o, none⟩) n c) rfl (by kernel_rfl) (by kernel_rfl) (by kernel_rfl) (by kernel_rfl) (want_none rfl) (fun hc v => ex_move rfl (q8.e (j := 0) rfl)) rfl q8.z (by decide) (fun _ => trivial) (q8.k fun _ q9 => ?_);clear q8
  refine vg_takeW 5 true (.int .i64 ((lft n : Nat) : Int)) rfl (by kernel_rfl) (by kernel_rfl) (by kernel_rfl) (by kernel_rfl) (want_none rfl) (fun hc v => ex_move rfl (q9.e (j := 3) rfl)) rfl q9.z (by decide) (fun _ => trivial) (q9.k fun _ q10 => ?_);clear q9
  refine vg_takeW 6 true (.slice (some (if c = lft n then ⟨q, o, none⟩ else ⟨q, o + (lft n) * 5, none⟩)) (n - lft n) (c - lft n)) rfl (by kernel_rfl) (by kernel_rfl) (by kernel_rfl) (by kernel_rfl) (want_none rfl) (fun hc v => ex_sl19 rfl (q10.e (j := 11) rfl) (congrArg some (q10.e (j := 12) rfl)) rfl rfl (slFromE20 q o n c (lft n) (by omega) hcap _)) rfl q10.z (by decide) (fun _ => trivial) (q10.k fun _ q11 => ?_);clear q10
  refine vg_call 3 rfl (by kernel_rfl) (want_none rfl) (ex_call rfl (by simp only [List.map_toArray, List.map_cons, List.map_nil, (q11.e (j := 9) rfl), evc] <;> rfl) rfl) (head20 _ _ _ _ y0 sT (by omega) (fun x hx => hv x (List.mem_of_mem_take hx))) rfl q11.z (by decide) ?_
  rintro e d1 ⟨rfl, b1⟩
  have z1 := b1.size
  have sF1 := sF.later b1
  have Bh1 := (Bw1.later hy0).later b1
  refine ⟨_, rfl, trivial, q11.k fun _ q12 => ?_⟩;clear q11
  refine vg_call 7 rfl (by kernel_rfl) (want_none rfl) (ex_call rfl (by simp only [List.map_toArray, List.map_cons, List.map_nil, (q12.e (j := 13) rfl), evc] <;> rfl) rfl) (head20 _ _ _ _ d1 sF1 (by omega) (fun x hx => hv x (List.mem_of_mem_drop hx))) rfl q12.z (by decide) ?_
  rintro e d2 ⟨rfl, b2⟩
  have z2 := b2.size
  have Bh2 := Bh1.later b2
  have d6 : Below w.heap.size w d2 := ((bw1.trans (hy0.mono (by omega))).trans (b1.mono (by omega))).trans (b2.mono (by omega))
  refine ⟨_, rfl, trivial, q12.k fun _ q13 => ?_⟩;clear q12
  refine vg_takeW 8 true (pval (hd ((l.take (lft n)).map lf)) (hd ((l.drop (lft n)).map lf))) rfl (by kernel_rfl) (by kernel_rfl) (by kernel_rfl) (by kernel_rfl) (want_none rfl) (fun hc v => ex_bdP rfl (q13.e (j := 10) rfl) (q13.e (j := 14) rfl) (bdP _ _ _)) rfl q13.z (by decide) (fun _ => trivial) (q13.k fun _ q14 => ?_);clear q13
  obtain ⟨d7, hd7⟩ : ∃ y, y = d2.setCells w.heap.size 0 (pcs (hd ((l.take (lft n)).map lf)) (hd ((l.drop (lft n)).map lf))) := ⟨_, rfl⟩
  refine vg_store 9 d7 rfl (by kernel_rfl) (by kernel_rfl) (want_none rfl) (ex_st rfl (q14.e (j := 2) rfl) (q14.e (j := 15) rfl) (by rw [hd7]; exact Bh2.stP rfl _ _)) rfl ?_
  have Bd7 : BB d7 w.heap.size 95 (pcs (hd ((l.take (lft n)).map lf)) (hd ((l.drop (lft n)).map lf))) := by rw [hd7]; exact Bh2.whole _ (by rw [pcs_len]; rfl)
  have ud7 : Upd (fun k => k = w.heap.size) d2 d7 := by rw [hd7]; exact upd18 _ _ _ _
  clear hd7
  refine vg_done (by kernel_rfl) ?_
  go_wp2
  exact Bd7.res rfl (q14.a 2 rfl) Try.underlying95 rfl (by rw [pcs_len]; exact i64p) ⟨by rw [List.map_take, List.map_drop]; rfl, d6.trans (bel_ge ud7 d6.size (Nat.le_refl _))⟩
end Go.Proofs.Ytfafhlahbhopaaa
namespace Go.Proofs.Ytfafhlahbhopaaa
open Go.RowKit Go.Maps
open Classical
end Go.Proofs.Ytfafhlahbhopaaa
namespace Go.Proofs.Ytfafhlahbhopaaa
open Go.RowKit Go.Maps
open Classical
end Go.Proofs.Ytfafhlahbhopaaa
namespace Go.Proofs.Ytfafhlahbhopaaa
open Go.RowKit Go.Maps
open Classical
end Go.Proofs.Ytfafhlahbhopaaa
namespace Go.Proofs.Ytfafhlahbhopaaa
open Go.RowKit Go.Maps
open Classical
theorem getD_last20 {P : List Hs} {k : Nat} (hl : P.length = k) (hk : 1 ≤ k) : P[k - 1]? = some (P.getD (P.length - 1) zH) := by
  rw [List.getD_eq_getElem?_getD, hl, List.getElem?_eq_getElem (by omega)]
  rfl
theorem one_or {a b c d : Hs} (h : nd a b = nd c d) : (a = c ∧ b = d) ∨ ((!(decide ((a).v = (c).v) && decide ((b).v = (d).v))) && decide ((nd (a) (b)).v = (nd (c) (d)).v)) = true := by
  by_cases h1 : a.v = c.v <;> by_cases h2 : b.v = d.v
  · exact .inl ⟨Hs.ext20 h1, Hs.ext20 h2⟩
  · exact .inr (by rw [h]; simp [h2])
  · exact .inr (by rw [h]; simp [h1])
  · exact .inr (by rw [h]; simp [h1])
end Go.Proofs.Ytfafhlahbhopaaa
namespace Go.Proofs.Ytfafhlahbhopaaa
open Go.RowKit Go.Maps
open Classical
theorem neEZ20 (x y : Operand) (a b : Int) (w : World) : (do eqGuard .neq 43 x y (.int .i64 a) (.int .i64 b); binOp .neq 43 (.int .i64 a) (.int .i64 b) : Sem Value).run Try.prog w = .ok (.bool (!decide (a = b))) w := by
  by_cases h : a = b
  · subst h; rw [decide_eq_true rfl]; exact neEF x y a w
  · rw [decide_eq_false h]; go_simp
theorem fewN20 (l : List En) (a : Option Addr) (n0 n c : Nat) (w : World) (h : SlY yE w a n0 c l) (hn : n = min n0 200) :
    Calls Try.prog 28 #[.slice a n0 c] w fun e w' => e = .returned (.slice a n c) ∧ w' = w := by
  subst hn
  exact few20 l a n0 c w h
end Go.Proofs.Ytfafhlahbhopaaa
namespace Go.Proofs.Ytfafhlahbhopaaa
open Go.RowKit Go.Maps
open Classical
end Go.Proofs.Ytfafhlahbhopaaa
