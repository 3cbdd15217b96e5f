import Derived.OpenShut
import Derived.Deep.RegionLaw
import Derived.Deep.SlicePairs
import Derived.Test.YtomiifnhcojilaaRows
import Derived.Lib.ConvBytes
import Derived.ChangeOld
import Derived.ProofKit
import Derived.SizedLaws
import Derived.Test.YtomiifnhcojilaaB8
set_option maxRecDepth 100000
set_option linter.unusedVariables false
set_option linter.unusedSimpArgs false
namespace Go.Proofs.Ytomiifnhcojilaa
open Go.RowKit Go.Maps
open Classical
end Go.Proofs.Ytomiifnhcojilaa
namespace Go.Proofs.Ytomiifnhcojilaa
open Go.RowKit Go.Maps
open Classical
end Go.Proofs.Ytomiifnhcojilaa
namespace Go.Proofs.Ytomiifnhcojilaa
open Go.RowKit Go.Maps Go.WideShapes
open Classical
theorem u8_wf {n : Int} (h : (Lit.int .u8 n).wf = true) : 0 ≤ n ∧ n < 256 := by
  simp [Lit.wf, IntKind.min, IntKind.max, IntKind.signed, IntKind.bits] at h
  omega
theorem open_hash {H : Type} {enc : TypeId × Value → H} {W : World} {base : Nat} {v : Value} {d : DataW H} {p : List MemPlace} (hv : Value.okWide Try.prog W .any base 24 v) (h : DataW.Trod enc Try.prog W 0 (fun _ => true) true 24 v d p) :
    ∃ o : List Int, v = .agg (o.map bV).toArray ∧ Hb o := by
  obtain ⟨fuel, hf⟩ := h
  obtain ⟨xs, m, _, _, hl, hx, he⟩ := DataW.trod_array Try.underlying24 hf
  have c32 : Try.prog.cellsOf 24 = 32 := by kernel_rfl
  have c1 : Try.prog.cellsOf 5 = 1 := by kernel_rfl
  rw [c32] at hl
  have hag : ∃ cs, v = .agg cs := by
    cases v with
    | agg cs => exact ⟨cs, rfl⟩
    | _ => simp [Value.cells] at hl
  obtain ⟨cs, rfl⟩ := hag
  have hcl : cs.toList.length = 32 := hl
  have key : ∀ i, (hi : i < 32) → ∃ n : Int, cs.toList[i]? = some (.int .u8 n) ∧ 0 ≤ n ∧ n < 256 := fun i hi => by
    have h1 := he i hi
    rw [c1, Nat.mul_one] at h1
    obtain ⟨x, hxx⟩ : ∃ x, xs[i]? = some x := ⟨_, List.getElem?_eq_getElem (by omega)⟩
    rw [hxx] at h1
    obtain ⟨K, hK, _, hw⟩ := DataW.trod_int Try.underlying5 h1
    have hb := u8_wf hw
    refine ⟨K, ?_, hb.1, hb.2⟩
    have h2 : (cs.toList.drop i).take 1 = [.int .u8 K] := hK
    have h3 : ((cs.toList.drop i).take 1)[0]? = some (.int .u8 K) := by rw [h2]; rfl
    rw [List.getElem?_take, if_pos (by decide), List.getElem?_drop, Nat.add_zero] at h3
    exact h3
  refine ⟨cs.toList.map intOf, ?_, ⟨by rw [List.length_map, hcl], fun x hx => ?_⟩⟩
  · have : (cs.toList.map intOf).map bV = cs.toList := by
      apply List.ext_getElem?
      intro i
      rw [List.getElem?_map, List.getElem?_map]
      by_cases hi : i < 32
      · obtain ⟨n, hn, _⟩ := key i hi
        rw [hn]
        rfl
      · rw [List.getElem?_eq_none (by omega)]
        rfl
    rw [this]
  · obtain ⟨u, hu, rfl⟩ := List.mem_map.1 hx
    obtain ⟨i, hi, rfl⟩ := List.mem_iff_getElem.1 hu
    obtain ⟨n, hn, h0, h1⟩ := key i (by omega)
    rw [List.getElem?_eq_getElem hi] at hn
    rw [Option.some.inj hn]
    exact ⟨h0, h1⟩
end Go.Proofs.Ytomiifnhcojilaa
namespace Go.Proofs.Ytomiifnhcojilaa
open Go.RowKit Go.Maps
open Classical
end Go.Proofs.Ytomiifnhcojilaa
namespace Go.Proofs.Ytomiifnhcojilaa
open Go.RowKit Go.Maps
open Classical
end Go.Proofs.Ytomiifnhcojilaa
namespace Go.Proofs.Ytomiifnhcojilaa
open Go.RowKit Go.Maps
open Classical
/-! The document's numbers of many halves. -/
end Go.Proofs.Ytomiifnhcojilaa
namespace Go.Proofs.Ytomiifnhcojilaa
open Go.RowKit Go.Maps
open Classical
end Go.Proofs.Ytomiifnhcojilaa
namespace Go.Proofs.Ytomiifnhcojilaa
open Go.RowKit Go.Maps
open Classical
end Go.Proofs.Ytomiifnhcojilaa
namespace Go.Proofs.Ytomiifnhcojilaa
open Go.RowKit Go.Maps
open Classical
end Go.Proofs.Ytomiifnhcojilaa
namespace Go.Proofs.Ytomiifnhcojilaa
open Go.RowKit Go.Maps
open Classical
def sh9 (b : List Int) (i k : Nat) : Int := IntKind.u32.wrap (IntKind.u32.wrap (b.getD i 0) * 2 ^ k)
def wqF (b : List Int) (j : Nat) : Int := bits .or .u32 (bits .or .u32 (bits .or .u32 (sh9 b (4 * j) 24) (sh9 b (4 * j + 1) 16)) (sh9 b (4 * j + 2) 8)) (IntKind.u32.wrap (b.getD (4 * j + 3) 0))
def wA (b : List Int) : Nat → List Int
  | 0 => List.replicate 64 0
  | j + 1 => (wA b j).set j (wqF b j)
end Go.Proofs.Ytomiifnhcojilaa
namespace Go.Proofs.Ytomiifnhcojilaa
open Go.RowKit Go.Maps
open Classical
end Go.Proofs.Ytomiifnhcojilaa
namespace Go.Proofs.Ytomiifnhcojilaa
open Go.ChangeShapes Go.WideShapes Go.ChangeAt Go.RowKit Go.Maps
open Classical
def Hb.h20 {o : List Int} (h : Hb o) : Hs := ⟨o, h.len, h.in_⟩
end Go.Proofs.Ytomiifnhcojilaa
namespace Go.Proofs.Ytomiifnhcojilaa
open Go.RowKit Go.Maps
open Classical
end Go.Proofs.Ytomiifnhcojilaa
namespace Go.Proofs.Ytomiifnhcojilaa
open Go.RowKit Go.Maps
open Classical
end Go.Proofs.Ytomiifnhcojilaa
namespace Go.Proofs.Ytomiifnhcojilaa
open Go.RowKit Go.Maps
open Classical
end Go.Proofs.Ytomiifnhcojilaa
namespace Go.Proofs.Ytomiifnhcojilaa
open Go.ChangeShapes Go.WideShapes Go.RowKit
open Classical
theorem len_sum5 : ∀ P : List En, P.length ≤ (P.map fun q => q.o.v.size + 1).sum
  | [] => by simp
  | x :: r => by
    have := len_sum5 r
    rw [List.map_cons, List.sum_cons, List.length_cons]
    omega
theorem up_small5 {P : List En} {B : Nat} (h : (P.map fun q => q.o.v.size + 1).sum + 1 ≤ B) (hB : B ≤ 1048576) : P.length ≤ 1048576 ∧ ∀ x ∈ P, x.o.v.size ≤ 140737488349000 := by
  refine ⟨by have := len_sum5 P; omega, fun x hx => ?_⟩
  have := mem_sum (fun q : En => q.o.v.size + 1) P x hx
  omega
theorem cellsSd20 : Try.prog.cellsOf 60 = 8 := by kernel_rfl
theorem cellsSH20 : Try.prog.cellsOf 42 = 1 := by kernel_rfl
theorem up_said20 {H : Type} {enc : TypeId × Value → H} {W : World} {v : Value} {d : DataW H} {p : List MemPlace} (h : DataW.Trod enc Try.prog W 0 (fun _ => true) true 60 v d p) :
    ∃ (z : Int) (x : En) (a : Option Addr) (n c : Nat) (P : List Hs) (z2 : Int), v = sval z x (.slice a n c) z2 ∧ SlY yH W a n c P ∧ P.length ≤ Rows.uptoBulk d ∧ x.o.v.size ≤ Rows.uptoBulk d := by
  obtain ⟨fuel, hf⟩ := h
  obtain ⟨xs, k, hk, hxy, hlen, hxl, hf⟩ := DataW.trod_struct Try.underlying60 hf
  rw [cellsSd20] at hlen
  have hxl : xs.length = 4 := hxl
  have hv : ∀ cs : List Value, v.cells.toList = cs → cs.length = 8 → v = .agg cs.toArray := by
    intro cs hc hl
    cases v with
    | agg vs =>
      have : vs.toList = cs := hc
      rw [← this]
    | _ => rw [← hc] at hl; simp [Value.cells] at hl
  generalize hcs : v.cells.toList = cs at *
  match xs, hxl, cs, hlen with
  | [y0, y1, y2, y3], _, [v0, v1, v2, v3, v4, v5, v6, v7], _ =>
    have g0 := hf 0 _ rfl
    have g1 := hf 1 _ rfl
    have g2 := hf 2 _ rfl
    have g3 := hf 3 _ rfl
    simp [cellsI20, cellsE20, cellsSH20] at g0 g1 g2 g3
    obtain ⟨z, hz, hx0, hw0⟩ := DataW.trod_int Try.underlying3 g0
    obtain ⟨x, _, hc, hw1⟩ := up_enc g1
    obtain ⟨a, n, c, P, e2, s2, hw2⟩ := up_hashes g2
    obtain ⟨z2, hz2, hx3, hw3⟩ := DataW.trod_int Try.underlying3 g3
    refine ⟨z, x, a, n, c, P, z2, ?_, s2, ?_, ?_⟩
    · rw [hv _ rfl rfl]
      have e0 := (List.cons_eq_cons.1 hz).1
      have e3 := (List.cons_eq_cons.1 hz2).1
      have e6 := (List.cons_eq_cons.1 e2).1
      simp [En.cs] at hc
      obtain ⟨c1, c2, c3, c4, c5⟩ := hc
      subst e0 e3 e6 c1 c2 c3 c4 c5
      rfl
    · rw [(Prod.mk.inj hxy).1]
      simp only [List.map_cons, List.map_nil, Rows.uptoBulk, Rows.uptoBulkAll]
      omega
    · rw [(Prod.mk.inj hxy).1]
      simp only [List.map_cons, List.map_nil, Rows.uptoBulk, Rows.uptoBulkAll]
      omega
theorem binds_came20 (L0 : List En) (a : Option Addr) (n0 c : Nat) (z1 : Int) (x : En) (Q : List Hs) (a3 : Option Addr) (k c3 : Nat) (z2 : Int) (y : List Int) (hy : Hb y) (W : World) (h : SlY yE W a n0 c L0) (hs : L0.length ≤ 1048576 ∧ ∀ x ∈ L0, x.o.v.size ≤ 140737488350000) (hQ : SlY yH W a3 k c3 Q) (hk : Q.length ≤ 1048576) (hx : x.o.v.size ≤ 1048576) :
    Calls Try.prog 8 #[.slice a n0 c, sval z1 x (.slice a3 k c3) z2, .agg (y.map bV).toArray] W fun e w' => e = .returned (.bool true) ∧ Below W.heap.size W w' :=
  binds20 L0 a n0 c z1 x Q a3 k c3 z2 hy.h20 W h hQ (by have := hQ.len; omega) hs.2 (by omega)
end Go.Proofs.Ytomiifnhcojilaa
