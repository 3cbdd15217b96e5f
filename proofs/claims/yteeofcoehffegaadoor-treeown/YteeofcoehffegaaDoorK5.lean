import Derived.Test.YteeofcoehffegaaDoorRows
import Derived.Deep.SlicePairs
import Derived.ChangeOld
import Derived.OpenShut
import Derived.ProofKit
import Derived.SizedLaws
import Derived.Shelf.Spec.TrailingZeros
import Derived.Test.YteeofcoehffegaaDoorK4
set_option maxRecDepth 100000
set_option linter.unusedVariables false
set_option linter.unusedSimpArgs false
namespace Go.Proofs.YteeofcoehffegaaDoor
open Go.ChangeShapes Go.WideShapes Go.RowKit
open Classical
theorem cellsI20 : Tryd.prog.cellsOf 3 = 1 := by kernel_rfl
theorem cellsS20 : Tryd.prog.cellsOf 9 = 1 := by kernel_rfl
theorem cellsO20 : Tryd.prog.cellsOf 27 = 3 := by kernel_rfl
theorem cellsE20 : Tryd.prog.cellsOf 29 = 5 := by kernel_rfl
end Go.Proofs.YteeofcoehffegaaDoor
namespace Go.Proofs.YteeofcoehffegaaDoor
open Go.ChangeShapes Go.WideShapes Go.ChangeAt Go.RowKit Go.Maps
open Classical
theorem weights_in20 {H : Type} {P : Program} {e : TypeId} : ∀ {ds : List (DataW H)} {d : DataW H}, d ∈ ds → ∀ m, m ∈ d.weights P e → m ∈ DataW.weightsAll P e ds
  | x :: r, d, hd, m, hm => by
    simp only [DataW.weightsAll, List.mem_append]
    rcases List.mem_cons.1 hd with rfl | hd
    · exact .inl hm
    · exact .inr (weights_in20 hd m hm)
  | [], _, hd, _, _ => by cases hd
theorem rows_w20 {α : Type} [Inhabited α] {Y : Lay α} (K : Y.Ok) (F : α → Prop) (hT : Tryd.prog.cellsOf Y.T = Y.k) (hby : Tryd.prog.bytesOf Y.T = Y.by_) {H : Type} {enc : TypeId × Value → H} {W : World} {v : Value} {d : DataW H} {p : List MemPlace} {fuel : Nat}
    (hop : ∀ {m : Nat} {cs : List Value} {D : DataW H} {q : List MemPlace}, DataW.trod enc Tryd.prog W 0 (fun _ => true) true m Y.T cs = some (D, q) → (∀ k, k ∈ D.weights Tryd.prog Y.T → k ≤ reachBytes) → ∃ e : α, F e ∧ cs = Y.cs e)
    (h : DataW.trod enc Tryd.prog W 0 (fun _ => true) true fuel Y.ST [v] = some (d, p)) (hw : ∀ m, m ∈ d.weights Tryd.prog Y.ST → m ≤ reachBytes) :
    ∃ a len cap, v = .slice a len cap ∧ ∃ P : List α, SlY Y W a len cap P ∧ (∀ e ∈ P, F e) ∧ len * Y.by_ ≤ 140737488351232 := by
  rcases Go.Deep.open_slice K.und h with ⟨hcs, hx⟩ | ⟨y, n, c, m, k, D, Pl, hcs, hb, hl, hm, hmm, hx, hall⟩
  · have e := (List.cons_eq_cons.1 hcs).1
    exact ⟨none, 0, 0, e, [], ⟨rfl, Nat.le_refl _, by unfold maxLen; omega, fun _ => ⟨rfl, rfl⟩, fun x hx => .inl rfl⟩, by simp, by omega⟩
  · have e := (List.cons_eq_cons.1 hcs).1
    refine ⟨some y, n, c, e, ?_⟩
    have hlm : n ≤ m := by rw [hmm]; split <;> omega
    have hd := congrArg Prod.fst hx
    dsimp only at hd
    have hsz : n * Y.by_ ≤ 140737488351232 := by
      have := hw _ (by
        rw [hd]
        simp only [DataW.weights, K.und, hby]
        exact List.mem_cons_self)
      simp only [List.length_map, List.length_range, reachBytes] at this
      rw [Nat.add_mul] at this
      omega
    have each : ∀ i, i < n → ∃ q : α, F q ∧ (∀ j, j < Y.k → W.cell? ((y.add (i * Y.k)).add j) = (Y.cs q)[j]?) := by
      intro i hi
      obtain ⟨cs', h1, h2⟩ := hall i (by omega)
      rw [hT] at h1
      obtain ⟨q, hf, rfl⟩ := hop h2 (fun k hk => hw k (by
        rw [hd]
        simp only [DataW.weights, K.und]
        exact List.mem_cons_of_mem _ (List.mem_append_left _ (weights_in20 (List.mem_map_of_mem (List.mem_range.2 hi)) k hk))))
      obtain ⟨_, _, hcell⟩ := World.cells?_some h1
      exact ⟨q, hf, hcell⟩
    obtain ⟨q, hq⟩ := Go.Deep.choose_lt each
    refine ⟨(List.range n).map q, ⟨by simp, hl, hm, (fun e => by cases e), fun x hx => ?_⟩, ?_, hsz⟩
    · cases hx
      by_cases hn0 : n = 0
      · subst hn0
        exact .inl rfl
      · obtain ⟨b, o, s⟩ := y
        have z0 := (hq 0 (by omega)).2 0 K.kp
        have z1 := z0.trans (List.getElem?_eq_getElem (by rw [K.len]; exact K.kp))
        have hs := World.cell?_spot z1
        obtain rfl : s = none := by
          rw [Nat.zero_mul] at hs
          simpa [Addr.add] using hs
        refine .inr ⟨b, o, rfl, ?_, fun i x hx j u hu => ?_⟩
        · rw [Addr.add_lit, Addr.add_lit] at z1
          exact World.block_lt_of_cell? _ _ z1
        · have hi : i < n := by
            have := (List.getElem?_eq_some_iff.1 hx).1
            simpa using this
          have e : q i = x := by
            simp [hi] at hx
            exact hx
          subst e
          have hj : j < Y.k := by have := (List.getElem?_eq_some_iff.1 hu).1; rwa [K.len] at this
          have := (hq i hi).2 j hj
          rw [Addr.add_lit, Addr.add_lit] at this
          exact this.trans hu
    · intro z hz
      obtain ⟨i, hi, rfl⟩ := List.mem_map.1 hz
      exact (hq i (List.mem_range.1 hi)).1
theorem bytesE20 : Tryd.prog.bytesOf 29 = 48 := by kernel_rfl
theorem op_w20 {H : Type} {enc : TypeId × Value → H} {W : World} {n : Nat} {cs : List Value} {x : DataW H × List MemPlace} (h : DataW.trod enc Tryd.prog W 0 (fun _ => true) true n 27 cs = some x) (hw : ∀ k, k ∈ x.1.weights Tryd.prog 27 → k ≤ reachBytes) :
    ∃ p : Opn, p.v.size ≤ 140737488351232 ∧ cs = [.int .i64 p.k, .int .i64 p.s, .string p.v] := by
  obtain ⟨xs, k, hk, hxy, hlen, hxl, hf⟩ := DataW.trod_struct Tryd.underlying27 h
  rw [cellsO20] at hlen
  have hxl : xs.length = 3 := hxl
  match xs, hxl, cs, hlen with
  | [y0, y1, y2], _, [v0, v1, v2], _ =>
    have hd : x.1 = .agg ([y0, y1, y2].map Prod.fst) := congrArg Prod.fst hxy
    have g0 := hf 0 _ rfl
    have g1 := hf 1 _ rfl
    have g2 := hf 2 _ rfl
    simp [cellsI20, cellsS20] at g0 g1 g2
    obtain ⟨K, hK, hx0, hw0⟩ := DataW.trod_int Tryd.underlying3 g0
    obtain ⟨N, hN, hx2, hw2⟩ := DataW.trod_int Tryd.underlying3 g1
    obtain ⟨t, hS, hx4, hw4⟩ := DataW.trod_string Tryd.underlying9 g2
    have hwt : t.data.toList.length ≤ reachBytes := hw _ (by
      rw [hd]
      simp only [DataW.weights, Tryd.underlying27]
      refine DataW.weights_mem_each (j := 2) (t := 9) (d := y2.1) rfl rfl _ ?_
      rw [hx4]
      simp [DataW.weights])
    refine ⟨⟨K, N, t⟩, ?_, ?_⟩
    · show t.data.size ≤ _
      rw [← Array.length_toList]
      exact hwt
    · rw [(List.cons_eq_cons.1 hK).1, (List.cons_eq_cons.1 hN).1, (List.cons_eq_cons.1 hS).1]
theorem enc_w20 {H : Type} {enc : TypeId × Value → H} {W : World} {n : Nat} {cs : List Value} {x : DataW H × List MemPlace} (h : DataW.trod enc Tryd.prog W 0 (fun _ => true) true n 29 cs = some x) (hw : ∀ k, k ∈ x.1.weights Tryd.prog 29 → k ≤ reachBytes) :
    ∃ p : En, p.o.v.size ≤ 140737488351232 ∧ cs = p.cs := by
  obtain ⟨xs, k, hk, hxy, hlen, hxl, hf⟩ := DataW.trod_struct Tryd.underlying29 h
  rw [cellsE20] at hlen
  have hxl : xs.length = 3 := hxl
  match xs, hxl, cs, hlen with
  | [y0, y1, y2], _, [v0, v1, v2, v3, v4], _ =>
    have hd : x.1 = .agg ([y0, y1, y2].map Prod.fst) := congrArg Prod.fst hxy
    have g0 := hf 0 _ rfl
    have g1 := hf 1 _ rfl
    have g2 := hf 2 _ rfl
    simp [cellsI20, cellsO20] at g0 g1 g2
    obtain ⟨K, hK, hx0, hw0⟩ := DataW.trod_int Tryd.underlying3 g0
    obtain ⟨N, hN, hx2, hw2⟩ := DataW.trod_int Tryd.underlying3 g1
    obtain ⟨o, ho, e⟩ := op_w20 g2 (fun k hk => hw k (by
      rw [hd]
      simp only [DataW.weights, Tryd.underlying29]
      exact DataW.weights_mem_each (j := 2) (t := 27) (d := y2.1) rfl rfl _ hk))
    refine ⟨⟨K, N, o⟩, ho, ?_⟩
    have e0 := (List.cons_eq_cons.1 hK).1
    have e1 := (List.cons_eq_cons.1 hN).1
    simp at e
    obtain ⟨e2, e3, e4⟩ := e
    subst e0 e1 e2 e3 e4
    rfl
def CameW (W : World) (a : Option Addr) (n c : Nat) : Prop := ∃ P : List En, SlY yE W a n c P ∧ (∀ x ∈ P, x.o.v.size ≤ 140737488351232) ∧ n ≤ 2932031007317
theorem open_entsW {H : Type} {enc : TypeId × Value → H} {W : World} {base : Nat} {v : Value} {d : DataW H} {p : List MemPlace} (hv : Value.okWide Tryd.prog W .any base 25 v) (h : DataW.Trod enc Tryd.prog W 0 (fun _ => true) true 25 v d p)
    (hw : ∀ m, m ∈ d.weights Tryd.prog 25 → m ≤ reachBytes) : ∃ a n c, v = .slice a n c ∧ CameW W a n c := by
  haveI : Inhabited En := ⟨⟨0, 0, ⟨0, 0, ByteArray.empty⟩⟩⟩
  obtain ⟨a, n, c, rfl⟩ := okWide_slice Tryd.underlying25 hv
  obtain ⟨fuel, h⟩ := h
  simp only [Value.cells] at h
  obtain ⟨a2, n2, c2, e, P, s, f, hb⟩ := rows_w20 kE (fun q : En => q.o.v.size ≤ 140737488351232) cellsE20 bytesE20 (fun {m cs D q} h hw => enc_w20 h hw) h hw
  cases e
  have hb : n * 48 ≤ 140737488351232 := hb
  exact ⟨a, n, c, rfl, P, s, f, by omega⟩
end Go.Proofs.YteeofcoehffegaaDoor
namespace Go.Proofs.YteeofcoehffegaaDoor
open Go.RowKit Go.Maps
open Classical
/-! ### A tree that grows: its block -/
def tcs (v : Value) (E : List Hs) : List Value := v :: fl yH E
theorem tcs_len (v : Value) (E : List Hs) : (tcs v E).length = E.length * 32 + 1 := by
  unfold tcs
  rw [List.length_cons, fl_length kH]
  rfl
structure TB (w : World) (q : Nat) (v : Value) (E : List Hs) : Prop where
  box : BB w q 56 (tcs v E)
  len : E.length = 63
theorem TB.upd {S : Nat → Prop} {w w' : World} {q : Nat} {v : Value} {E : List Hs} (h : TB w q v E) (u : Upd S w w') (hs : ¬ S q) : TB w' q v E := ⟨h.box.upd u hs, h.len⟩
theorem TB.later {w w' : World} {q : Nat} {v : Value} {E : List Hs} (h : TB w q v E) (hb : Below w.heap.size w w') : TB w' q v E := ⟨h.box.later hb, h.len⟩
theorem faT20 (q j o : Nat) (h : (j = 0 ∧ o = 0) ∨ (j = 1 ∧ o = 1)) (w : World) : (Instr.fieldAt 56 (.pointer (some ⟨q, 0, none⟩)) j).run Tryd.prog w = .ok (.pointer (some ⟨q, o, none⟩)) w := by
  rcases h with ⟨rfl, rfl⟩ | ⟨rfl, rfl⟩ <;> go_simp
theorem ixT20 (q h : Nat) (hh : h < 63) (w : World) : (Instr.indexAt 54 (.pointer (some ⟨q, 1, none⟩)) (.int .i64 (h : Int))).run Tryd.prog w = .ok (.pointer (some ⟨q, 1 + h * 32, none⟩)) w := by
  have h1 : (h : Int) < 63 := by omega
  go_simp
theorem TB.ld0 {w : World} {q : Nat} {a : Option Addr} {n c : Nat} {E : List Hs} (h : TB w q (.slice a n c) E) : (Instr.loadAt 44 (.pointer (some ⟨q, 0, none⟩))).run Tryd.prog w = .ok (.slice a n c) w := by
  have hc : w.cell? ⟨q, 0, none⟩ = some (.slice a n c) := by rw [h.box.cell]; rfl
  go_simp
theorem TB.ldE {w : World} {q : Nat} {v : Value} {E : List Hs} (h : TB w q v E) {i : Nat} {x : Hs} (hx : E[i]? = some x) : (Instr.loadAt 38 (.pointer (some ⟨q, 1 + i * 32, none⟩))).run Tryd.prog w = .ok x.val w :=
  run_loadAt_mid (P := Tryd.prog) w q (1 + i * 32) 38 x.cs _ (fun k u hu => by
    rw [h.box.cell, tcs, show 1 + i * 32 + k = (i * 32 + k) + 1 by omega, List.getElem?_cons_succ]
    have hk : k < 32 := by have := (List.getElem?_eq_some_iff.1 hu).1; rw [x.len] at this; exact this
    exact (fl_get kH E i x hx k hk).trans hu) Tryd.underlying38 rfl (by rw [x.len]; exact i32h)
theorem fl_set32 : ∀ (E : List Hs) (i : Nat) (x : Hs), i < E.length → fl yH (E.set i x) = (fl yH E).take (i * 32) ++ x.cs ++ (fl yH E).drop (i * 32 + 32)
  | [], i, x, h => by cases h
  | y :: E, 0, x, h => by
    have hl : y.cs.length = 32 := y.len
    show x.cs ++ fl yH E = (y.cs ++ fl yH E).take (0 * 32) ++ x.cs ++ (y.cs ++ fl yH E).drop (0 * 32 + 32)
    rw [Nat.zero_mul, List.take_zero, Nat.zero_add, List.drop_left' hl]
    rfl
  | y :: E, i + 1, x, h => by
    have hl : y.cs.length = 32 := y.len
    have ih := fl_set32 E i x (by simpa using h)
    show y.cs ++ fl yH (E.set i x) = (y.cs ++ fl yH E).take ((i + 1) * 32) ++ x.cs ++ (y.cs ++ fl yH E).drop ((i + 1) * 32 + 32)
    rw [ih, List.take_append, List.drop_append, hl, show (i + 1) * 32 - 32 = i * 32 by omega, show (i + 1) * 32 + 32 - 32 = i * 32 + 32 by omega, List.take_of_length_le (l := y.cs) (by omega), List.drop_of_length_le (l := y.cs) (by omega)]
    simp
theorem TB.stE {w : World} {q : Nat} {v : Value} {E : List Hs} (h : TB w q v E) (hv : v.oneCell' = true) (i : Nat) (hi : i < 63) (x : Hs) :
    ∃ w', (Instr.storeAt 38 (.pointer (some ⟨q, 1 + i * 32, none⟩)) x.val).run Tryd.prog w = .ok () w' ∧ TB w' q v (E.set i x) ∧ Upd (fun k => k = q) w w' ∧ w'.heap.size = w.heap.size := by
  have hl := tcs_len v E
  have hE := h.len
  have hx : x.cs.length = 32 := x.len
  have h1 : ∀ u ∈ x.cs, u.oneCell' = true := fun u hu => by
    obtain ⟨y, _, rfl⟩ := List.mem_map.1 hu
    rfl
  have hrun := run_storeCells_at (P := Tryd.prog) q (1 + i * 32) 56 x.cs 0 (tcs v E).toArray w h.box (by rw [List.size_toArray]; omega) h1
  rw [Nat.add_zero] at hrun
  have hst : (Instr.storeAt 38 (.pointer (some ⟨q, 1 + i * 32, none⟩)) x.val).run Tryd.prog w = .ok () (w.setRow q ((tcs v E).take (1 + i * 32) ++ x.cs ++ (tcs v E).drop (1 + i * 32 + x.cs.length)).toArray) := by
    have hi2 := i32h
    have hs : x.val.cells.size = 32 := by show x.cs.toArray.size = 32; rw [List.size_toArray, hx]
    cases hq : Tryd.prog.info? 38 with
    | none => rw [hq] at hi2; cases hi2
    | some t =>
      have hs2 : x.val.cells.size = t.size := by simp [hq] at hi2; omega
      simp [Instr.storeAt, Instr.sureAddr, storeVar, sizeOf, typeInfo, hq, hs2]
      have e : x.val.cells.toList = x.cs := rfl
      simpa [e] using hrun
  refine ⟨_, hst, ⟨?_, by rw [List.length_set, hE]⟩, ⟨rfl, rfl, rfl, by simp, fun b hb hs => setRow_other w q b _ hs⟩, by simp⟩
  have e9 : (tcs v E).take (1 + i * 32) ++ x.cs ++ (tcs v E).drop (1 + i * 32 + x.cs.length) = tcs v (E.set i x) := by
    unfold tcs
    rw [fl_set32 E i x (by omega), hx, show 1 + i * 32 = i * 32 + 1 by omega, show i * 32 + 1 + 32 = (i * 32 + 32) + 1 by omega, List.take_succ_cons, List.drop_succ_cons]
    rfl
  unfold BB
  rw [e9]
  exact setRow_heap w q _ _ _ (0, 0) h.box
end Go.Proofs.YteeofcoehffegaaDoor
namespace Go.Proofs
open Go.Shelf Go.RowKit Go.Lib
def Tryd.lays27_ren : Go.Shelf.Ren := ⟨fun | 27 => 32 | 28 => 56 | 29 => 57 | n => n, fun | 25 => 67 | 3 => 3 | 27 => 86 | 22 => 88 | 4 => 4 | 53 => 37 | 0 => 0 | 5 => 5 | 54 => 94 | n => n, fun | 0 => 0 | 1 => 1 | n => n⟩
theorem Tryd.lays27 : Go.Proofs.Lays7.n27 Tryd.prog Tryd.lays27_ren := {
  mixed := by kernel_rfl,
  f27 := Tryd.func32.trans (congrArg some (by kernel_rfl)),
  f28 := Tryd.func56.trans (congrArg some (by kernel_rfl)),
  f29 := Tryd.func57.trans (congrArg some (by kernel_rfl)),
  t0 := Tryd.underlying0,
  a0 := Tryd.isAgg0,
  z0 := Tryd.sizeOf0,
  v0 := Tryd.zeroValue0,
  i0 := by kernel_rfl,
  t3 := Tryd.underlying3,
  a3 := Tryd.isAgg3,
  z3 := Tryd.sizeOf3,
  v3 := Tryd.zeroValue3,
  i3 := by kernel_rfl,
  t4 := Tryd.underlying4,
  a4 := Tryd.isAgg4,
  z4 := Tryd.sizeOf4,
  v4 := Tryd.zeroValue4,
  i4 := by kernel_rfl,
  t5 := Tryd.underlying5,
  a5 := Tryd.isAgg5,
  z5 := Tryd.sizeOf5,
  v5 := Tryd.zeroValue5,
  i5 := by kernel_rfl,
  t22 := Tryd.underlying88,
  a22 := Tryd.isAgg88,
  z22 := Tryd.sizeOf88,
  v22 := Tryd.zeroValue88,
  i22 := by kernel_rfl,
  t25 := Tryd.underlying67,
  a25 := Tryd.isAgg67,
  z25 := Tryd.sizeOf67,
  v25 := Tryd.zeroValue67,
  i25 := by kernel_rfl,
  t27 := Tryd.underlying86,
  a27 := Tryd.isAgg86,
  z27 := Tryd.sizeOf86,
  v27 := Tryd.zeroValue86,
  i27 := by kernel_rfl,
  t53 := Tryd.underlying37,
  a53 := Tryd.isAgg37,
  z53 := Tryd.sizeOf37,
  v53 := Tryd.zeroValue37,
  i53 := by kernel_rfl,
  t54 := Tryd.underlying94,
  a54 := Tryd.isAgg94,
  z54 := Tryd.sizeOf94,
  g0 := by kernel_rfl,
  g1 := by kernel_rfl }
end Go.Proofs
namespace Go.Proofs.YteeofcoehffegaaDoor
open Go.RowKit Go.Maps
open Classical
def Tb (w : World) : Prop := TabAt 1 Lib.deBruijn64tab w
theorem Tb.of_below {w w' : World} (h : Tb w) {B : Nat} (b : Below B w w') (hB : 1 < B) : Tb w' := fun j hj => by
  have := h j hj
  unfold World.cell? at this ⊢
  rw [b.block 1 hB]
  exact this
theorem tz20 (n : Nat) (hn : n < 18446744073709551616) (w : World) (hT : Tb w) : Calls Tryd.prog 32 #[.int .u64 n] w fun e w' => e = .returned (.int .i64 (Lib.ctz 64 n)) ∧ w' = w :=
  Any7.bits_TrailingZeros Tryd.lays27 n hn w (fun _ => hT)
end Go.Proofs.YteeofcoehffegaaDoor
namespace Go.Proofs.YteeofcoehffegaaDoor
open Go.RowKit Go.Maps
open Classical
/-! A region that draws its order, whatever it does: each operation by itself, in whatever frame and world, from what those tell that it waits for; behind all of them what each tells holds. -/
theorem look_mem {L : List (Nat × Value)} {j : Nat} {v : Value} (h : look L j = some v) : j ∈ L.map Prod.fst := by
  induction L with
  | nil => cases h
  | cons x r ih =>
    obtain ⟨k, y⟩ := x
    unfold look at h
    cases hb : Nat.beq k j with
    | true => rw [Nat.eq_of_beq_eq_true hb]; exact List.mem_cons_self ..
    | false => rw [hb] at h; exact List.mem_cons_of_mem _ (ih h)
theorem Rp.ch {T T' : Array Value} {n : Nat} {L : List (Nat × Value)} (h : Rp T n L) (hz : T'.size = n) (hk : ∀ k ∈ L.map Prod.fst, T'[k]? = T[k]?) : Rp T' n L := ⟨hz, fun j v e => (hk j (look_mem e)).trans (h.at_ j v e)⟩
theorem Upd.tr20 {S R : Nat → Prop} {a b c : World} (h : Upd S a b) (k : Upd R b c) (hs : ∀ i, i < a.heap.size → R i → S i) : Upd S a c :=
  ⟨k.os.trans h.os, k.tape.trans h.tape, k.output.trans h.output, Nat.le_trans h.size k.size, fun i hi hn => (k.block i (Nat.lt_of_lt_of_le hi h.size) (fun hr => hn (hs i hi hr))).trans (h.block i hi hn)⟩
theorem Upd.drew20 {S : Nat → Prop} {a w : World} (h : Upd S a w) : Upd S a w.drew := ⟨h.os, h.tape, h.output, h.size, h.block⟩
def Does (o : Oper) (T : Array Value) (df : List Deferred) (w : World) (K : Value → World → Prop) : Prop :=
  (∃ V w', (execOp (⟨T, df⟩ : Act).eval o).run Tryd.prog w = .ok (.value V) w' ∧ K V w') ∨
  (∃ w', (execOp (⟨T, df⟩ : Act).eval o).run Tryd.prog w = .ok .skip w' ∧ K undef w') ∨
  (∃ fid args R, (execOp (⟨T, df⟩ : Act).eval o).run Tryd.prog w = .ok (.enter fid args) w ∧ Calls Tryd.prog fid args w R ∧ ∀ e w', R e w' → ∃ V, e = .returned V ∧ K V w')
def hasDep (o : Oper) (j : Nat) : Bool := o.after.toList.any fun e => Region.binds .any e && e.on == j
def ptr (T : Array Value) (k : Nat) : Nat := match T[k]? with
  | some (.pointer (some a)) => a.block
  | _ => 0
def dstIs (o : Oper) (k : Nat) : Bool := match o.dst with
  | none => false
  | some d => d == k
structure Nx (o : Oper) (n : Nat) (T T' : Array Value) (V : Value) : Prop where
  z : T'.size = n
  k : ∀ k, dstIs o k = false → T'[k]? = T[k]?
  s : ∀ d, o.dst = some d → T'[d]? = some V
def okU (l : List Oper) (u : Nat → Nat → Bool) (i j : Nat) : Bool := (List.range l.length).all fun k => !u j k || (k == i) || match l[k]? with
  | none => false
  | some ok => hasDep ok i
def Stp (l : List Oper) (u : Nat → Nat → Bool) (n : Nat) (B : Array Value → World → Prop) (P C : Nat → Array Value → World → Prop) (E : Nat → Array Value → Nat → Prop) (al : Nat → Bool) (i : Nat) (o : Oper) : Prop :=
  ∀ T df w, T.size = n → B T w → (∀ j, hasDep o j = true → okU l u i j = true → P j T w) → (∀ s os, l[s]? = some os → (s = i ∨ hasDep os i = true) → C s T w) →
    ∃ c, Region.wanted o (yielded l.toArray T) = c ∧ (c = true → Does o T df w fun V w' => Upd (E i T) w w' ∧ (al i = true → ∃ a, V = .pointer (some a) ∧ w.heap.size ≤ a.block ∧ a.block < w'.heap.size) ∧ ∀ T', Nx o n T T' V → P i T' w') ∧ (c = false → al i = false) ∧ (c = false → ∀ T', Nx o n T T' undef → P i T' w)
def StB (n : Nat) (F : Array Value → World → Prop) (sl : List Nat) (E : Array Value → Nat → Prop) (D : Array Value → Prop) : Prop :=
  ∀ T T' w w', F T w → D T → T'.size = n → (∀ k ∈ sl, T'[k]? = T[k]?) → Upd (E T) w w' → F T' w'
def Apt (l : List Oper) (al : Nat → Bool) (i j : Nat) (T : Array Value) : Prop :=
  ∀ oi oj a b d e, l[i]? = some oi → l[j]? = some oj → al a = true → al b = true → a ≠ b → (a = i ∨ hasDep oi a = true) → hasDep oj b = true → (l[a]?.bind (·.dst)) = some d → (l[b]?.bind (·.dst)) = some e → ptr T d ≠ ptr T e
def AllI (f : Nat → Oper → Prop) : Nat → List Oper → Prop
  | _, [] => True
  | k, o :: r => f k o ∧ AllI f (k + 1) r
theorem AllI.get {f : Nat → Oper → Prop} : ∀ {l : List Oper} {k i : Nat} {o : Oper}, AllI f k l → l[i]? = some o → f (k + i) o
  | [], _, _, _, _, h => by simp at h
  | a :: r, k, 0, o, H, h => by simp at h; subst h; exact H.1
  | a :: r, k, i + 1, o, H, h => by
    have := AllI.get (i := i) H.2 (by simpa using h)
    rwa [show k + 1 + i = k + (i + 1) by omega] at this
def chkP (l : List Oper) (n : Nat) (sl slC : Nat → List Nat) (slB : List Nat) (al : Nat → Bool) : Bool :=
  (List.range l.length).all fun j => match l[j]? with
    | none => false
    | some o => (o.after.toList.all fun e => !Region.binds .any e || decide (e.on < j)) && match o.dst with
      | none => !al j
      | some d => decide (d < n) && !slB.contains d && (List.range l.length).all fun i => (i == j) || ((!(sl i).contains d || match l[i]? with
          | none => false
          | some oi => hasDep oi j) && !(slC i).contains d && (!al i || match l[i]? with
          | none => false
          | some oi => !dstIs oi d))
theorem countP_same {f g : Nat → Bool} : ∀ {l : List Nat}, (∀ j ∈ l, g j = f j) → l.countP g = l.countP f
  | [], _ => rfl
  | a :: r, h => by
    rw [List.countP_cons, List.countP_cons, countP_same (fun j hj => h j (List.mem_cons_of_mem _ hj)), h a (List.mem_cons_self ..)]
theorem countP_one {f g : Nat → Bool} {i : Nat} (hf : f i = true) (hg : g i = false) (hs : ∀ j, j ≠ i → g j = f j) : ∀ {l : List Nat}, l.Nodup → i ∈ l → l.countP g + 1 = l.countP f
  | [], _, h => by cases h
  | a :: r, hn, h => by
    rw [List.countP_cons, List.countP_cons]
    have hn2 := List.nodup_cons.1 hn
    by_cases e : a = i
    · subst e
      rw [countP_same (f := f) (g := g) (fun j hj => hs j (by rintro rfl; exact hn2.1 hj)), hf, hg]
      simp
    · have hi : i ∈ r := by
        rcases List.mem_cons.1 h with h | h
        · exact absurd h.symm e
        · exact h
      have := countP_one hf hg hs hn2.2 hi
      rw [hs a e]
      omega
theorem exists_min {p : Nat → Prop} {k : Nat} (h : p k) : ∃ i, p i ∧ ∀ j, j < i → ¬ p j := by
  induction k using Nat.strongRecOn with
  | _ k ih =>
    by_cases e : ∃ j, j < k ∧ p j
    · obtain ⟨j, hj, hp⟩ := e
      exact ih j hj hp
    · exact ⟨k, h, fun j hj hp => e ⟨j, hj, hp⟩⟩
section
variable {l : List Oper} {n : Nat} {B : Array Value → World → Prop} {P C : Nat → Array Value → World → Prop} {E : Nat → Array Value → Nat → Prop} {sl slC : Nat → List Nat} {slB : List Nat} {u : Nat → Nat → Bool} {al : Nat → Bool} {Q : Exit → Act → World → Prop} {df : List Deferred}
theorem hasDep_iff {o : Oper} {j : Nat} : hasDep o j = true ↔ ∃ e ∈ o.after, Region.binds .any e = true ∧ e.on = j := by
  unfold hasDep
  rw [List.any_eq_true]
  constructor
  · rintro ⟨e, he, h⟩
    simp only [Bool.and_eq_true, beq_iff_eq] at h
    exact ⟨e, by simpa using he, h.1, h.2⟩
  · rintro ⟨e, he, h1, h2⟩
    exact ⟨e, by simpa using he, by simp [h1, h2]⟩
theorem chk_lt (h : chkP l n sl slC slB al = true) {j : Nat} {o : Oper} (ho : l[j]? = some o) {i : Nat} (hd : hasDep o i = true) : i < j := by
  have hl : j < l.length := (List.getElem?_eq_some_iff.1 ho).1
  have := List.all_eq_true.1 h j (List.mem_range.2 hl)
  rw [ho] at this
  simp only [Bool.and_eq_true] at this
  obtain ⟨e, he, hb, rfl⟩ := hasDep_iff.1 hd
  have := List.all_eq_true.1 this.1 e (by simpa using he)
  simpa [hb] using this
theorem chk_dst (h : chkP l n sl slC slB al = true) {j : Nat} {o : Oper} (ho : l[j]? = some o) {d : Nat} (hd : o.dst = some d) : d < n ∧ d ∉ slB ∧ ∀ i oi, l[i]? = some oi → i ≠ j → (d ∈ sl i → hasDep oi j = true) ∧ d ∉ slC i ∧ (al i = true → dstIs oi d = false) := by
  have hl : j < l.length := (List.getElem?_eq_some_iff.1 ho).1
  have := List.all_eq_true.1 h j (List.mem_range.2 hl)
  rw [ho] at this
  simp only [Bool.and_eq_true, hd, decide_eq_true_eq, Bool.not_eq_true', List.contains_eq_mem, decide_eq_false_iff_not] at this
  refine ⟨this.2.1.1, this.2.1.2, fun i oi hi hne => ?_⟩
  have h2 := List.all_eq_true.1 this.2.2 i (List.mem_range.2 (List.getElem?_eq_some_iff.1 hi).1)
  rw [hi] at h2
  simp only [Bool.or_eq_true, Bool.and_eq_true, beq_iff_eq, Bool.not_eq_true', decide_eq_false_iff_not] at h2
  rcases h2 with h2 | h2
  · exact absurd h2 hne
  · exact ⟨fun hm => h2.1.1.resolve_left (fun hn => hn hm), h2.1.2, fun ha => h2.2.resolve_left (by rw [ha]; decide)⟩
theorem put_nx {o : Oper} {T : Array Value} {V : Value} (hz : T.size = n) (hd : ∀ d, o.dst = some d → d < n) : ∃ T', (⟨T, df⟩ : Act).put o.dst V = ⟨T', df⟩ ∧ Nx o n T T' V := by
  cases h : o.dst with
  | none => exact ⟨T, rfl, hz, fun _ _ => rfl, fun d hd => by rw [h] at hd; cases hd⟩
  | some d =>
    refine ⟨T.setIfInBounds d V, rfl, by simp [hz], fun k hk => at_set_ne _ ?_, fun d' h' => ?_⟩
    · rintro rfl
      unfold dstIs at hk
      rw [h] at hk
      simp at hk
    · rw [h] at h'
      cases h'
      have := hd d h
      exact at_set _ (by rw [hz]; exact this)
theorem getD_tf {L : Array Bool} {i : Nat} (h : i < L.size) : L.getD i true = L.getD i false := by
  rw [Array.getD_eq_getD_getElem?, Array.getD_eq_getD_getElem?, Array.getElem?_eq_getElem h]
  rfl
structure AlI (l : List Oper) (al : Nat → Bool) (listed : Array Bool) (T : Array Value) (w : World) : Prop where
  lt : ∀ a o d, l[a]? = some o → al a = true → listed.getD a false = true → o.dst = some d → ptr T d < w.heap.size
  ne : ∀ a b oa ob d e, l[a]? = some oa → l[b]? = some ob → al a = true → al b = true → a ≠ b → listed.getD a false = true → listed.getD b false = true → oa.dst = some d → ob.dst = some e → ptr T d ≠ ptr T e
theorem vp_run (hchk : chkP l n sl slC slB al = true) (stB : ∀ j, StB n B slB (E j) (fun _ => True)) (stP : AllI (fun i _ => ∀ j, j ≠ i → u i j = false → StB n (P i) (sl i) (E j) (Apt l al i j)) 0 l) (stC : AllI (fun i _ => ∀ j, j ≠ i → StB n (C i) (slC i) (E j) (fun _ => True)) 0 l)
    (H : AllI (Stp l u n B P C E al) 0 l) (fin : ∀ T w, T.size = n → B T w → (∀ i o, l[i]? = some o → (∀ k, u i k = false) → P i T w) → (∀ a b oa ob d e, l[a]? = some oa → l[b]? = some ob → al a = true → al b = true → a ≠ b → oa.dst = some d → ob.dst = some e → ptr T d ≠ ptr T e) → Q .normal ⟨T, df⟩ w) :
    ∀ (fuel : Nat) (listed : Array Bool) (T : Array Value) (w : World), listed.size = l.length → (List.range l.length).countP (fun i => !listed.getD i false) ≤ fuel → T.size = n → B T w →
      (∀ i o, l[i]? = some o → listed.getD i false = true → ((∀ k, u i k = true → listed.getD k false = false) → P i T w) ∧ ∀ j, hasDep o j = true → listed.getD j false = true) → (∀ s o, l[s]? = some o → listed.getD s false = false → C s T w) → AlI l al listed T w →
      wpAny Tryd.prog .any l.toArray (NoPanic Q) fuel listed ⟨T, df⟩ w := by
  have done : ∀ (listed : Array Bool) (T : Array Value) (w : World), listed.size = l.length → T.size = n → B T w → (∀ i o, l[i]? = some o → listed.getD i false = true → ((∀ k, u i k = true → listed.getD k false = false) → P i T w) ∧ ∀ j, hasDep o j = true → listed.getD j false = true) → AlI l al listed T w → Region.ready .any l.toArray listed = [] → NoPanic Q .normal ⟨T, df⟩ w := by
    intro listed T w hls hz hB hP hA hr
    have hall : ∀ i o, l[i]? = some o → listed.getD i false = true := by
      intro i o ho
      by_cases hl : listed.getD i false = true
      · exact hl
      · exfalso
        obtain ⟨i, ⟨o, ho, hl⟩, hmin⟩ := exists_min (p := fun i => ∃ o, l[i]? = some o ∧ ¬ listed.getD i false = true) ⟨o, ho, hl⟩
        have hlt := (List.getElem?_eq_some_iff.1 ho).1
        have hmem : i ∈ Region.ready .any l.toArray listed := mem_ready.2 ⟨by
          rw [getD_tf (by omega)]
          simpa using hl, o, by simpa using ho, fun e he hb => ?_⟩
        · rw [hr] at hmem; cases hmem
        · have hd : hasDep o e.on = true := hasDep_iff.2 ⟨e, he, hb, rfl⟩
          have h1 := chk_lt hchk ho hd
          have := hmin e.on h1
          by_cases hx : listed.getD e.on false = true
          · exact hx
          · exact absurd ⟨_, List.getElem?_eq_getElem (by omega), hx⟩ this
    exact NoPanic.normal (fin T w hz hB (fun i o ho hu => (hP i o ho (hall i o ho)).1 (fun k hk => by rw [hu k] at hk; cases hk)) (fun a b oa ob d e h1 h2 h3 h4 h5 h6 h7 => hA.ne a b oa ob d e h1 h2 h3 h4 h5 (hall a oa h1) (hall b ob h2) h6 h7))
  intro fuel
  induction fuel with
  | zero =>
    intro listed T w hls hc hz hB hP hC hA
    have hr : Region.ready .any l.toArray listed = [] := by
      refine List.eq_nil_iff_forall_not_mem.2 (fun i hi => ?_)
      obtain ⟨h1, o, ho, h2⟩ := mem_ready.1 hi
      have hlt : i < l.length := by simpa using (Array.getElem?_eq_some_iff.1 ho).1
      have h3 : listed.getD i false = false := by rw [← getD_tf (by omega)]; exact h1
      have := (List.countP_pos_iff (p := fun i => !listed.getD i false)).2 ⟨i, List.mem_range.2 hlt, show (!listed.getD i false) = true by rw [h3]; rfl⟩
      omega
    exact ⟨hr, done listed T w hls hz hB hP hA hr⟩
  | succ fuel ih =>
    intro listed T w hls hc hz hB hP hC hA
    refine ⟨fun hr => done listed T w hls hz hB hP hA hr, fun i hi => ?_⟩
    obtain ⟨h1, o, ho, h2⟩ := mem_ready.1 hi
    have ho' : l[i]? = some o := by simpa using ho
    have hlt : i < l.length := (List.getElem?_eq_some_iff.1 ho').1
    have h3 : listed.getD i false = false := by rw [← getD_tf (by omega)]; exact h1
    have hset : ∀ j, j ≠ i → (listed.setIfInBounds i true).getD j false = listed.getD j false := fun j hj => getD_setb (fun e => hj e.symm) false
    have hseti : (listed.setIfInBounds i true).getD i false = true := by
      rw [Array.getD_eq_getD_getElem?, Array.getElem?_setIfInBounds_self_of_lt (by omega)]
      rfl
    have hcount : (List.range l.length).countP (fun j => !(listed.setIfInBounds i true).getD j false) ≤ fuel := by
      have := countP_one (f := fun j => !listed.getD j false) (g := fun j => !(listed.setIfInBounds i true).getD j false) (i := i) (by simp only [h3]; rfl) (by simp only [hseti]; rfl) (fun j hj => by simp only [hset j hj]) List.nodup_range (List.mem_range.2 hlt)
      omega
    have hS := (H.get ho')
    rw [Nat.zero_add] at hS
    have hdep : ∀ j, hasDep o j = true → listed.getD j false = true := fun j hj => by
      obtain ⟨e, he, hb, rfl⟩ := hasDep_iff.1 hj
      exact h2 e he hb
    have hun : ∀ s os, l[s]? = some os → hasDep os i = true → listed.getD s false = false := fun s os hs hd => by
      by_cases hx : listed.getD s false = true
      · have := (hP s os hs hx).2 i hd
        rw [h3] at this
        cases this
      · simpa using hx
    have hdP : ∀ j, hasDep o j = true → okU l u i j = true → P j T w := fun j hj hok => by
      have hc := chk_lt hchk ho' hj
      refine (hP j (l[j]'(by omega)) (List.getElem?_eq_getElem _) (hdep j hj)).1 (fun k hk => ?_)
      by_cases hkl : k < l.length
      · have h2 := List.all_eq_true.1 hok k (List.mem_range.2 hkl)
        rw [List.getElem?_eq_getElem hkl] at h2
        simp only [hk, Bool.not_true, Bool.false_or, Bool.or_eq_true, beq_iff_eq] at h2
        rcases h2 with rfl | hd
        · exact h3
        · exact hun k _ (List.getElem?_eq_getElem hkl) hd
      · rw [Array.getD_eq_getD_getElem?, Array.getElem?_eq_none (by omega)]
        rfl
    obtain ⟨c, hw, ht, hf0, hf⟩ := hS T df w hz hB hdP (fun s os hs hor => hC s os hs (by
      rcases hor with rfl | hd
      · exact h3
      · exact hun s os hs hd))
    have next : ∀ V w', Upd (E i T) w w' → (al i = true → ∃ a, V = .pointer (some a) ∧ w.heap.size ≤ a.block ∧ a.block < w'.heap.size) → (∀ T', Nx o n T T' V → P i T' w') → wpAny Tryd.prog .any l.toArray (NoPanic Q) fuel (listed.setIfInBounds i true) ((⟨T, df⟩ : Act).put o.dst V) w' := by
      intro V w' hu hal hPi
      obtain ⟨T', hT, hN⟩ := put_nx (df := df) (V := V) hz (fun d hd => (chk_dst hchk ho' hd).1)
      rw [hT]
      have keep : ∀ k, (∀ d, o.dst = some d → d ≠ k) → T'[k]? = T[k]? := fun k hk => hN.k k (by
        unfold dstIs
        cases hd : o.dst with
        | none => rfl
        | some d => simpa using hk d hd)
      have keepA : ∀ a oa d, l[a]? = some oa → al a = true → a ≠ i → oa.dst = some d → ptr T' d = ptr T d := fun a oa d ha hal2 hne hd => by
        unfold ptr
        rw [keep d (fun d2 hd2 e => by
          have := ((chk_dst hchk ho' hd2).2.2 a oa ha hne).2.2 hal2
          unfold dstIs at this
          rw [hd, e] at this
          simp at this)]
      have newA : ∀ d, al i = true → o.dst = some d → w.heap.size ≤ ptr T' d ∧ ptr T' d < w'.heap.size := fun d h1 h2 => by
        obtain ⟨a, rfl, ha, hb⟩ := hal h1
        unfold ptr
        rw [hN.s d h2]
        exact ⟨ha, hb⟩
      refine ih (listed.setIfInBounds i true) T' w' (by simp [hls]) hcount hN.z (stB i T T' w w' hB trivial hN.z (fun k hk => keep k (fun d hd e => (chk_dst hchk ho' hd).2.1 (e ▸ hk))) hu) (fun j oj hj hl => ?_) (fun s os hs hl => ?_) ⟨fun a oa d ha hal2 hl hd => ?_, fun a b oa ob d e ha hb ha2 hb2 hne hla hlb hd he => ?_⟩
      · by_cases e : j = i
        · subst e
          rw [ho'] at hj
          cases hj
          refine ⟨fun _ => hPi T' hN, fun k hk => ?_⟩
          have := chk_lt hchk ho' hk
          rw [hset k (by omega)]
          exact hdep k hk
        · rw [hset j e] at hl
          have hj2 := hP j oj hj hl
          refine ⟨fun hun2 => ?_, fun k hk => ?_⟩
          · have hst := stP.get hj
            rw [Nat.zero_add] at hst
            have huj : u j i = false := by
              cases hx : u j i with
              | false => rfl
              | true => have := hun2 i hx; rw [hseti] at this; cases this
            refine hst i (fun h => e h.symm) huj T T' w w' (hj2.1 (fun k hk => ?_)) (fun oi2 oj2 a b d f h1 h2 ha hb hab hda hdb hd hf => ?_) hN.z (fun k hk => keep k (fun d hd e2 => ?_)) hu
            · have := hun2 k hk
              by_cases e4 : k = i
              · subst e4; exact h3
              · rwa [hset k e4] at this
            · rw [hj] at h1
              cases h1
              rw [ho'] at h2
              cases h2
              cases hla : l[a]? with
              | none => rw [hla] at hd; cases hd
              | some oa =>
                cases hlb : l[b]? with
                | none => rw [hlb] at hf; cases hf
                | some ob =>
                  rw [hla] at hd
                  rw [hlb] at hf
                  refine hA.ne a b oa ob d f hla hlb ha hb hab ?_ (hdep b hdb) hd hf
                  rcases hda with rfl | hda
                  · exact hl
                  · exact hj2.2 a hda
            · have := ((chk_dst hchk ho' hd).2.2 j oj hj e).1 (e2 ▸ hk)
              have := hj2.2 i this
              rw [h3] at this
              cases this
          · by_cases e3 : k = i
            · subst e3; exact hseti
            · rw [hset k e3]; exact hj2.2 k hk
      · by_cases e : s = i
        · subst e; rw [hseti] at hl; cases hl
        · rw [hset s e] at hl
          have hst := stC.get hs
          rw [Nat.zero_add] at hst
          exact hst i (fun h => e h.symm) T T' w w' (hC s os hs hl) trivial hN.z (fun k hk => keep k (fun d hd e2 => ((chk_dst hchk ho' hd).2.2 s os hs e).2.1 (e2 ▸ hk))) hu
      · by_cases e : a = i
        · subst e
          rw [ho'] at ha
          cases ha
          exact (newA d hal2 hd).2
        · rw [hset a e] at hl
          rw [keepA a oa d ha hal2 e hd]
          exact Nat.lt_of_lt_of_le (hA.lt a oa d ha hal2 hl hd) hu.size
      · by_cases ea : a = i
        · subst ea
          rw [ho'] at ha
          cases ha
          have eb : b ≠ a := fun h => hne h.symm
          rw [hset b eb] at hlb
          rw [keepA b ob e hb hb2 eb he]
          have := hA.lt b ob e hb hb2 hlb he
          have := (newA d ha2 hd).1
          omega
        · rw [hset a ea] at hla
          rw [keepA a oa d ha ha2 ea hd]
          by_cases eb : b = i
          · subst eb
            rw [ho'] at hb
            cases hb
            have := hA.lt a oa d ha ha2 hla hd
            have := (newA e hb2 he).1
            omega
          · rw [hset b eb] at hlb
            rw [keepA b ob e hb hb2 eb he]
            exact hA.ne a b oa ob d e ha hb ha2 hb2 hne hla hlb hd he
    unfold wpOp
    rw [show l.toArray[i]? = some o from ho]
    simp only
    rw [hw]
    cases c with
    | false => exact next undef w (Upd.refl _ _) (fun h => by rw [hf0 rfl] at h; cases h) (fun T' hN => hf rfl T' hN)
    | true =>
      simp only [if_true]
      refine .inl ?_
      unfold Oper.wp
      rcases ht rfl with ⟨V, w', he, hu, ha, hp⟩ | ⟨w', he, hu, ha, hp⟩ | ⟨fid, args, R, he, hcall, hR⟩
      · rw [he, Oper.upon_value]; exact next V w' hu ha hp
      · rw [he, Oper.upon_skip]; exact next undef w' hu ha hp
      · rw [he, Oper.upon_enter]
        refine hcall.mono ?_
        intro e w' hr
        obtain ⟨V, rfl, hu, ha, hp⟩ := hR e w' hr
        exact next V w' hu ha hp
theorem vp_start {id : Nat} {T : Array Value} {w : World} (n : Nat) (B : Array Value → World → Prop) (P C : Nat → Array Value → World → Prop) (E : Nat → Array Value → Nat → Prop) (sl slC : Nat → List Nat) (slB : List Nat) (u : Nat → Nat → Bool) (al : Nat → Bool) (hm : Tryd.prog.follows .mixedOrders = true) (hchk : chkP l n sl slC slB al = true) (hz : T.size = n) (hB : B T w.drew) (hC : AllI (fun i _ => C i T w.drew) 0 l)
    (stB : ∀ j, StB n B slB (E j) (fun _ => True)) (stP : AllI (fun i _ => ∀ j, j ≠ i → u i j = false → StB n (P i) (sl i) (E j) (Apt l al i j)) 0 l) (stC : AllI (fun i _ => ∀ j, j ≠ i → StB n (C i) (slC i) (E j) (fun _ => True)) 0 l)
    (H : AllI (Stp l u n B P C E al) 0 l) (fin : ∀ T w, T.size = n → B T w → (∀ i o, l[i]? = some o → (∀ k, u i k = false) → P i T w) → (∀ a b oa ob d e, l[a]? = some oa → l[b]? = some ob → al a = true → al b = true → a ≠ b → oa.dst = some d → ob.dst = some e → ptr T d ≠ ptr T e) → Q .normal ⟨T, df⟩ w) : (Code.region id l.toArray true).wp Tryd.prog Q ⟨T, df⟩ w := by
  refine wp_region_noPanic (wp_region_any hm ?_)
  have hno : ∀ i, ¬ (Array.replicate l.length false).getD i false = true := fun i hl => by
    rw [Array.getD_eq_getD_getElem?, Array.getElem?_replicate] at hl
    split at hl <;> simp at hl
  have := vp_run (df := df) hchk stB stP stC H fin l.length (Array.replicate l.length false) T w.drew (by simp) (by have := List.countP_le_length (p := fun i => !(Array.replicate l.length false).getD i false) (l := List.range l.length); rw [List.length_range] at this; exact this) hz hB (fun i o ho hl => absurd hl (hno i)) (fun s o hs _ => by have := hC.get hs; rwa [Nat.zero_add] at this) ⟨fun a o d _ _ hl => absurd hl (hno a), fun a b _ _ _ _ _ _ _ _ _ hl => absurd hl (hno a)⟩
  simpa using this
end
end Go.Proofs.YteeofcoehffegaaDoor
namespace Go.Proofs.YteeofcoehffegaaDoor
open Go.RowKit Go.Maps
open Classical
theorem eqPT20 (x y : Operand) (q : Nat) (w : World) : (do eqGuard .eql 23 x y (.pointer (some ⟨q, 0, none⟩)) (.pointer none); binOp .eql 23 (.pointer (some ⟨q, 0, none⟩)) (.pointer none) : Sem Value).run Tryd.prog w = .ok (.bool false) w := by go_simp
theorem geD20 (x y : Operand) (a b : Int) (w : World) : (do eqGuard .geq 3 x y (.int .i64 a) (.int .i64 b); binOp .geq 3 (.int .i64 a) (.int .i64 b) : Sem Value).run Tryd.prog w = .ok (.bool (decide (b ≤ a))) w := by go_simp
theorem leD20 (x y : Operand) (a b : Int) (w : World) : (do eqGuard .leq 3 x y (.int .i64 a) (.int .i64 b); binOp .leq 3 (.int .i64 a) (.int .i64 b) : Sem Value).run Tryd.prog w = .ok (.bool (decide (a ≤ b))) w := by go_simp
theorem slToHA20 (a : Option Addr) (n c k : Nat) (h1 : k ≤ n) (h2 : n ≤ c) (h3 : a = none → c = 0) (w : World) : (Instr.sliceAt 44 (.slice a n c) none (some (.int .i64 (k : Int))) none).run Tryd.prog w = .ok (.slice a k c) w := by
  have e1 : (0 : Int) ≤ (k : Int) := by omega
  have e2 : (k : Int) ≤ (c : Int) := by omega
  cases a with
  | none =>
    have hc := h3 rfl
    subst hc
    obtain rfl : k = 0 := by omega
    go_simp
  | some x => go_simp
theorem bdz20 (w : World) : (Instr.build 38 #[]).run Tryd.prog w = .ok zH.val w := by kernel_rfl
set_option maxHeartbeats 2000000 in
theorem size20 (q : Nat) (a : Option Addr) (n c : Nat) (E : List Hs) (w : World) (h : TB w q (.slice a n c) E) :
    Calls Tryd.prog 12 #[.pointer (some ⟨q, 0, none⟩)] w fun e w' => e = .returned (.int .i64 ((n : Nat) : Int)) ∧ w' = w := by
  go_enter Tryd.func12, Tryd.ntmps12
  go_upto_region 0 with fail
  refine wp_region_lit ?_
  refine vl_gen (fun T => Rp T 10 [(0, gw true (.pointer (some ⟨q, 0, none⟩)))]) ((Rp.nil rfl).cons rfl) (fun Z0 q0 => ?_)
  refine q0.t (.int .i64 (0 : Int)) (ex_assign rfl rfl) fun _ q1 => ?_;clear q0
  refine wpList_nil ?_
  go_upto_region 1 with fail
  refine wp_region_lit ?_
  refine q1.t (.pointer (some ⟨q, 0, none⟩)) (ex_move rfl (q1.e (j := 0) rfl)) fun _ q2 => ?_;clear q1
  refine q2.t (.bool false) (ex_bin (Y := .pointer none) rfl (q2.e (j := 3) rfl) rfl (eqPT20 _ _ q _)) fun _ q3 => ?_;clear q2
  refine wpList_nil ?_
  go_upto_region 3 with fail
  refine wp_cond_false (q3.e (j := 4) rfl) ?_
  go_upto_region 3 with fail
  refine wp_region_lit ?_
  refine q3.t (.pointer (some ⟨q, 0, none⟩)) (ex_move rfl (q3.e (j := 0) rfl)) fun _ q4 => ?_;clear q3
  refine q4.t (.pointer (some ⟨q, 0, none⟩)) (ex_nil rfl (q4.e (j := 5) rfl)) fun _ q5 => ?_;clear q4
  refine q5.t (.pointer (some ⟨q, 0, none⟩)) (ex_fa rfl (q5.e (j := 6) rfl) (faT20 q 0 0 (.inl ⟨rfl, rfl⟩) _)) fun _ q6 => ?_;clear q5
  refine q6.t (.slice a n c) (ex_ld rfl (q6.e (j := 7) rfl) h.ld0) fun _ q7 => ?_;clear q6
  refine q7.t (.int .i64 ((n : Nat) : Int)) (ex_lenG rfl rfl Tryd.underlying44 (q7.e (j := 8) rfl)) fun _ q8 => ?_;clear q7
  refine q8.t (.int .i64 ((n : Nat) : Int)) (ex_assign rfl (q8.e (j := 9) rfl)) fun _ q9 => ?_;clear q8
  refine wpList_nil ?_
  go_wp2
  refine bodyPost_ret (results_tmp rfl _ _ _) rfl ?_
  rw [getD_of (q9.a 2 rfl)]
  exact ⟨rfl, rfl⟩
set_option maxHeartbeats 2000000 in
theorem first20 (q : Nat) (a : Option Addr) (n c k : Nat) (E : List Hs) (w : World) (h : TB w q (.slice a n c) E) (hk : k ≤ n) (hc : n ≤ c) (hz : a = none → c = 0) :
    Calls Tryd.prog 38 #[.pointer (some ⟨q, 0, none⟩), .int .i64 ((k : Nat) : Int)] w fun e w' => e = .returned (.slice a k c) ∧ w' = w := by
  go_enter Tryd.func38, Tryd.ntmps38
  go_upto_region 0 with fail
  refine wp_region_lit ?_
  refine vl_gen (fun T => Rp T 13 [(1, gw true (.int .i64 ((k : Nat) : Int))), (0, gw true (.pointer (some ⟨q, 0, none⟩)))]) (((Rp.nil rfl).cons rfl).cons rfl) (fun Z0 q0 => ?_)
  refine q0.t (.slice none 0 0) (ex_assign rfl rfl) fun _ q1 => ?_;clear q0
  refine wpList_nil ?_
  go_upto_region 1 with fail
  refine wp_region_lit ?_
  refine q1.t (.pointer (some ⟨q, 0, none⟩)) (ex_move rfl (q1.e (j := 0) rfl)) fun _ q2 => ?_;clear q1
  refine q2.t (.bool false) (ex_bin (Y := .pointer none) rfl (q2.e (j := 5) rfl) rfl (eqPT20 _ _ q _)) fun _ q3 => ?_;clear q2
  refine wpList_nil ?_
  go_upto_region 3 with fail
  refine wp_cond_false (q3.e (j := 6) rfl) ?_
  go_upto_region 3 with fail
  refine wp_region_lit ?_
  refine q3.t (.pointer (some ⟨q, 0, none⟩)) (ex_move rfl (q3.e (j := 0) rfl)) fun _ q4 => ?_;clear q3
  refine q4.t (.pointer (some ⟨q, 0, none⟩)) (ex_nil rfl (q4.e (j := 7) rfl)) fun _ q5 => ?_;clear q4
  refine q5.t (.pointer (some ⟨q, 0, none⟩)) (ex_fa rfl (q5.e (j := 8) rfl) (faT20 q 0 0 (.inl ⟨rfl, rfl⟩) _)) fun _ q6 => ?_;clear q5
  refine q6.t (.slice a n c) (ex_ld rfl (q6.e (j := 9) rfl) h.ld0) fun _ q7 => ?_;clear q6
  refine q7.t (.int .i64 ((k : Nat) : Int)) (ex_move rfl (q7.e (j := 1) rfl)) fun _ q8 => ?_;clear q7
  refine q8.t (.slice a k c) (ex_sl19 rfl (q8.e (j := 10) rfl) rfl (congrArg some (q8.e (j := 11) rfl)) rfl (slToHA20 a n c k hk hc hz _)) fun _ q9 => ?_;clear q8
  refine q9.t (.slice a k c) (ex_assign rfl (q9.e (j := 12) rfl)) fun _ q10 => ?_;clear q9
  refine wpList_nil ?_
  go_wp2
  refine bodyPost_ret (results_tmp rfl _ _ _) rfl ?_
  rw [getD_of (q10.a 4 rfl)]
  exact ⟨rfl, rfl⟩
set_option maxHeartbeats 2000000 in
theorem has20 (V : Value) (n : Nat) (k : Int) (w : World) (hS : Calls Tryd.prog 12 #[V] w fun e w' => e = .returned (.int .i64 ((n : Nat) : Int)) ∧ w' = w) :
    Calls Tryd.prog 37 #[V, .int .i64 k] w fun e w' => e = .returned (.bool (decide (0 ≤ k ∧ k ≤ ((n : Nat) : Int)))) ∧ w' = w := by
  go_enter Tryd.func37, Tryd.ntmps37
  go_upto_region 0 with fail
  refine wp_region_lit ?_
  refine vl_gen (fun T => Rp T 13 [(1, gw true (.int .i64 k)), (0, gw true (V))]) (((Rp.nil rfl).cons rfl).cons rfl) (fun Z0 q0 => ?_)
  refine q0.t (.bool false) (ex_assign rfl rfl) fun _ q1 => ?_;clear q0
  refine wpList_nil ?_
  go_upto_region 1 with fail
  refine wp_region_lit ?_
  refine q1.t (.int .i64 (k : Int)) (ex_move rfl (q1.e (j := 1) rfl)) fun _ q2 => ?_;clear q1
  refine q2.t (.bool (decide (0 ≤ k))) (ex_bin (Y := .int .i64 0) rfl (q2.e (j := 5) rfl) rfl (geD20 _ _ _ _ _)) fun _ q3 => ?_;clear q2
  by_cases h0 : 0 ≤ k
  · rw [decide_eq_true h0] at q3
    refine q3.t (.bool true) (ex_move rfl (q3.e (j := 6) rfl)) fun _ q4 => ?_;clear q3
    refine vl _ (.int .i64 (k : Int)) (want_g rfl rfl (q4.a 7 rfl)) (fun hc => ex_move rfl (q4.e (j := 1) rfl)) rfl q4.z (by decide) (q4.k fun _ q5 => ?_);clear q4
    refine vl _ (V) (want_g rfl rfl (q5.a 7 rfl)) (fun hc => ex_move rfl (q5.e (j := 0) rfl)) rfl q5.z (by decide) (q5.k fun _ q6 => ?_);clear q5
    refine vcallP (show Region.wanted _ _ = (true && (true == true)) from want_g rfl rfl (q6.a 7 rfl)) (ex_call rfl (by simp only [List.map_toArray, List.map_cons, List.map_nil, (q6.e (j := 9) rfl), evc] <;> rfl) rfl) (hS) rfl q6.z (by decide) ?_
    rintro e w9 ⟨rfl, hw9⟩
    refine ⟨_, rfl, q6.k fun _ q7 => ?_⟩;clear q6
    have hw9 := hw9.symm
    subst hw9
    refine vl _ (.bool (decide (k ≤ ((n : Nat) : Int)))) (want_g rfl rfl (q7.a 7 rfl)) (fun hc => ex_bin rfl (ev (q7.a 8 rfl) hc) (q7.e (j := 10) rfl) (leD20 _ _ _ _ _)) rfl q7.z (by decide) (q7.k fun _ q8 => ?_);clear q7
    refine q8.t (.bool (true && (decide (k ≤ ((n : Nat) : Int))))) (ex_and (z := decide (k ≤ ((n : Nat) : Int))) rfl (q8.a 7 rfl) (q8.a 11 rfl) rfl) fun _ q9 => ?_;clear q8
    refine q9.t (.bool (true && (decide (k ≤ ((n : Nat) : Int))))) (ex_assign rfl (q9.e (j := 12) rfl)) fun _ q10 => ?_;clear q9
    refine wpList_nil ?_
    go_wp2
    refine bodyPost_ret (results_tmp rfl _ _ _) rfl ?_
    rw [getD_of (q10.a 4 rfl)]
    exact ⟨by simp [h0, gw], rfl⟩
  · rw [decide_eq_false h0] at q3
    refine q3.t (.bool false) (ex_move rfl (q3.e (j := 6) rfl)) fun _ q4 => ?_;clear q3
    refine vl _ (.int .i64 (k : Int)) (want_g rfl rfl (q4.a 7 rfl)) (fun hc => absurd hc (by decide)) rfl q4.z (by decide) (q4.k fun _ q5 => ?_);clear q4
    refine vl _ (V) (want_g rfl rfl (q5.a 7 rfl)) (fun hc => absurd hc (by decide)) rfl q5.z (by decide) (q5.k fun _ q6 => ?_);clear q5
    refine vl _ (undef) (want_g rfl rfl (q6.a 7 rfl)) (fun hc => absurd hc (by decide)) rfl q6.z (by decide) (q6.k fun _ q7 => ?_);clear q6
    refine vl _ (.bool (false)) (want_g rfl rfl (q7.a 7 rfl)) (fun hc => absurd hc (by decide)) rfl q7.z (by decide) (q7.k fun _ q8 => ?_);clear q7
    refine q8.t (.bool (false && (false))) (ex_and (z := false) rfl (q8.a 7 rfl) (q8.a 11 rfl) rfl) fun _ q9 => ?_;clear q8
    refine q9.t (.bool (false && (false))) (ex_assign rfl (q9.e (j := 12) rfl)) fun _ q10 => ?_;clear q9
    refine wpList_nil ?_
    go_wp2
    refine bodyPost_ret (results_tmp rfl _ _ _) rfl ?_
    rw [getD_of (q10.a 4 rfl)]
    exact ⟨by simp [gw]; intro h9; omega, rfl⟩
def Rc (V : Value) (w : World) (L : List Hs) : Prop := ∃ a c, ∀ w1, Below w.heap.size w w1 → Calls Tryd.prog 12 #[V] w1 (fun e w' => e = .returned (.int .i64 ((L.length : Nat) : Int)) ∧ w' = w1) ∧ ∀ k : Nat, k ≤ L.length → Calls Tryd.prog 38 #[V, .int .i64 ((k : Nat) : Int)] w1 (fun e w' => e = .returned (.slice a k c) ∧ w' = w1) ∧ SlY yH w1 a k c (L.take k)
def TR (w : World) (B q : Nat) (L E : List Hs) : Prop := ∃ a c, TB w q (.slice a L.length c) E ∧ OwnY yH B w (.slice a L.length c) L ∧ q < B ∧ B ≤ w.heap.size
theorem TR.rc {w : World} {B q : Nat} {L E : List Hs} (h : TR w B q L E) : Rc (.pointer (some ⟨q, 0, none⟩)) w L := by
  obtain ⟨a, c, h1, h2, h3, h4⟩ := h
  have s := h2.sl' kH
  exact ⟨a, c, fun w1 hb => ⟨size20 q a _ c E w1 (h1.later hb), fun k hk => ⟨first20 q a _ c k E w1 (h1.later hb) hk s.cap (fun e => (s.nil e).2), (s.later hb).take k hk⟩⟩⟩
theorem hasB20 (V : Value) (n : Nat) (k : Int) (b : Bool) (w : World) (hS : Calls Tryd.prog 12 #[V] w fun e w' => e = .returned (.int .i64 ((n : Nat) : Int)) ∧ w' = w) (hb : decide (0 ≤ k ∧ k ≤ ((n : Nat) : Int)) = b) :
    Calls Tryd.prog 37 #[V, .int .i64 k] w fun e w' => e = .returned (.bool b) ∧ w' = w := by
  have := has20 V n k w hS
  rw [hb] at this
  exact this
set_option maxHeartbeats 2000000 in
theorem tincl20 (V : Value) (L : List Hs) (p : Int) (k : Nat) (hb : decide (0 ≤ (k : Int) ∧ (k : Int) ≤ ((L.length : Nat) : Int)) = true) (hk : k ≤ L.length) (w : World) (hr : Rc V w L) (hn : L.length ≤ 4398046511104) :
    Calls Tryd.prog 17 #[V, .int .i64 p, .int .i64 ((k : Nat) : Int)] w fun e w' => ∃ v, e = .returned (.tuple #[v, .int .i64 (inR (L.take k) p).2]) ∧ OwnY yH w.heap.size w' v (inR (L.take k) p).1 ∧ Below w.heap.size w w' := by
  obtain ⟨a, c, hr⟩ := hr
  go_enter Tryd.func17, Tryd.ntmps17
  go_upto_region 0 with fail
  refine wp_region_lit ?_
  refine vl_gen (fun T => Rp T 19 [(2, gw true (.int .i64 ((k : Nat) : Int))), (1, gw true (.int .i64 (p : Int))), (0, gw true (V))]) ((((Rp.nil rfl).cons rfl).cons rfl).cons rfl) (fun Z0 q0 => ?_)
  refine q0.t (.slice none 0 0) (ex_assign rfl rfl) fun _ q1 => ?_;clear q0
  refine q1.t (.int .i64 ((0 : Nat) : Int)) (ex_assign rfl rfl) fun _ q2 => ?_;clear q1
  refine wpList_nil ?_
  go_upto_region 1 with fail
  refine wp_region_lit ?_
  refine q2.t (V) (ex_move rfl (q2.e (j := 0) rfl)) fun _ q3 => ?_;clear q2
  refine q3.t (.int .i64 ((k : Nat) : Int)) (ex_move rfl (q3.e (j := 2) rfl)) fun _ q4 => ?_;clear q3
  have hS9 := (hr w ((Below.refl _ _))).1
  refine vcallP (want_none rfl) (ex_call rfl (by simp only [List.map_toArray, List.map_cons, List.map_nil, (q4.e (j := 8) rfl), (q4.e (j := 9) rfl), evc] <;> rfl) rfl) (hasB20 V L.length k true w hS9 hb) rfl q4.z (by decide) ?_
  rintro e w1 ⟨rfl, hw1⟩
  refine ⟨_, rfl, q4.k fun _ q5 => ?_⟩;clear q4
  have hw1 := hw1.symm
  subst hw1
  refine q5.t (.bool false) (ex_not rfl (q5.e (j := 10) rfl)) fun _ q6 => ?_;clear q5
  refine wpList_nil ?_
  go_upto_region 3 with fail
  refine wp_cond_false (q6.e (j := 11) rfl) ?_
  go_upto_region 3 with fail
  refine wp_region_lit ?_
  refine q6.t (V) (ex_move rfl (q6.e (j := 0) rfl)) fun _ q7 => ?_;clear q6
  refine q7.t (.int .i64 ((k : Nat) : Int)) (ex_move rfl (q7.e (j := 2) rfl)) fun _ q8 => ?_;clear q7
  obtain ⟨cf, f9⟩ := (hr w ((Below.refl _ _))).2 k (by omega)
  refine vcallP (want_none rfl) (ex_call rfl (by simp only [List.map_toArray, List.map_cons, List.map_nil, (q8.e (j := 12) rfl), (q8.e (j := 13) rfl), evc] <;> rfl) rfl) (cf) rfl q8.z (by decide) ?_
  rintro e w2 ⟨rfl, hw2⟩
  refine ⟨_, rfl, q8.k fun _ q9 => ?_⟩;clear q8
  have hw2 := hw2.symm
  subst hw2
  refine q9.t (.int .i64 (p : Int)) (ex_move rfl (q9.e (j := 1) rfl)) fun _ q10 => ?_;clear q9
  refine vcallP (want_none rfl) (ex_call rfl (by simp only [List.map_toArray, List.map_cons, List.map_nil, (q10.e (j := 14) rfl), (q10.e (j := 15) rfl), evc] <;> rfl) rfl) (inclusion20 _ _ _ _ p w f9 (by omega)) rfl q10.z (by decide) ?_
  rintro e w3 ⟨v9, rfl, o9, bw3⟩
  refine ⟨_, rfl, q10.k fun _ q11 => ?_⟩;clear q10
  have zw3 := bw3.size
  have d4 : Below w.heap.size w w3 := bw3
  refine q11.t (v9) (ex_ext18 rfl (q11.e (j := 16) rfl) rfl) fun _ q12 => ?_;clear q11
  refine q12.t (.int .i64 ((inR (L.take k) p).2 : Int)) (ex_ext18 rfl (q12.e (j := 16) rfl) rfl) fun _ q13 => ?_;clear q12
  refine q13.t (v9) (ex_assign rfl (q13.e (j := 17) rfl)) fun _ q14 => ?_;clear q13
  refine q14.t (.int .i64 ((inR (L.take k) p).2 : Int)) (ex_assign rfl (q14.e (j := 18) rfl)) fun _ q15 => ?_;clear q14
  refine wpList_nil ?_
  go_wp2
  exact bodyPost_ret (results2_18 rfl (q15.a 6 rfl) (q15.a 7 rfl)) rfl ⟨_, rfl, o9, d4⟩
set_option maxHeartbeats 2000000 in
theorem tcons20 (V : Value) (L : List Hs) (p : Int) (k : Nat) (hb : decide (0 ≤ (k : Int) ∧ (k : Int) ≤ ((L.length : Nat) : Int)) = true) (hk : k ≤ L.length) (w : World) (hr : Rc V w L) (hn : L.length ≤ 4398046511104) :
    Calls Tryd.prog 18 #[V, .int .i64 p, .int .i64 ((k : Nat) : Int)] w fun e w' => ∃ v, e = .returned (.tuple #[v, .int .i64 (csR (L.take k) p).2]) ∧ OwnY yH w.heap.size w' v (csR (L.take k) p).1 ∧ Below w.heap.size w w' := by
  obtain ⟨a, c, hr⟩ := hr
  go_enter Tryd.func18, Tryd.ntmps18
  go_upto_region 0 with fail
  refine wp_region_lit ?_
  refine vl_gen (fun T => Rp T 19 [(2, gw true (.int .i64 ((k : Nat) : Int))), (1, gw true (.int .i64 (p : Int))), (0, gw true (V))]) ((((Rp.nil rfl).cons rfl).cons rfl).cons rfl) (fun Z0 q0 => ?_)
  refine q0.t (.slice none 0 0) (ex_assign rfl rfl) fun _ q1 => ?_;clear q0
  refine q1.t (.int .i64 ((0 : Nat) : Int)) (ex_assign rfl rfl) fun _ q2 => ?_;clear q1
  refine wpList_nil ?_
  go_upto_region 1 with fail
  refine wp_region_lit ?_
  refine q2.t (V) (ex_move rfl (q2.e (j := 0) rfl)) fun _ q3 => ?_;clear q2
  refine q3.t (.int .i64 ((k : Nat) : Int)) (ex_move rfl (q3.e (j := 2) rfl)) fun _ q4 => ?_;clear q3
  have hS9 := (hr w ((Below.refl _ _))).1
  refine vcallP (want_none rfl) (ex_call rfl (by simp only [List.map_toArray, List.map_cons, List.map_nil, (q4.e (j := 8) rfl), (q4.e (j := 9) rfl), evc] <;> rfl) rfl) (hasB20 V L.length k true w hS9 hb) rfl q4.z (by decide) ?_
  rintro e w1 ⟨rfl, hw1⟩
  refine ⟨_, rfl, q4.k fun _ q5 => ?_⟩;clear q4
  have hw1 := hw1.symm
  subst hw1
  refine q5.t (.bool false) (ex_not rfl (q5.e (j := 10) rfl)) fun _ q6 => ?_;clear q5
  refine wpList_nil ?_
  go_upto_region 3 with fail
  refine wp_cond_false (q6.e (j := 11) rfl) ?_
  go_upto_region 3 with fail
  refine wp_region_lit ?_
  refine q6.t (V) (ex_move rfl (q6.e (j := 0) rfl)) fun _ q7 => ?_;clear q6
  refine q7.t (.int .i64 ((k : Nat) : Int)) (ex_move rfl (q7.e (j := 2) rfl)) fun _ q8 => ?_;clear q7
  obtain ⟨cf, f9⟩ := (hr w ((Below.refl _ _))).2 k (by omega)
  refine vcallP (want_none rfl) (ex_call rfl (by simp only [List.map_toArray, List.map_cons, List.map_nil, (q8.e (j := 12) rfl), (q8.e (j := 13) rfl), evc] <;> rfl) rfl) (cf) rfl q8.z (by decide) ?_
  rintro e w2 ⟨rfl, hw2⟩
  refine ⟨_, rfl, q8.k fun _ q9 => ?_⟩;clear q8
  have hw2 := hw2.symm
  subst hw2
  refine q9.t (.int .i64 (p : Int)) (ex_move rfl (q9.e (j := 1) rfl)) fun _ q10 => ?_;clear q9
  refine vcallP (want_none rfl) (ex_call rfl (by simp only [List.map_toArray, List.map_cons, List.map_nil, (q10.e (j := 14) rfl), (q10.e (j := 15) rfl), evc] <;> rfl) rfl) (consistency20 _ _ _ _ p w f9 (by omega)) rfl q10.z (by decide) ?_
  rintro e w3 ⟨v9, rfl, o9, bw3⟩
  refine ⟨_, rfl, q10.k fun _ q11 => ?_⟩;clear q10
  have zw3 := bw3.size
  have d4 : Below w.heap.size w w3 := bw3
  refine q11.t (v9) (ex_ext18 rfl (q11.e (j := 16) rfl) rfl) fun _ q12 => ?_;clear q11
  refine q12.t (.int .i64 ((csR (L.take k) p).2 : Int)) (ex_ext18 rfl (q12.e (j := 16) rfl) rfl) fun _ q13 => ?_;clear q12
  refine q13.t (v9) (ex_assign rfl (q13.e (j := 17) rfl)) fun _ q14 => ?_;clear q13
  refine q14.t (.int .i64 ((csR (L.take k) p).2 : Int)) (ex_assign rfl (q14.e (j := 18) rfl)) fun _ q15 => ?_;clear q14
  refine wpList_nil ?_
  go_wp2
  exact bodyPost_ret (results2_18 rfl (q15.a 6 rfl) (q15.a 7 rfl)) rfl ⟨_, rfl, o9, d4⟩
theorem and1_20 (m : Nat) (hm : m < 9223372036854775808) : bits .and .i64 (m : Int) 1 = ((m % 2 : Nat) : Int) := by
  have h1 : (BitVec.ofInt 64 (m : Int)).toNat = m := by
    rw [BitVec.ofInt_natCast, BitVec.toNat_ofNat]; exact Nat.mod_eq_of_lt (by omega)
  have h2 : (BitVec.ofInt 64 (1 : Int)).toNat = 1 := by decide
  show IntKind.i64.wrap ((BitVec.ofInt 64 (m : Int) &&& BitVec.ofInt 64 1).toNat : Int) = _
  rw [BitVec.toNat_and, h1, h2, Nat.and_one_is_mod, IntKind.wrap_i64]
  omega
theorem andB20 (x y : Operand) (m : Nat) (hm : m < 9223372036854775808) (w : World) : (do eqGuard .and 3 x y (.int .i64 (m : Int)) (.int .i64 1); binOp .and 3 (.int .i64 (m : Int)) (.int .i64 1) : Sem Value).run Tryd.prog w = .ok (.int .i64 ((m % 2 : Nat) : Int)) w := by
  have h := and1_20 m hm
  go_simp
theorem shr20 (x y : Operand) (n k : Nat) (hk : k ≤ 62) (w : World) : (do eqGuard .shr 3 x y (.int .i64 (n : Int)) (.int .i64 (k : Int)); binOp .shr 3 (.int .i64 (n : Int)) (.int .i64 (k : Int)) : Sem Value).run Tryd.prog w = .ok (.int .i64 ((n / 2 ^ k : Nat) : Int)) w := by
  have h2 := shift_shr .i64 .i64 (n : Int) (k : Int) (by omega) (by show (k : Int) ≤ ((_ : Nat) : Int); simp [IntKind.bits]; omega)
  rw [Sem.run_bind]
  have e : (eqGuard .shr 3 x y (.int .i64 (n : Int)) (.int .i64 (k : Int))).run Tryd.prog w = .ok () w := by go_simp
  rw [e, Result.andThen_ok]
  show (Op.shift .shr .i64 (n : Int) .i64 (k : Int)).run Tryd.prog w = _
  rw [h2]
  have h4 : (n : Int) / 2 ^ (k : Int).toNat = ((n / 2 ^ k : Nat) : Int) := by
    rw [Int.toNat_natCast, Int.natCast_ediv, Int.natCast_pow]
    rfl
  rw [h4]
  rfl
def cry (n : Nat) : Nat → Nat → Hs → List Hs → List Hs
  | 0, _, _, E => E
  | k + 1, h, x, E => if n / 2 ^ h % 2 = 0 then E.set h x else cry n k (h + 1) (nd (E.getD h zH) x) (E.set h zH)
theorem div_lt20 (n h : Nat) (hn : n ≤ 4398046511104) : n / 2 ^ h < 9223372036854775808 := Nat.lt_of_le_of_lt (Nat.div_le_self _ _) (by omega)
set_option maxHeartbeats 2000000 in
theorem carry20 (q : Nat) (a : Option Addr) (n c : Nat) (E : List Hs) (x : Hs) (w : World) (h : TB w q (.slice a n c) E) (hn : n ≤ 4398046511104) :
    Calls Tryd.prog 24 #[.pointer (some ⟨q, 0, none⟩), x.val] w fun e w' => e = .returned (.tuple #[]) ∧ TB w' q (.slice a n c) (cry n 63 0 x E) ∧ Upd (fun k => k = q) w w' := by
  go_enter Tryd.func24, Tryd.ntmps24
  go_upto_region 0 with fail
  refine wp_region_lit ?_
  refine vl_gen (fun T => Rp T 40 [(1, gw true (x.val)), (0, gw true (.pointer (some ⟨q, 0, none⟩)))]) (((Rp.nil rfl).cons rfl).cons rfl) (fun Z0 q0 => ?_)
  obtain ⟨w1, hw1⟩ : ∃ y, y = w.alloc (.cells (x.cs).toArray 38) := ⟨_, rfl⟩
  refine vw (.pointer (some ⟨w.heap.size, 0, none⟩)) w1 (want_none rfl) (ex_box18 rfl (q0.e (j := 1) rfl) (by rw [hw1]; exact bxH20 _ _)) rfl q0.z (by decide) (q0.k fun _ q1 => ?_);clear q0
  have Bw1 : BB w1 w.heap.size 38 (x.cs) := by rw [hw1]; exact BB.new _ _ _
  have bw1 : Below w.heap.size w w1 := by rw [hw1]; exact (Below.refl _ _).alloc (Nat.le_refl _) _
  have zw1 : w1.heap.size = w.heap.size + 1 := by rw [hw1]; exact World.size_alloc _ _
  clear hw1
  refine wpList_nil ?_
  go_upto_region 1 with fail
  refine wp_region_lit ?_
  have T1 := h.later bw1
  have hqw := h.box.lt
  refine q1.t (.pointer (some ⟨q, 0, none⟩)) (ex_move rfl (q1.e (j := 0) rfl)) fun _ q2 => ?_;clear q1
  refine q2.t (.pointer (some ⟨q, 0, none⟩)) (ex_nil rfl (q2.e (j := 6) rfl)) fun _ q3 => ?_;clear q2
  refine q3.t (.pointer (some ⟨q, 0, none⟩)) (ex_fa rfl (q3.e (j := 7) rfl) (faT20 q 0 0 (.inl ⟨rfl, rfl⟩) _)) fun _ q4 => ?_;clear q3
  refine q4.t (.slice a n c) (ex_ld rfl (q4.e (j := 8) rfl) T1.ld0) fun _ q5 => ?_;clear q4
  refine q5.t (.int .i64 ((n : Nat) : Int)) (ex_lenG rfl rfl Tryd.underlying44 (q5.e (j := 9) rfl)) fun _ q6 => ?_;clear q5
  refine q6.t (.int .i64 ((n : Nat) : Int)) (ex_assign rfl (q6.e (j := 10) rfl)) fun _ q7 => ?_;clear q6
  refine wpList_nil ?_
  go_upto_region 2 with fail
  refine wp_region_lit ?_
  refine q7.t (.int .i64 ((0 : Nat) : Int)) (ex_move rfl rfl) fun _ q8 => ?_;clear q7
  have q9 := (((((Rp.nil q8.z).cons (q8.a 0 rfl)).cons (q8.a 3 rfl)).cons (q8.a 4 rfl)).cons (q8.a 11 rfl))
  clear q8
  refine wpList_nil ?_
  go_upto_region 3 with fail
  refine v_loop 11 63 (fun j T wr => ∃ x' E', Rp T 40 [(11, gw true (.int .i64 ((j : Nat) : Int))), (4, gw true (.int .i64 ((n : Nat) : Int))), (3, gw true (.pointer (some ⟨w.heap.size, 0, none⟩))), (0, gw true (.pointer (some ⟨q, 0, none⟩)))] ∧ Hid (TB wr q (.slice a n c) E' ∧ BB wr w.heap.size 38 x'.cs ∧ Upd (fun k => k = q) w wr ∧ cry n (63 - j) j x' E' = cry n 63 0 x E)) (fun j T w h => by obtain ⟨_, _, h, _⟩ := h; exact h.a 11 rfl) ⟨x, E, q9, T1, Bw1, Upd.of_below bw1, rfl⟩ ?_
  clear q9
  intro j T wr hj hh
  obtain ⟨x', E', q100, HJ⟩ := hh
  obtain ⟨TB1, Bx1, U1, hcr⟩ := HJ.out
  clear HJ
  have zr := U1.size
  have hdv := div_lt20 n j hn
  by_cases hit : j < 63
  · obtain ⟨y, hy⟩ : ∃ y, E'[j]? = some y := ⟨_, List.getElem?_eq_getElem (by rw [TB1.len]; exact hit)⟩
    have hyd : E'.getD j zH = y := by rw [List.getD_eq_getElem?_getD, hy]; rfl
    have hfu : 63 - j = (63 - (j + 1)) + 1 := by omega
    rw [hfu, cry, hyd] at hcr
    go_upto_region 3 with fail
    refine wp_region_lit ?_
    refine q100.t (.bool true) (ex_bin (Y := .int .i64 ((63 : Nat) : Int)) rfl (q100.e (j := 11) rfl) rfl (ltT _ _ hit _)) fun _ q101 => ?_;clear q100
    refine wpList_nil ?_
    go_upto_region 4 with fail
    refine wp_cond_true (q101.e (j := 12) rfl) ?_
    go_upto_region 4 with fail
    refine wp_region_lit ?_
    refine q101.t (.int .i64 ((j : Nat) : Int)) (ex_move rfl (q101.e (j := 11) rfl)) fun _ q102 => ?_;clear q101
    refine q102.t (.int .i64 ((j : Nat) : Int)) (ex_assign rfl (q102.e (j := 13) rfl)) fun _ q103 => ?_;clear q102
    refine wpList_nil ?_
    go_upto_region 5 with fail
    refine wp_region_lit ?_
    refine q103.t (.int .i64 ((n : Nat) : Int)) (ex_move rfl (q103.e (j := 4) rfl)) fun _ q104 => ?_;clear q103
    refine q104.t (.int .i64 ((j : Nat) : Int)) (ex_move rfl (q104.e (j := 5) rfl)) fun _ q105 => ?_;clear q104
    refine q105.t (.int .i64 ((n / 2 ^ j : Nat) : Int)) (ex_bin rfl (q105.e (j := 14) rfl) (q105.e (j := 15) rfl) (shr20 _ _ n j (by omega) _)) fun _ q106 => ?_;clear q105
    refine q106.t (.int .i64 ((n / 2 ^ j % 2 : Nat) : Int)) (ex_bin (Y := .int .i64 1) rfl (q106.e (j := 16) rfl) rfl (andB20 _ _ _ hdv _)) fun _ q107 => ?_;clear q106
    by_cases hbit : n / 2 ^ j % 2 = 0
    · rw [if_pos hbit] at hcr
      refine q107.t (.bool true) (ex_bin (Y := .int .i64 ((0 : Nat) : Int)) rfl (q107.e (j := 17) rfl) rfl (eqT20 _ _ (by omega) _)) fun _ q108 => ?_;clear q107
      refine wpList_nil ?_
      go_upto_region 6 with fail
      refine wp_cond_true (q108.e (j := 18) rfl) ?_
      go_upto_region 6 with fail
      refine vg_start (fun k => k == 6) (fun v => v = wr.drew) (by kernel_rfl) ?_
      have hy0 : Below wr.heap.size wr wr.drew := (Below.refl _ _).drew
      have hzy0 : wr.drew.heap.size = wr.heap.size := rfl
      generalize wr.drew = y0 at *
      have T2 := TB1.later hy0
      have B2 := Bx1.later hy0
      obtain ⟨w5, hst, T3, U3, z3⟩ := T2.stE rfl j hit x'
      refine vg_takeW 0 true (.pointer (some ⟨q, 0, none⟩)) rfl (by kernel_rfl) (by kernel_rfl) (by kernel_rfl) (by kernel_rfl) (want_none rfl) (fun hc v => ex_move rfl (q108.e (j := 0) rfl)) rfl q108.z (by decide) (fun _ => rfl) (q108.k fun _ q109 => ?_);clear q108
      refine vg_takeW 1 true (.int .i64 ((j : Nat) : Int)) rfl (by kernel_rfl) (by kernel_rfl) (by kernel_rfl) (by kernel_rfl) (want_none rfl) (fun hc v => ex_move rfl (q109.e (j := 5) rfl)) rfl q109.z (by decide) (fun _ => rfl) (q109.k fun _ q110 => ?_);clear q109
      refine vg_take 2 true (x'.val) rfl (by kernel_rfl) (by kernel_rfl) (by kernel_rfl) (by kernel_rfl) (by kernel_rfl) (by kernel_rfl) (want_none rfl) (fun hc v hv => by subst hv; exact ex_ld rfl (q110.e (j := 3) rfl) B2.ldH) rfl q110.z (by decide) rfl (q110.k fun _ q111 => ?_);clear q110
      refine vg_takeW 3 true (.pointer (some ⟨q, 0, none⟩)) rfl (by kernel_rfl) (by kernel_rfl) (by kernel_rfl) (by kernel_rfl) (want_none rfl) (fun hc v => ex_nil rfl (q111.e (j := 19) rfl)) rfl q111.z (by decide) (fun _ => rfl) (q111.k fun _ q112 => ?_);clear q111
      refine vg_takeW 4 true (.pointer (some ⟨q, 1, none⟩)) rfl (by kernel_rfl) (by kernel_rfl) (by kernel_rfl) (by kernel_rfl) (want_none rfl) (fun hc v => ex_fa rfl (q112.e (j := 22) rfl) (faT20 q 1 1 (.inr ⟨rfl, rfl⟩) _)) rfl q112.z (by decide) (fun _ => rfl) (q112.k fun _ q113 => ?_);clear q112
      refine vg_takeW 5 true (.pointer (some ⟨q, 1 + j * 32, none⟩)) rfl (by kernel_rfl) (by kernel_rfl) (by kernel_rfl) (by kernel_rfl) (want_none rfl) (fun hc v => ex_ix rfl (q113.e (j := 23) rfl) (q113.e (j := 20) rfl) (ixT20 q j hit _)) rfl q113.z (by decide) (fun _ => rfl) (q113.k fun _ q114 => ?_);clear q113
      refine vg_store 6 w5 rfl (by kernel_rfl) (by kernel_rfl) (want_none rfl) (ex_st rfl (q114.e (j := 24) rfl) (q114.e (j := 21) rfl) hst) rfl ?_
      refine vg_done (by kernel_rfl) ?_
      go_wp2
      refine bodyPost_ret (results_none rfl _ _ _) rfl ⟨rfl, by rw [← hcr]; exact T3, (U1.tr20 (Upd.of_below (S := fun _ => False) hy0) (fun k _ hk => hk.elim)).tr20 U3 (fun k _ hk => hk)⟩
    · rw [if_neg hbit] at hcr
      refine q107.t (.bool false) (ex_bin (Y := .int .i64 ((0 : Nat) : Int)) rfl (q107.e (j := 17) rfl) rfl (eqF20 _ _ (by omega) _)) fun _ q108 => ?_;clear q107
      refine wpList_nil ?_
      go_upto_region 7 with fail
      refine wp_cond_false (q108.e (j := 18) rfl) ?_
      go_upto_region 7 with fail
      refine vg_start (fun k => k == 8) (fun v => TB v q (.slice a n c) E' ∧ BB v w.heap.size 38 x'.cs) (by kernel_rfl) ?_
      have hy0 : Below wr.heap.size wr wr.drew := (Below.refl _ _).drew
      have hzy0 : wr.drew.heap.size = wr.heap.size := rfl
      generalize wr.drew = y0 at *
      have T2 := TB1.later hy0
      have B2 := Bx1.later hy0
      refine vg_takeW 0 true (.pointer (some ⟨q, 0, none⟩)) rfl (by kernel_rfl) (by kernel_rfl) (by kernel_rfl) (by kernel_rfl) (want_none rfl) (fun hc v => ex_move rfl (q108.e (j := 0) rfl)) rfl q108.z (by decide) (fun _ => ⟨T2, B2⟩) (q108.k fun _ q109 => ?_);clear q108
      refine vg_takeW 1 true (.int .i64 ((j : Nat) : Int)) rfl (by kernel_rfl) (by kernel_rfl) (by kernel_rfl) (by kernel_rfl) (want_none rfl) (fun hc v => ex_move rfl (q109.e (j := 5) rfl)) rfl q109.z (by decide) (fun _ => ⟨T2, B2⟩) (q109.k fun _ q110 => ?_);clear q109
      refine vg_takeW 2 true (.pointer (some ⟨q, 0, none⟩)) rfl (by kernel_rfl) (by kernel_rfl) (by kernel_rfl) (by kernel_rfl) (want_none rfl) (fun hc v => ex_nil rfl (q110.e (j := 25) rfl)) rfl q110.z (by decide) (fun _ => ⟨T2, B2⟩) (q110.k fun _ q111 => ?_);clear q110
      refine vg_takeW 3 true (.pointer (some ⟨q, 1, none⟩)) rfl (by kernel_rfl) (by kernel_rfl) (by kernel_rfl) (by kernel_rfl) (want_none rfl) (fun hc v => ex_fa rfl (q111.e (j := 27) rfl) (faT20 q 1 1 (.inr ⟨rfl, rfl⟩) _)) rfl q111.z (by decide) (fun _ => ⟨T2, B2⟩) (q111.k fun _ q112 => ?_);clear q111
      refine vg_takeW 4 true (.pointer (some ⟨q, 1 + j * 32, none⟩)) rfl (by kernel_rfl) (by kernel_rfl) (by kernel_rfl) (by kernel_rfl) (want_none rfl) (fun hc v => ex_ix rfl (q112.e (j := 28) rfl) (q112.e (j := 26) rfl) (ixT20 q j hit _)) rfl q112.z (by decide) (fun _ => ⟨T2, B2⟩) (q112.k fun _ q113 => ?_);clear q112
      refine vg_take 5 true (y.val) rfl (by kernel_rfl) (by kernel_rfl) (by kernel_rfl) (by kernel_rfl) (by kernel_rfl) (by kernel_rfl) (want_none rfl) (fun hc v hv => ex_ld rfl (q113.e (j := 29) rfl) (hv.1.ldE hy)) rfl q113.z (by decide) ⟨T2, B2⟩ (q113.k fun _ q114 => ?_);clear q113
      refine vg_take 6 true (x'.val) rfl (by kernel_rfl) (by kernel_rfl) (by kernel_rfl) (by kernel_rfl) (by kernel_rfl) (by kernel_rfl) (want_none rfl) (fun hc v hv => ex_ld rfl (q114.e (j := 3) rfl) hv.2.ldH) rfl q114.z (by decide) ⟨T2, B2⟩ (q114.k fun _ q115 => ?_);clear q114
      refine vg_call 7 rfl (by kernel_rfl) (want_none rfl) (ex_call rfl (by simp only [List.map_toArray, List.map_cons, List.map_nil, (q115.e (j := 30) rfl), (q115.e (j := 31) rfl), evc] <;> rfl) rfl) (node20 y x' _) rfl q115.z (by decide) ?_
      rintro e w4 ⟨rfl, b4⟩
      have z4 := b4.size
      have T3 := T2.later b4
      have B3 := B2.later b4
      refine ⟨_, rfl, ⟨T3, B3⟩, q115.k fun _ q116 => ?_⟩;clear q115
      obtain ⟨w5, hw5⟩ : ∃ z, z = w4.setCells w.heap.size 0 (nd y x').cs := ⟨_, rfl⟩
      refine vg_store 8 w5 rfl (by kernel_rfl) (by kernel_rfl) (want_none rfl) (ex_st rfl (q116.e (j := 3) rfl) (q116.e (j := 32) rfl) (by rw [hw5]; exact B3.stH x'.len _)) rfl ?_
      have B4 : BB w5 w.heap.size 38 (nd y x').cs := by rw [hw5]; exact B3.putH x'.len _
      have U5 : Upd (fun k => k = w.heap.size) w4 w5 := by rw [hw5]; exact upd18 _ _ _ _
      have T4 := T3.upd U5 (show ¬ q = w.heap.size by omega)
      clear hw5
      have z5 := U5.size
      refine vg_done (by kernel_rfl) ?_
      go_upto_region 8 with fail
      refine wp_region_lit ?_
      refine q116.t (.pointer (some ⟨q, 0, none⟩)) (ex_move rfl (q116.e (j := 0) rfl)) fun _ q117 => ?_;clear q116
      refine q117.t (.int .i64 ((j : Nat) : Int)) (ex_move rfl (q117.e (j := 5) rfl)) fun _ q118 => ?_;clear q117
      refine q118.t (zH.val) (ex_build rfl (bdz20 _)) fun _ q119 => ?_;clear q118
      refine q119.t (.pointer (some ⟨q, 0, none⟩)) (ex_nil rfl (q119.e (j := 33) rfl)) fun _ q120 => ?_;clear q119
      refine q120.t (.pointer (some ⟨q, 1, none⟩)) (ex_fa rfl (q120.e (j := 36) rfl) (faT20 q 1 1 (.inr ⟨rfl, rfl⟩) _)) fun _ q121 => ?_;clear q120
      refine q121.t (.pointer (some ⟨q, 1 + j * 32, none⟩)) (ex_ix rfl (q121.e (j := 37) rfl) (q121.e (j := 34) rfl) (ixT20 q j hit _)) fun _ q122 => ?_;clear q121
      obtain ⟨w6, hst, T5, U6, z6⟩ := T4.stE rfl j hit zH
      refine vs w6 (want_none rfl) (ex_st rfl (q122.e (j := 38) rfl) (q122.e (j := 35) rfl) hst) rfl ?_
      refine wpList_nil ?_
      go_upto_region 9 with fail
      refine wp_region_lit ?_
      refine q122.t (.int .i64 ((j + 1 : Nat) : Int)) (ex_bin rfl (q122.e (j := 11) rfl) rfl (add1C _ _ j (by omega) _)) fun _ q123 => ?_;clear q122
      refine q123.t (.int .i64 ((j + 1 : Nat) : Int)) (ex_move rfl (q123.e (j := 39) rfl)) fun _ q124 => ?_;clear q123
      have q125 := (((((Rp.nil q124.z).cons (q124.a 0 rfl)).cons (q124.a 3 rfl)).cons (q124.a 4 rfl)).cons (q124.a 11 rfl))
      clear q124
      refine wpList_nil ?_
      have V1 := U1.tr20 (Upd.of_below (S := fun _ => False) hy0) (fun k _ hk => hk.elim)
      have V2 := V1.tr20 (Upd.of_below (S := fun _ => False) b4) (fun k _ hk => hk.elim)
      have V3 := V2.tr20 U5 (fun k hk e => by omega)
      have V4 := V3.tr20 U6 (fun k _ hk => hk)
      exact ⟨_, rfl, hit, _, _, q125, T5, B4.upd U6 (show ¬ w.heap.size = q by omega), V4, hcr⟩
  · obtain rfl : j = 63 := by omega
    go_upto_region 3 with fail
    refine wp_region_lit ?_
    refine q100.t (.bool false) (ex_bin (Y := .int .i64 ((63 : Nat) : Int)) rfl (q100.e (j := 11) rfl) rfl (ltF _ _ hit _)) fun _ q101 => ?_;clear q100
    refine wpList_nil ?_
    go_wp2
    refine wp_cond_false (q101.e (j := 12) rfl) ?_
    go_wp2
    refine bodyPost_end (results_none rfl _ _ _) rfl ⟨rfl, by rw [← hcr]; exact TB1, U1⟩
end Go.Proofs.YteeofcoehffegaaDoor
