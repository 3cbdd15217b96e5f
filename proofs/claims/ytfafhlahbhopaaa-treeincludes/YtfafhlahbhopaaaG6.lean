import Derived.OpenShut
import Derived.Test.YtfafhlahbhopaaaG5
set_option maxRecDepth 100000
set_option linter.unusedVariables false
set_option linter.unusedSimpArgs false
namespace Go.Proofs.Ytfafhlahbhopaaa
open Go.RowKit Go.Maps
open Classical
def vl9 (c : Int) : Int := if 48 ≤ c ∧ c ≤ 57 then c - 48 else if 97 ≤ c ∧ c ≤ 102 then c - 87 else -1
def hS9 (t : List Int) : Nat → List Int
  | 0 => List.replicate 32 0
  | i + 1 => (hS9 t i).set (i / 2) (((hS9 t i).getD (i / 2) 0 * 16 + vl9 (t.getD i 0)) % 256)
theorem hS9_len (t : List Int) : ∀ i, (hS9 t i).length = 32
  | 0 => by simp [hS9]
  | i + 1 => by rw [hS9, List.length_set, hS9_len t i]
end Go.Proofs.Ytfafhlahbhopaaa
namespace Go.Proofs.Ytfafhlahbhopaaa
open Go.RowKit Go.Maps
open Classical
end Go.Proofs.Ytfafhlahbhopaaa
namespace Go.Proofs.Ytfafhlahbhopaaa
open Go.RowKit Go.Maps Go.WideShapes
open Classical
theorem u8_wf {n : Int} (h : (Lit.int .u8 n).wf = true) : 0 ≤ n ∧ n < 256 := by
  simp [Lit.wf, IntKind.min, IntKind.max, IntKind.signed, IntKind.bits] at h
  omega
theorem open_hash {H : Type} {enc : TypeId × Value → H} {W : World} {base : Nat} {v : Value} {d : DataW H} {p : List MemPlace} (hv : Value.okWide Try.prog W .any base 24 v) (h : DataW.Trod enc Try.prog W 0 (fun _ => true) true 24 v d p) :
    ∃ o : List Int, v = .agg (o.map bV).toArray ∧ Hb o := by
  obtain ⟨fuel, hf⟩ := h
  obtain ⟨xs, m, _, _, hl, hx, he⟩ := DataW.trod_array Try.underlying24 hf
  have c32 : Try.prog.cellsOf 24 = 32 := by kernel_rfl
  have c1 : Try.prog.cellsOf 5 = 1 := by kernel_rfl
  rw [c32] at hl
  have hag : ∃ cs, v = .agg cs := by
    cases v with
    | agg cs => exact ⟨cs, rfl⟩
    | _ => simp [Value.cells] at hl
  obtain ⟨cs, rfl⟩ := hag
  have hcl : cs.toList.length = 32 := hl
  have key : ∀ i, (hi : i < 32) → ∃ n : Int, cs.toList[i]? = some (.int .u8 n) ∧ 0 ≤ n ∧ n < 256 := fun i hi => by
    have h1 := he i hi
    rw [c1, Nat.mul_one] at h1
    obtain ⟨x, hxx⟩ : ∃ x, xs[i]? = some x := ⟨_, List.getElem?_eq_getElem (by omega)⟩
    rw [hxx] at h1
    obtain ⟨K, hK, _, hw⟩ := DataW.trod_int Try.underlying5 h1
    have hb := u8_wf hw
    refine ⟨K, ?_, hb.1, hb.2⟩
    have h2 : (cs.toList.drop i).take 1 = [.int .u8 K] := hK
    have h3 : ((cs.toList.drop i).take 1)[0]? = some (.int .u8 K) := by rw [h2]; rfl
    rw [List.getElem?_take, if_pos (by decide), List.getElem?_drop, Nat.add_zero] at h3
    exact h3
  refine ⟨cs.toList.map intOf, ?_, ⟨by rw [List.length_map, hcl], fun x hx => ?_⟩⟩
  · have : (cs.toList.map intOf).map bV = cs.toList := by
      apply List.ext_getElem?
      intro i
      rw [List.getElem?_map, List.getElem?_map]
      by_cases hi : i < 32
      · obtain ⟨n, hn, _⟩ := key i hi
        rw [hn]
        rfl
      · rw [List.getElem?_eq_none (by omega)]
        rfl
    rw [this]
  · obtain ⟨u, hu, rfl⟩ := List.mem_map.1 hx
    obtain ⟨i, hi, rfl⟩ := List.mem_iff_getElem.1 hu
    obtain ⟨n, hn, h0, h1⟩ := key i (by omega)
    rw [List.getElem?_eq_getElem hi] at hn
    rw [Option.some.inj hn]
    exact ⟨h0, h1⟩
end Go.Proofs.Ytfafhlahbhopaaa
namespace Go.Proofs.Ytfafhlahbhopaaa
open Go.RowKit Go.Maps
open Classical
end Go.Proofs.Ytfafhlahbhopaaa
namespace Go.Proofs.Ytfafhlahbhopaaa
open Go.RowKit Go.Maps
open Classical
end Go.Proofs.Ytfafhlahbhopaaa
namespace Go.Proofs.Ytfafhlahbhopaaa
open Go.RowKit Go.Maps
open Classical
/-! The document's numbers of many halves. -/
def yQ9 : Lay Nat := ⟨118, 136, 1, 8, fun x => [.int .u64 (x : Int)], 0⟩
theorem kQ9 : yQ9.Ok := ⟨by decide, fun x => rfl, fun x u h => by
    simp [yQ9] at h
    rw [h]; rfl, Try.underlying136, ⟨.int .u64 0, by kernel_rfl, rfl⟩⟩
def qV (x : Nat) : Value := .int .u64 (x : Int)
theorem BB.q9 {w : World} {q : Nat} {T : TypeId} {L : List Nat} (h : BB w q T (L.map qV)) {j : Nat} (hj : j < L.length) : w.cell? ⟨q, j, none⟩ = some (.int .u64 ((L.getD j 0 : Nat) : Int)) := by
  rw [h.cell, List.getElem?_map, List.getD_eq_getElem?_getD, List.getElem?_eq_getElem hj]
  rfl
theorem BB.setq {w : World} {q : Nat} {T : TypeId} {L : List Nat} (h : BB w q T (L.map qV)) (j : Nat) (x : Nat) : BB (w.setCell ⟨q, j, none⟩ (.int .u64 (x : Int))) q T ((L.set j x).map qV) := by
  have := h.set1 j (.int .u64 (x : Int))
  rw [show (L.map qV).set j (.int .u64 (x : Int)) = (L.set j x).map qV from by rw [List.map_set]; rfl] at this
  exact this
theorem BB.slq {w : World} {q : Nat} {T : TypeId} {L : List Nat} (h : BB w q T (L.map qV)) (hm : L.length ≤ maxLen) : SlY yQ9 w (some ⟨q, 0, none⟩) L.length L.length L := by
  refine ⟨rfl, Nat.le_refl _, hm, (fun e => by cases e), fun x hx => .inr ⟨q, 0, (Option.some.inj hx).symm, h.lt, fun i x hx j v hv => ?_⟩⟩
  obtain ⟨hi, rfl⟩ := List.getElem?_eq_some_iff.1 hx
  have hj : j = 0 := by
    cases j with
    | zero => rfl
    | succ j => simp [yQ9] at hv
  subst hj
  obtain rfl : Value.int .u64 ((L[i] : Nat) : Int) = v := by simpa [yQ9] using hv
  have := h.q9 hi
  rw [List.getD_eq_getElem?_getD, List.getElem?_eq_getElem hi] at this
  simpa [yQ9] using this
theorem SlY.q9 {w : World} {a : Option Addr} {n c : Nat} {L : List Nat} (h : SlY yQ9 w a n c L) {j : Nat} (hj : j < L.length) : ∃ q o, a = some ⟨q, o, none⟩ ∧ q < w.heap.size ∧ w.cell? ⟨q, o + j, none⟩ = some (.int .u64 ((L.getD j 0 : Nat) : Int)) := by
  obtain ⟨q, o, ea, hq, hl⟩ := h.place (by rintro rfl; simp at hj)
  have hx := List.getElem?_eq_getElem hj
  have := hl j _ hx 0 _ rfl
  refine ⟨q, o, ea, hq, ?_⟩
  rw [List.getD_eq_getElem?_getD, hx]
  simpa [yQ9] using this
theorem mkq (n : Nat) (hn : n ≤ 1000) (w : World) : ∃ w', (Instr.makeSlice 136 (.int .i64 (n : Int)) (.int .i64 (n : Int))).run Try.prog w = .ok (.slice (some ⟨w.heap.size, 0, none⟩) n n) w' ∧ BB w' w.heap.size 118 ((List.replicate n 0).map qV) ∧ Below w.heap.size w w' := by
  obtain ⟨zv, hinfo, hzc⟩ := kQ9.info
  obtain ⟨i0, hi, hz0, hz1, hz2⟩ := info_parts hinfo
  have hr := run_make (P := Try.prog) w yQ9.ST yQ9.T i0 zv kQ9.und hi hz0 .i64 .i64 n n (by omega) (Int.le_refl _) (room_int hz2 (by show n * 8 ≤ _; omega)) (by omega)
  rw [Int.toNat_natCast, hz1] at hr
  refine ⟨_, hr, ?_, (Below.refl _ _).alloc (Nat.le_refl _) _⟩
  have hf : ∀ m : Nat, fl yQ9 (List.replicate m 0) = (List.replicate m 0).map qV := fun m => by
    induction m with
    | zero => rfl
    | succ m ih => rw [List.replicate_succ, fl, ih]; rfl
  have hm := madeY kQ9 hzc n
  have e : madeCells zv.cells (n * yQ9.k) = ((List.replicate n 0).map qV).toArray := by
    have hm2 : (madeCells zv.cells (n * yQ9.k)).toList = (List.replicate n 0).map qV := hm.trans (hf n)
    rw [← hm2]
  rw [e]
  exact World.alloc_heap_new _ _
theorem ixQ (q o n c j : Nat) (hj : j < n) (w : World) : (Instr.indexAt 136 (.slice (some ⟨q, o, none⟩) n c) (.int .i64 (j : Int))).run Try.prog w = .ok (.pointer (some ⟨q, o + j, none⟩)) w := by
  have h1 : (j : Int) < (n : Int) := by omega
  go_simp
theorem ixQ0 (q n c j : Nat) (hj : j < n) (w : World) : (Instr.indexAt 136 (.slice (some ⟨q, 0, none⟩) n c) (.int .i64 (j : Int))).run Try.prog w = .ok (.pointer (some ⟨q, j, none⟩)) w := by
  have := ixQ q 0 n c j hj w
  rwa [Nat.zero_add] at this
theorem ldQ {w : World} {q o : Nat} {x : Int} (h : w.cell? ⟨q, o, none⟩ = some (.int .u64 x)) : (Instr.loadAt 118 (.pointer (some ⟨q, o, none⟩))).run Try.prog w = .ok (.int .u64 x) w := by go_simp
theorem stQ {w : World} {q j : Nat} {u : Value} {b : Int} (h : w.cell? ⟨q, j, none⟩ = some u) (hf : w.frozen? ⟨q, j, none⟩ = false) : (Instr.storeAt 118 (.pointer (some ⟨q, j, none⟩)) (.int .u64 b)).run Try.prog w = .ok () (w.setCell ⟨q, j, none⟩ (.int .u64 b)) := by go_simp
theorem remQ (x y : Operand) (j k : Nat) (hk : 0 < k) (w : World) : (do eqGuard .rem 118 x y (.int .u64 ((j : Nat) : Int)) (.int .u64 ((k : Nat) : Int)); binOp .rem 118 (.int .u64 ((j : Nat) : Int)) (.int .u64 ((k : Nat) : Int)) : Sem Value).run Try.prog w = .ok (.int .u64 ((j % k : Nat) : Int)) w := by
  have h0 : ¬ k = 0 := by omega
  have h1 : (j : Int).tmod (k : Int) = ((j % k : Nat) : Int) := by rw [Int.tmod_eq_emod_of_nonneg (by omega)]; rfl
  go_simp
theorem quoQ (x y : Operand) (j : Nat) (hj : j < 18446744073709551616) (w : World) : (do eqGuard .quo 118 x y (.int .u64 ((j : Nat) : Int)) (.int .u64 ((65536 : Nat) : Int)); binOp .quo 118 (.int .u64 ((j : Nat) : Int)) (.int .u64 ((65536 : Nat) : Int)) : Sem Value).run Try.prog w = .ok (.int .u64 ((j / 65536 : Nat) : Int)) w := by
  have h1 : (j : Int).tdiv 65536 = ((j / 65536 : Nat) : Int) := by rw [Int.tdiv_eq_ediv_of_nonneg (by omega)]; rfl
  have h2 : IntKind.u64.wrap ((j : Int) / 65536) = (j : Int) / 65536 := by rw [IntKind.wrap_u64]; omega
  go_simp
theorem mulQ9 (x y : Operand) (j k : Nat)  (w : World) : (do eqGuard .mul 118 x y (.int .u64 ((j : Nat) : Int)) (.int .u64 ((k : Nat) : Int)); binOp .mul 118 (.int .u64 ((j : Nat) : Int)) (.int .u64 ((k : Nat) : Int)) : Sem Value).run Try.prog w = .ok (.int .u64 ((j * k % 18446744073709551616 : Nat) : Int)) w := by
  have hw : IntKind.u64.wrap ((j : Int) * (k : Int)) = ((j * k % 18446744073709551616 : Nat) : Int) := by rw [IntKind.wrap_u64, ← Int.natCast_mul]; omega
  go_simp
theorem addQ9 (x y : Operand) (j k : Nat)  (w : World) : (do eqGuard .add 118 x y (.int .u64 ((j : Nat) : Int)) (.int .u64 ((k : Nat) : Int)); binOp .add 118 (.int .u64 ((j : Nat) : Int)) (.int .u64 ((k : Nat) : Int)) : Sem Value).run Try.prog w = .ok (.int .u64 (((j + k) % 18446744073709551616 : Nat) : Int)) w := by
  have hw : IntKind.u64.wrap ((j : Int) + (k : Int)) = (((j + k) % 18446744073709551616 : Nat) : Int) := by rw [IntKind.wrap_u64]; omega
  go_simp
theorem neqQ (x y : Operand) (j k : Nat)  (w : World) : (do eqGuard .neq 118 x y (.int .u64 ((j : Nat) : Int)) (.int .u64 ((k : Nat) : Int)); binOp .neq 118 (.int .u64 ((j : Nat) : Int)) (.int .u64 ((k : Nat) : Int)) : Sem Value).run Try.prog w = .ok (.bool (!decide (j = k))) w := by
  go_simp
  by_cases h : j = k
  · simp [h]
  · have h2 : ¬ (j : Int) = (k : Int) := by omega
    simp [h, h2]
theorem eqlQ (x y : Operand) (j k : Nat)  (w : World) : (do eqGuard .eql 118 x y (.int .u64 ((j : Nat) : Int)) (.int .u64 ((k : Nat) : Int)); binOp .eql 118 (.int .u64 ((j : Nat) : Int)) (.int .u64 ((k : Nat) : Int)) : Sem Value).run Try.prog w = .ok (.bool (decide (j = k))) w := by
  go_simp
  by_cases h : j = k
  · simp [h]
  · have h2 : ¬ (j : Int) = (k : Int) := by omega
    simp [h, h2]
theorem lssQ (x y : Operand) (j k : Nat)  (w : World) : (do eqGuard .lss 118 x y (.int .u64 ((j : Nat) : Int)) (.int .u64 ((k : Nat) : Int)); binOp .lss 118 (.int .u64 ((j : Nat) : Int)) (.int .u64 ((k : Nat) : Int)) : Sem Value).run Try.prog w = .ok (.bool (decide (j < k))) w := by
  go_simp
theorem shlQ (x y : Operand) (k : Nat) (hk : k ≤ 64) (w : World) : (do eqGuard .shl 118 x y (.int .u64 1) (.int .u64 ((k : Nat) : Int)); binOp .shl 118 (.int .u64 1) (.int .u64 ((k : Nat) : Int)) : Sem Value).run Try.prog w = .ok (.int .u64 ((2 ^ k % 18446744073709551616 : Nat) : Int)) w := by
  have h2 := shift_shl .u64 .u64 1 (k : Int) (by omega) (by show (k : Int) ≤ ((_ : Nat) : Int); simp [IntKind.bits]; omega)
  rw [Int.toNat_natCast] at h2
  rw [Sem.run_bind]
  have e : (eqGuard .shl 118 x y (.int .u64 1) (.int .u64 (k : Int))).run Try.prog w = .ok () w := by go_simp
  rw [e, Result.andThen_ok]
  show (Op.shift .shl .u64 1 .u64 (k : Int)).run Try.prog w = _
  rw [h2, IntKind.wrap_u64]
  have e2 : (1 : Int) * 2 ^ k % 18446744073709551616 = ((2 ^ k % 18446744073709551616 : Nat) : Int) := by rw [Int.one_mul]; simp
  rw [e2]
  rfl
theorem cvI_U (k : Nat) (hk : k < 18446744073709551616) (w : World) : (Go.convert 3 104 (.int .i64 (k : Int))).run Try.prog w = .ok (.int .u64 (k : Int)) w := by
  have hw : IntKind.u64.wrap (k : Int) = (k : Int) := by rw [IntKind.wrap_u64]; omega
  go_simp
theorem v_loopD {c : Code} {Q : Exit → Act → World → Prop} {T0 : Array Value} {w0 : World} (x N : Nat) (I : Nat → Array Value → World → Prop) (hx : ∀ j T w, I j T w → T[x]? = some (gw true (.int .i64 ((j : Int) - 1)))) (h0 : I N T0 w0)
    (round : ∀ j T w, j ≤ N → I j T w → c.wp Try.prog (Exit.then (fun a' w' => ∃ T' j', a' = ⟨T', []⟩ ∧ j = j' + 1 ∧ I j' T' w') Q) ⟨T, []⟩ w) : (Code.loop c).wp Try.prog Q ⟨T0, []⟩ w0 := by
  have sl : ∀ {j : Nat} {T : Array Value} {w : World}, I j T w → (intOf (T.getD x undef) + 1).toNat = j := fun h => by
    rw [getD_of (hx _ _ _ h)]
    show (intOf (.int .i64 _) + 1).toNat = _
    simp [intOf]
  refine wp_loop (fun a w => ∃ j T, a = ⟨T, []⟩ ∧ j ≤ N ∧ I j T w) (fun a w => (intOf (a.tmps.getD x undef) + 1).toNat) ⟨N, T0, rfl, Nat.le_refl _, h0⟩ ?_
  rintro a w ⟨j, T, rfl, hj, hI⟩
  refine Code.wp_mono (fun e a' w' h => ?_) (round j T w hj hI)
  cases e with
  | normal =>
    obtain ⟨T', j', rfl, rfl, hI'⟩ := h
    refine ⟨⟨j', T', rfl, by omega, hI'⟩, ?_⟩
    show (intOf (T'.getD x undef) + 1).toNat < (intOf (T.getD x undef) + 1).toNat
    rw [sl hI', sl hI]
    omega
  | _ => exact h
theorem sub1D (x y : Operand) (j : Nat) (h : j < 9000000000000000000) (w : World) : (do eqGuard .sub 3 x y (.int .i64 (((j + 1 : Nat) : Int) - 1)) (.int .i64 1); binOp .sub 3 (.int .i64 (((j + 1 : Nat) : Int) - 1)) (.int .i64 1) : Sem Value).run Try.prog w = .ok (.int .i64 ((j : Int) - 1)) w := by
  have hw : IntKind.i64.wrap (((j + 1 : Nat) : Int) - 1 - 1) = (j : Int) - 1 := by rw [IntKind.wrap_i64]; omega
  rw [show (((j + 1 : Nat) : Int) - 1) = (j : Int) by omega] at *
  go_simp
theorem geqD (x y : Operand) (j : Nat) (b : Bool) (h : decide (0 < j) = b) (w : World) : (do eqGuard .geq 3 x y (.int .i64 ((j : Int) - 1)) (.int .i64 0); binOp .geq 3 (.int .i64 ((j : Int) - 1)) (.int .i64 0) : Sem Value).run Try.prog w = .ok (.bool b) w := by
  rw [geqC, ← h]
  congr 2
  by_cases hj : 0 < j
  · rw [decide_eq_true hj, decide_eq_true (by omega)]
  · rw [decide_eq_false hj, decide_eq_false (by omega)]
def lsN (a b : List Nat) : Nat → Bool
  | 0 => false
  | n + 1 => if a.getD n 0 ≠ b.getD n 0 then decide (a.getD n 0 < b.getD n 0) else lsN a b n
def tmS (a : List Nat) (m : Nat) : Nat → List Nat × Nat
  | 0 => (List.replicate a.length 0, 0)
  | j + 1 => let x := (a.getD j 0 * m % 18446744073709551616 + (tmS a m j).2) % 18446744073709551616
    ((tmS a m j).1.set j (x % 65536), x / 65536)
theorem tmS_len (a : List Nat) (m : Nat) : ∀ j, (tmS a m j).1.length = a.length
  | 0 => by simp [tmS]
  | j + 1 => by simp [tmS, tmS_len a m j]
def tmF (a : List Nat) (m : Nat) : List Nat := (tmS a m a.length).1
def hvS (v : Nat) : Nat → List Nat × Nat
  | 0 => (List.replicate 9 0, v)
  | j + 1 => ((hvS v j).1.set j ((hvS v j).2 % 65536), (hvS v j).2 / 65536)
theorem hvS_len (v : Nat) : ∀ j, (hvS v j).1.length = 9
  | 0 => by simp [hvS]
  | j + 1 => by simp [hvS, hvS_len v j]
theorem hvS_le (v : Nat) : ∀ j, (hvS v j).2 ≤ v
  | 0 => Nat.le_refl _
  | j + 1 => Nat.le_trans (Nat.div_le_self _ _) (hvS_le v j)
def hvF (v : Nat) : List Nat := (hvS v 4).1
def wantF (p : Nat) : List Nat := (List.replicate 9 0).set 6 p
def cubeF (t : Nat) : List Nat := tmF (tmF (hvF t) t) t
def rtF (p : Nat) : Nat → Nat → Nat
  | 0, r => r
  | n + 1, r => let t := (r + 2 ^ n % 18446744073709551616) % 18446744073709551616
    rtF p n (if lsN (wantF p) (cubeF t) 9 then r else t)
def rootF (p : Nat) : Nat := rtF p 36 0 % 4294967296
theorem subL (x y : Operand) (n : Nat) (h : n < 9000000000000000000) (w : World) : (do eqGuard .sub 3 x y (.int .i64 ((n : Nat) : Int)) (.int .i64 1); binOp .sub 3 (.int .i64 ((n : Nat) : Int)) (.int .i64 1) : Sem Value).run Try.prog w = .ok (.int .i64 ((n : Int) - 1)) w := by
  have hw : IntKind.i64.wrap ((n : Int) - 1) = (n : Int) - 1 := by rw [IntKind.wrap_i64]; omega
  go_simp
set_option maxHeartbeats 2000000 in
theorem less19 (L M : List Nat) (a a2 : Option Addr) (c c2 : Nat) (w : World) (h : SlY yQ9 w a L.length c L) (h2 : SlY yQ9 w a2 M.length c2 M) (hl : L.length = M.length) (hm : L.length < 9000000000000000000) :
    Calls Try.prog 101 #[.slice a L.length c, .slice a2 M.length c2] w fun e w' => e = .returned (.bool (lsN L M L.length)) ∧ Below w.heap.size w w' := by
  go_enter Try.func101, Try.ntmps101
  go_upto_region 0 with fail
  refine wp_region_lit ?_
  refine vl_gen (fun T => Rp T 31 [(1, gw true (.slice a2 M.length c2)), (0, gw true (.slice a L.length c))]) (((Rp.nil rfl).cons rfl).cons rfl) (fun Z0 q0 => ?_)
  refine q0.t (.bool false) (ex_assign rfl rfl) fun _ q1 => ?_;clear q0
  refine wpList_nil ?_
  go_upto_region 1 with fail
  refine wp_region_lit ?_
  refine q1.t (.slice a L.length c) (ex_move rfl (q1.e (j := 0) rfl)) fun _ q2 => ?_;clear q1
  refine q2.t (.int .i64 ((L.length : Nat) : Int)) (ex_lenG rfl rfl Try.underlying136 (q2.e (j := 6) rfl)) fun _ q3 => ?_;clear q2
  refine q3.t (.int .i64 (((L.length : Nat) : Int) - 1)) (ex_bin rfl (q3.e (j := 7) rfl) rfl (subL _ _ L.length (by omega) _)) fun _ q4 => ?_;clear q3
  refine q4.t (.int .i64 (((L.length : Nat) : Int) - 1)) (ex_assign rfl (q4.e (j := 8) rfl)) fun _ q5 => ?_;clear q4
  have q6 := ((((Rp.nil q5.z).cons (q5.a 0 rfl)).cons (q5.a 1 rfl)).cons (q5.a 5 rfl))
  clear q5
  refine wpList_nil ?_
  go_upto_region 2 with fail
  refine v_loopD 5 L.length (fun j T wr => Rp T 31 [(5, gw true (.int .i64 (((j : Nat) : Int) - 1))), (1, gw true (.slice a2 M.length c2)), (0, gw true (.slice a L.length c))] ∧ Hid (Below w.heap.size w wr ∧ lsN L M L.length = lsN L M j)) (fun j T w h => h.1.a 5 rfl) ⟨q6, Below.refl _ _, rfl⟩ ?_
  clear q6
  intro j T wr hj hh
  obtain ⟨q100, HJ⟩ := hh
  obtain ⟨br, hL⟩ := HJ.out
  clear HJ
  have zr := br.size
  cases j with
  | succ j =>
    obtain ⟨qa, oa, hqa, hqal, hca⟩ := h.q9 (j := j) (by omega)
    obtain ⟨qb, ob, hqb, hqbl, hcb⟩ := h2.q9 (j := j) (by omega)
    have ejj : (((j + 1 : Nat) : Int) - 1) = ((j : Nat) : Int) := by omega
    go_upto_region 2 with fail
    refine wp_region_lit ?_
    refine q100.t (.int .i64 (((j + 1 : Nat) : Int) - 1)) (ex_move rfl (q100.e (j := 5) rfl)) fun _ q101 => ?_;clear q100
    refine q101.t (.bool true) (ex_bin rfl (q101.e (j := 9) rfl) rfl (geqD _ _ (j + 1) true (by simp) _)) fun _ q102 => ?_;clear q101
    refine wpList_nil ?_
    go_upto_region 4 with fail
    refine wp_cond_true (q102.e (j := 10) rfl) ?_
    go_upto_region 4 with fail
    refine vq_start (C := fun v => v = wr.drew) (by kernel_rfl) (by kernel_rfl) rfl ?_
    have hd : Below wr.heap.size wr wr.drew := (Below.refl _ _).drew
    have hzd : wr.drew.heap.size = wr.heap.size := rfl
    generalize wr.drew = d at *
    have cd : Below w.heap.size w d := br.trans (hd.mono br.size)
    refine q102.q (.slice a L.length c) (fun v hv => ex_move rfl (q102.e (j := 0) rfl)) fun _ q103 => ?_;clear q102
    refine q103.q (.int .i64 ((j : Nat) : Int)) (fun v hv => ex_move rfl ((q103.e (j := 5) rfl).trans (by rw [ejj]))) fun _ q104 => ?_;clear q103
    refine q104.q (.pointer (some ⟨qa, (oa + j), none⟩)) (fun v hv => ex_ix rfl (q104.e (j := 13) rfl) (q104.e (j := 14) rfl) (by rw [hqa]; exact ixQ qa oa L.length c j (by omega) _)) fun _ q105 => ?_;clear q104
    refine q105.q (.int .u64 ((L.getD j 0 : Nat) : Int)) (fun v hv => by subst hv; exact ex_ld rfl (q105.e (j := 15) rfl) (ldQ ((cd.cell (p := ⟨qa, oa + j, none⟩) hqal).trans hca))) fun _ q106 => ?_;clear q105
    refine q106.q (.slice a2 M.length c2) (fun v hv => ex_move rfl (q106.e (j := 1) rfl)) fun _ q107 => ?_;clear q106
    refine q107.q (.int .i64 ((j : Nat) : Int)) (fun v hv => ex_move rfl ((q107.e (j := 5) rfl).trans (by rw [ejj]))) fun _ q108 => ?_;clear q107
    refine q108.q (.pointer (some ⟨qb, (ob + j), none⟩)) (fun v hv => ex_ix rfl (q108.e (j := 17) rfl) (q108.e (j := 18) rfl) (by rw [hqb]; exact ixQ qb ob M.length c2 j (by omega) _)) fun _ q109 => ?_;clear q108
    refine q109.q (.int .u64 ((M.getD j 0 : Nat) : Int)) (fun v hv => by subst hv; exact ex_ld rfl (q109.e (j := 19) rfl) (ldQ ((cd.cell (p := ⟨qb, ob + j, none⟩) hqbl).trans hcb))) fun _ q110 => ?_;clear q109
    refine q110.q (.bool (!decide (L.getD j 0 = M.getD j 0))) (fun v hv => ex_bin rfl (q110.e (j := 16) rfl) (q110.e (j := 20) rfl) (neqQ _ _ _ _ _)) fun _ q111 => ?_;clear q110
    refine vq_nil (fun r1 hr1 => ?_)
    subst hr1
    have q112 := (((((Rp.nil q111.z).cons (q111.a 0 rfl)).cons (q111.a 1 rfl)).cons (q111.a 5 rfl)).cons (q111.a 21 rfl))
    clear q111
    by_cases he : L.getD j 0 = M.getD j 0
    · have q112x := q112.a 21 rfl
      rw [decide_eq_true he] at q112x
      have hS : lsN L M (j + 1) = lsN L M j := by rw [lsN, if_neg (by simpa using he)]
      go_upto_region 3 with fail
      refine wp_cond_false (ev q112x rfl) ?_
      clear q112x
      go_upto_region 3 with fail
      refine wp_region_lit ?_
      refine q112.t (.int .i64 (((j + 1 : Nat) : Int) - 1)) (ex_move rfl (q112.e (j := 5) rfl)) fun _ q113 => ?_;clear q112
      refine q113.t (.int .i64 (((j : Nat) : Int) - 1)) (ex_bin rfl (q113.e (j := 11) rfl) rfl (sub1D _ _ j (by omega) _)) fun _ q114 => ?_;clear q113
      refine q114.t (.int .i64 (((j : Nat) : Int) - 1)) (ex_assign rfl (q114.e (j := 12) rfl)) fun _ q115 => ?_;clear q114
      have q116 := ((((Rp.nil q115.z).cons (q115.a 0 rfl)).cons (q115.a 1 rfl)).cons (q115.a 5 rfl))
      clear q115
      refine wpList_nil ?_
      exact ⟨_, j, rfl, rfl, q116, cd, hL.trans hS⟩
    · have q112x := q112.a 21 rfl
      rw [decide_eq_false he] at q112x
      have hS : lsN L M (j + 1) = decide (L.getD j 0 < M.getD j 0) := by rw [lsN, if_pos (by simpa using he)]
      go_upto_region 5 with fail
      refine wp_cond_true (ev q112x rfl) ?_
      clear q112x
      have q113 := ((((Rp.nil q112.z).cons (q112.a 0 rfl)).cons (q112.a 1 rfl)).cons (q112.a 5 rfl))
      clear q112
      go_upto_region 5 with fail
      refine vq_start (C := fun v => v = r1.drew) (by kernel_rfl) (by kernel_rfl) rfl ?_
      have he : Below r1.heap.size r1 r1.drew := (Below.refl _ _).drew
      have hze : r1.drew.heap.size = r1.heap.size := rfl
      generalize r1.drew = e at *
      have ce : Below w.heap.size w e := cd.trans (he.mono cd.size)
      refine q113.q (.slice a L.length c) (fun v hv => ex_move rfl (q113.e (j := 0) rfl)) fun _ q114 => ?_;clear q113
      refine q114.q (.int .i64 ((j : Nat) : Int)) (fun v hv => ex_move rfl ((q114.e (j := 5) rfl).trans (by rw [ejj]))) fun _ q115 => ?_;clear q114
      refine q115.q (.pointer (some ⟨qa, (oa + j), none⟩)) (fun v hv => ex_ix rfl (q115.e (j := 22) rfl) (q115.e (j := 23) rfl) (by rw [hqa]; exact ixQ qa oa L.length c j (by omega) _)) fun _ q116 => ?_;clear q115
      refine q116.q (.int .u64 ((L.getD j 0 : Nat) : Int)) (fun v hv => by subst hv; exact ex_ld rfl (q116.e (j := 24) rfl) (ldQ ((ce.cell (p := ⟨qa, oa + j, none⟩) hqal).trans hca))) fun _ q117 => ?_;clear q116
      refine q117.q (.slice a2 M.length c2) (fun v hv => ex_move rfl (q117.e (j := 1) rfl)) fun _ q118 => ?_;clear q117
      refine q118.q (.int .i64 ((j : Nat) : Int)) (fun v hv => ex_move rfl ((q118.e (j := 5) rfl).trans (by rw [ejj]))) fun _ q119 => ?_;clear q118
      refine q119.q (.pointer (some ⟨qb, (ob + j), none⟩)) (fun v hv => ex_ix rfl (q119.e (j := 26) rfl) (q119.e (j := 27) rfl) (by rw [hqb]; exact ixQ qb ob M.length c2 j (by omega) _)) fun _ q120 => ?_;clear q119
      refine q120.q (.int .u64 ((M.getD j 0 : Nat) : Int)) (fun v hv => by subst hv; exact ex_ld rfl (q120.e (j := 28) rfl) (ldQ ((ce.cell (p := ⟨qb, ob + j, none⟩) hqbl).trans hcb))) fun _ q121 => ?_;clear q120
      refine q121.q (.bool (decide (L.getD j 0 < M.getD j 0))) (fun v hv => ex_bin rfl (q121.e (j := 25) rfl) (q121.e (j := 29) rfl) (lssQ _ _ _ _ _)) fun _ q122 => ?_;clear q121
      refine q122.q (.bool (decide (L.getD j 0 < M.getD j 0))) (fun v hv => ex_assign rfl (q122.e (j := 30) rfl)) fun _ q123 => ?_;clear q122
      refine vq_nil (fun r2 hr2 => ?_)
      subst hr2
      go_wp2
      refine bodyPost_ret (results_tmp rfl _ _ _) rfl ⟨?_, ce⟩
      rw [getD_of (q123.a 4 rfl), hL, hS]
      rfl
  | zero =>
    go_upto_region 2 with fail
    refine wp_region_lit ?_
    refine q100.t (.int .i64 (((0 : Nat) : Int) - 1)) (ex_move rfl (q100.e (j := 5) rfl)) fun _ q101 => ?_;clear q100
    refine q101.t (.bool false) (ex_bin rfl (q101.e (j := 9) rfl) rfl (geqD _ _ 0 false (by simp) _)) fun _ q102 => ?_;clear q101
    refine wpList_nil ?_
    go_upto_region 6 with fail
    refine wp_cond_false (q102.e (j := 10) rfl) ?_
    go_upto_region 6 with fail
    refine wp_region_lit ?_
    refine q102.t (.bool false) (ex_assign rfl rfl) fun _ q103 => ?_;clear q102
    refine wpList_nil ?_
    go_wp2
    refine bodyPost_ret (results_tmp rfl _ _ _) rfl ⟨?_, br⟩
    rw [getD_of (q103.a 4 rfl), hL]
    rfl
set_option maxHeartbeats 2000000 in
theorem times19 (L : List Nat) (a : Option Addr) (c m : Nat) (w : World) (h : SlY yQ9 w a L.length c L) (hm : L.length ≤ 1000) :
    Calls Try.prog 99 #[.slice a L.length c, .int .u64 ((m : Nat) : Int)] w fun e w' => ∃ g, e = .returned (.slice (some ⟨g, 0, none⟩) L.length L.length) ∧ SlY yQ9 w' (some ⟨g, 0, none⟩) L.length L.length (tmF L m) ∧ Below w.heap.size w w' := by
  go_enter Try.func99, Try.ntmps99
  go_upto_region 0 with fail
  refine wp_region_lit ?_
  refine vl_gen (fun T => Rp T 34 [(1, gw true (.int .u64 ((m : Nat) : Int))), (0, gw true (.slice a L.length c))]) (((Rp.nil rfl).cons rfl).cons rfl) (fun Z0 q0 => ?_)
  refine q0.t (.slice none 0 0) (ex_assign rfl rfl) fun _ q1 => ?_;clear q0
  refine wpList_nil ?_
  go_upto_region 1 with fail
  refine wp_region_lit ?_
  refine q1.t (.slice a L.length c) (ex_move rfl (q1.e (j := 0) rfl)) fun _ q2 => ?_;clear q1
  refine q2.t (.int .i64 ((L.length : Nat) : Int)) (ex_lenG rfl rfl Try.underlying136 (q2.e (j := 9) rfl)) fun _ q3 => ?_;clear q2
  obtain ⟨w1, hk1, B1, b1⟩ := mkq L.length hm w
  refine vw (.slice (some ⟨w.heap.size, 0, none⟩) L.length L.length) w1 (want_none rfl) (ex_mk19 rfl (q3.e (j := 10) rfl) (q3.e (j := 10) rfl) hk1) rfl q3.z (by decide) (q3.k fun _ q4 => ?_);clear q3
  refine q4.t (.slice (some ⟨w.heap.size, 0, none⟩) L.length L.length) (ex_assign rfl (q4.e (j := 11) rfl)) fun _ q5 => ?_;clear q4
  refine wpList_nil ?_
  go_upto_region 2 with fail
  refine wp_region_lit ?_
  refine q5.t (.int .u64 ((0 : Nat) : Int)) (ex_assign rfl rfl) fun _ q6 => ?_;clear q5
  refine wpList_nil ?_
  go_upto_region 3 with fail
  refine wp_region_lit ?_
  refine q6.t (.int .i64 ((0 : Nat) : Int)) (ex_assign rfl rfl) fun _ q7 => ?_;clear q6
  have q8 := ((((((Rp.nil q7.z).cons (q7.a 0 rfl)).cons (q7.a 1 rfl)).cons (q7.a 5 rfl)).cons (q7.a 6 rfl)).cons (q7.a 7 rfl))
  clear q7
  refine wpList_nil ?_
  go_upto_region 4 with fail
  refine v_loop 7 L.length (fun j T wr => Rp T 34 [(7, gw true (.int .i64 ((j : Nat) : Int))), (6, gw true (.int .u64 (((tmS L m j).2 : Nat) : Int))), (5, gw true (.slice (some ⟨w.heap.size, 0, none⟩) L.length L.length)), (1, gw true (.int .u64 ((m : Nat) : Int))), (0, gw true (.slice a L.length c))] ∧ Hid (BB wr w.heap.size 118 ((tmS L m j).1.map qV) ∧ Below w.heap.size w wr)) (fun j T w h => h.1.a 7 rfl) ⟨q8, B1, b1⟩ ?_
  clear q8 B1 b1 hk1
  intro j T wr hj hh
  obtain ⟨q100, HJ⟩ := hh
  obtain ⟨B1, br⟩ := HJ.out
  clear HJ
  have zr := br.size
  have hl := tmS_len L m j
  by_cases hit : j < L.length
  · obtain ⟨qa, oa, hqa, hqal, hca⟩ := h.q9 (j := j) hit
    have hcr := (br.cell (p := ⟨qa, oa + j, none⟩) hqal).trans hca
    have cj := B1.q9 (j := j) (by omega)
    have hxl : (L.getD j 0 * m % 18446744073709551616 + (tmS L m j).2) % 18446744073709551616 < 18446744073709551616 := Nat.mod_lt _ (by decide)
    go_upto_region 4 with fail
    refine wp_region_lit ?_
    refine q100.t (.int .i64 ((j : Nat) : Int)) (ex_move rfl (q100.e (j := 7) rfl)) fun _ q101 => ?_;clear q100
    refine q101.t (.slice a L.length c) (ex_move rfl (q101.e (j := 0) rfl)) fun _ q102 => ?_;clear q101
    refine q102.t (.int .i64 ((L.length : Nat) : Int)) (ex_lenG rfl rfl Try.underlying136 (q102.e (j := 13) rfl)) fun _ q103 => ?_;clear q102
    refine q103.t (.bool true) (ex_bin rfl (q103.e (j := 12) rfl) (q103.e (j := 14) rfl) (ltT _ _ hit _)) fun _ q104 => ?_;clear q103
    refine wpList_nil ?_
    go_upto_region 6 with fail
    refine wp_cond_true (q104.e (j := 15) rfl) ?_
    go_upto_region 6 with fail
    refine wp_region_lit ?_
    refine q104.t (.slice a L.length c) (ex_move rfl (q104.e (j := 0) rfl)) fun _ q105 => ?_;clear q104
    refine q105.t (.int .i64 ((j : Nat) : Int)) (ex_move rfl (q105.e (j := 7) rfl)) fun _ q106 => ?_;clear q105
    refine q106.t (.pointer (some ⟨qa, (oa + j), none⟩)) (ex_ix rfl (q106.e (j := 18) rfl) (q106.e (j := 19) rfl) (by rw [hqa]; exact ixQ qa oa L.length c j hit _)) fun _ q107 => ?_;clear q106
    refine q107.t (.int .u64 ((L.getD j 0 : Nat) : Int)) (ex_ld rfl (q107.e (j := 20) rfl) (ldQ hcr)) fun _ q108 => ?_;clear q107
    refine q108.t (.int .u64 ((m : Nat) : Int)) (ex_move rfl (q108.e (j := 1) rfl)) fun _ q109 => ?_;clear q108
    refine q109.t (.int .u64 ((L.getD j 0 * m % 18446744073709551616 : Nat) : Int)) (ex_bin rfl (q109.e (j := 21) rfl) (q109.e (j := 22) rfl) (mulQ9 _ _ _ _ _)) fun _ q110 => ?_;clear q109
    refine q110.t (.int .u64 (((tmS L m j).2 : Nat) : Int)) (ex_move rfl (q110.e (j := 6) rfl)) fun _ q111 => ?_;clear q110
    refine q111.t (.int .u64 (((L.getD j 0 * m % 18446744073709551616 + (tmS L m j).2) % 18446744073709551616 : Nat) : Int)) (ex_bin rfl (q111.e (j := 23) rfl) (q111.e (j := 24) rfl) (addQ9 _ _ _ _ _)) fun _ q112 => ?_;clear q111
    refine q112.t (.int .u64 (((L.getD j 0 * m % 18446744073709551616 + (tmS L m j).2) % 18446744073709551616 : Nat) : Int)) (ex_assign rfl (q112.e (j := 25) rfl)) fun _ q113 => ?_;clear q112
    refine wpList_nil ?_
    go_upto_region 7 with fail
    refine wp_region_lit ?_
    refine q113.t (.slice (some ⟨w.heap.size, 0, none⟩) L.length L.length) (ex_move rfl (q113.e (j := 5) rfl)) fun _ q114 => ?_;clear q113
    refine q114.t (.int .i64 ((j : Nat) : Int)) (ex_move rfl (q114.e (j := 7) rfl)) fun _ q115 => ?_;clear q114
    refine q115.t (.int .u64 (((L.getD j 0 * m % 18446744073709551616 + (tmS L m j).2) % 18446744073709551616 : Nat) : Int)) (ex_move rfl (q115.e (j := 8) rfl)) fun _ q116 => ?_;clear q115
    refine q116.t (.int .u64 (((L.getD j 0 * m % 18446744073709551616 + (tmS L m j).2) % 18446744073709551616 % 65536 : Nat) : Int)) (ex_bin rfl (q116.e (j := 28) rfl) rfl (remQ _ _ _ 65536 (by decide) _)) fun _ q117 => ?_;clear q116
    refine q117.t (.pointer (some ⟨w.heap.size, j, none⟩)) (ex_ix rfl (q117.e (j := 26) rfl) (q117.e (j := 27) rfl) (ixQ0 w.heap.size L.length L.length j hit _)) fun _ q118 => ?_;clear q117
    obtain ⟨d2, hd2⟩ : ∃ z, z = wr.setCell ⟨w.heap.size, j, none⟩ (.int .u64 (((L.getD j 0 * m % 18446744073709551616 + (tmS L m j).2) % 18446744073709551616 % 65536 : Nat) : Int)) := ⟨_, rfl⟩
    refine vs d2 (want_none rfl) (ex_st rfl (q118.e (j := 30) rfl) (q118.e (j := 29) rfl) (by rw [hd2]; exact stQ cj (B1.free _))) rfl ?_
    have B2 : BB d2 w.heap.size 118 ((tmS L m (j + 1)).1.map qV) := by rw [hd2]; exact B1.setq _ _
    have be : Below w.heap.size w d2 := by rw [hd2]; exact br.trans (bel_ge (upd1 _ _ _ _) zr (Nat.le_refl _))
    clear hd2
    refine wpList_nil ?_
    go_upto_region 8 with fail
    refine wp_region_lit ?_
    refine q118.t (.int .u64 (((L.getD j 0 * m % 18446744073709551616 + (tmS L m j).2) % 18446744073709551616 : Nat) : Int)) (ex_move rfl (q118.e (j := 8) rfl)) fun _ q119 => ?_;clear q118
    refine q119.t (.int .u64 (((L.getD j 0 * m % 18446744073709551616 + (tmS L m j).2) % 18446744073709551616 / 65536 : Nat) : Int)) (ex_bin rfl (q119.e (j := 31) rfl) rfl (quoQ _ _ _ hxl _)) fun _ q120 => ?_;clear q119
    refine q120.t (.int .u64 (((L.getD j 0 * m % 18446744073709551616 + (tmS L m j).2) % 18446744073709551616 / 65536 : Nat) : Int)) (ex_assign rfl (q120.e (j := 32) rfl)) fun _ q121 => ?_;clear q120
    have q122 := ((((((Rp.nil q121.z).cons (q121.a 0 rfl)).cons (q121.a 1 rfl)).cons (q121.a 5 rfl)).cons (q121.a 6 rfl)).cons (q121.a 7 rfl))
    clear q121
    refine wpList_nil ?_
    go_upto_region 5 with fail
    refine wp_region_lit ?_
    refine q122.t (.int .i64 ((j : Nat) : Int)) (ex_move rfl (q122.e (j := 7) rfl)) fun _ q123 => ?_;clear q122
    refine q123.t (.int .i64 ((j + 1 : Nat) : Int)) (ex_bin rfl (q123.e (j := 16) rfl) rfl (add1C _ _ j (by omega) _)) fun _ q124 => ?_;clear q123
    refine q124.t (.int .i64 ((j + 1 : Nat) : Int)) (ex_assign rfl (q124.e (j := 17) rfl)) fun _ q125 => ?_;clear q124
    have q126 := ((((((Rp.nil q125.z).cons (q125.a 0 rfl)).cons (q125.a 1 rfl)).cons (q125.a 5 rfl)).cons (q125.a 6 rfl)).cons (q125.a 7 rfl))
    clear q125
    refine wpList_nil ?_
    exact ⟨_, rfl, hit, q126, B2, be⟩
  · obtain rfl : j = L.length := by omega
    go_upto_region 4 with fail
    refine wp_region_lit ?_
    refine q100.t (.int .i64 ((L.length : Nat) : Int)) (ex_move rfl (q100.e (j := 7) rfl)) fun _ q101 => ?_;clear q100
    refine q101.t (.slice a L.length c) (ex_move rfl (q101.e (j := 0) rfl)) fun _ q102 => ?_;clear q101
    refine q102.t (.int .i64 ((L.length : Nat) : Int)) (ex_lenG rfl rfl Try.underlying136 (q102.e (j := 13) rfl)) fun _ q103 => ?_;clear q102
    refine q103.t (.bool false) (ex_bin rfl (q103.e (j := 12) rfl) (q103.e (j := 14) rfl) (ltF _ _ hit _)) fun _ q104 => ?_;clear q103
    refine wpList_nil ?_
    go_upto_region 9 with fail
    refine wp_cond_false (q104.e (j := 15) rfl) ?_
    go_upto_region 9 with fail
    refine wp_region_lit ?_
    refine q104.t (.slice (some ⟨w.heap.size, 0, none⟩) L.length L.length) (ex_move rfl (q104.e (j := 5) rfl)) fun _ q105 => ?_;clear q104
    refine q105.t (.slice (some ⟨w.heap.size, 0, none⟩) L.length L.length) (ex_assign rfl (q105.e (j := 33) rfl)) fun _ q106 => ?_;clear q105
    refine wpList_nil ?_
    have sF := B1.slq (by rw [hl]; unfold maxLen; omega)
    rw [hl] at sF
    go_wp2
    refine bodyPost_ret (results_tmp rfl _ _ _) rfl ⟨w.heap.size, ?_, sF, br⟩
    rw [getD_of (q106.a 4 rfl)]
    rfl
set_option maxHeartbeats 2000000 in
theorem halves19 (v : Nat) (hv : v < 18446744073709551616) (w : World) :
    Calls Try.prog 100 #[.int .u64 ((v : Nat) : Int)] w fun e w' => ∃ g, e = .returned (.slice (some ⟨g, 0, none⟩) 9 9) ∧ SlY yQ9 w' (some ⟨g, 0, none⟩) 9 9 (hvF v) ∧ Below w.heap.size w w' := by
  go_enter Try.func100, Try.ntmps100
  go_upto_region 0 with fail
  refine wp_region_lit ?_
  refine vl_gen (fun T => Rp T 18 [(0, gw true (.int .u64 ((v : Nat) : Int)))]) ((Rp.nil rfl).cons rfl) (fun Z0 q0 => ?_)
  refine q0.t (.slice none 0 0) (ex_assign rfl rfl) fun _ q1 => ?_;clear q0
  refine wpList_nil ?_
  go_upto_region 1 with fail
  refine wp_region_lit ?_
  obtain ⟨w1, hk1, B1, b1⟩ := mkq 9 (by decide) w
  refine vw (.slice (some ⟨w.heap.size, 0, none⟩) 9 9) w1 (want_none rfl) (ex_mk19 rfl rfl rfl hk1) rfl q1.z (by decide) (q1.k fun _ q2 => ?_);clear q1
  refine q2.t (.slice (some ⟨w.heap.size, 0, none⟩) 9 9) (ex_assign rfl (q2.e (j := 5) rfl)) fun _ q3 => ?_;clear q2
  refine wpList_nil ?_
  go_upto_region 2 with fail
  refine wp_region_lit ?_
  refine q3.t (.int .i64 ((0 : Nat) : Int)) (ex_assign rfl rfl) fun _ q4 => ?_;clear q3
  have q5 := ((((Rp.nil q4.z).cons (q4.a 0 rfl)).cons (q4.a 3 rfl)).cons (q4.a 4 rfl))
  clear q4
  refine wpList_nil ?_
  go_upto_region 3 with fail
  refine v_loop 4 4 (fun j T wr => Rp T 18 [(4, gw true (.int .i64 ((j : Nat) : Int))), (3, gw true (.slice (some ⟨w.heap.size, 0, none⟩) 9 9)), (0, gw true (.int .u64 (((hvS v j).2 : Nat) : Int)))] ∧ Hid (BB wr w.heap.size 118 ((hvS v j).1.map qV) ∧ Below w.heap.size w wr)) (fun j T w h => h.1.a 4 rfl) ⟨q5, B1, b1⟩ ?_
  clear q5 B1 b1 hk1
  intro j T wr hj hh
  obtain ⟨q100, HJ⟩ := hh
  obtain ⟨B1, br⟩ := HJ.out
  clear HJ
  have zr := br.size
  have hl := hvS_len v j
  have hle := hvS_le v j
  by_cases hit : j < 4
  · have cj := B1.q9 (j := j) (by omega)
    go_upto_region 3 with fail
    refine wp_region_lit ?_
    refine q100.t (.int .i64 ((j : Nat) : Int)) (ex_move rfl (q100.e (j := 4) rfl)) fun _ q101 => ?_;clear q100
    refine q101.t (.bool true) (ex_bin rfl (q101.e (j := 6) rfl) rfl (ltT _ _ hit _)) fun _ q102 => ?_;clear q101
    refine wpList_nil ?_
    go_upto_region 5 with fail
    refine wp_cond_true (q102.e (j := 7) rfl) ?_
    go_upto_region 5 with fail
    refine wp_region_lit ?_
    refine q102.t (.slice (some ⟨w.heap.size, 0, none⟩) 9 9) (ex_move rfl (q102.e (j := 3) rfl)) fun _ q103 => ?_;clear q102
    refine q103.t (.int .i64 ((j : Nat) : Int)) (ex_move rfl (q103.e (j := 4) rfl)) fun _ q104 => ?_;clear q103
    refine q104.t (.int .u64 (((hvS v j).2 : Nat) : Int)) (ex_move rfl (q104.e (j := 0) rfl)) fun _ q105 => ?_;clear q104
    refine q105.t (.int .u64 (((hvS v j).2 % 65536 : Nat) : Int)) (ex_bin rfl (q105.e (j := 12) rfl) rfl (remQ _ _ _ 65536 (by decide) _)) fun _ q106 => ?_;clear q105
    refine q106.t (.pointer (some ⟨w.heap.size, j, none⟩)) (ex_ix rfl (q106.e (j := 10) rfl) (q106.e (j := 11) rfl) (ixQ0 w.heap.size 9 9 j (by omega) _)) fun _ q107 => ?_;clear q106
    obtain ⟨d2, hd2⟩ : ∃ z, z = wr.setCell ⟨w.heap.size, j, none⟩ (.int .u64 (((hvS v j).2 % 65536 : Nat) : Int)) := ⟨_, rfl⟩
    refine vs d2 (want_none rfl) (ex_st rfl (q107.e (j := 14) rfl) (q107.e (j := 13) rfl) (by rw [hd2]; exact stQ cj (B1.free _))) rfl ?_
    have B2 : BB d2 w.heap.size 118 ((hvS v (j + 1)).1.map qV) := by rw [hd2]; exact B1.setq _ _
    have be : Below w.heap.size w d2 := by rw [hd2]; exact br.trans (bel_ge (upd1 _ _ _ _) zr (Nat.le_refl _))
    clear hd2
    refine wpList_nil ?_
    go_upto_region 6 with fail
    refine wp_region_lit ?_
    refine q107.t (.int .u64 (((hvS v j).2 : Nat) : Int)) (ex_move rfl (q107.e (j := 0) rfl)) fun _ q108 => ?_;clear q107
    refine q108.t (.int .u64 (((hvS v j).2 / 65536 : Nat) : Int)) (ex_bin rfl (q108.e (j := 15) rfl) rfl (quoQ _ _ _ (by omega) _)) fun _ q109 => ?_;clear q108
    refine q109.t (.int .u64 (((hvS v j).2 / 65536 : Nat) : Int)) (ex_assign rfl (q109.e (j := 16) rfl)) fun _ q110 => ?_;clear q109
    have q111 := ((((Rp.nil q110.z).cons (q110.a 0 rfl)).cons (q110.a 3 rfl)).cons (q110.a 4 rfl))
    clear q110
    refine wpList_nil ?_
    go_upto_region 4 with fail
    refine wp_region_lit ?_
    refine q111.t (.int .i64 ((j : Nat) : Int)) (ex_move rfl (q111.e (j := 4) rfl)) fun _ q112 => ?_;clear q111
    refine q112.t (.int .i64 ((j + 1 : Nat) : Int)) (ex_bin rfl (q112.e (j := 8) rfl) rfl (add1C _ _ j (by omega) _)) fun _ q113 => ?_;clear q112
    refine q113.t (.int .i64 ((j + 1 : Nat) : Int)) (ex_assign rfl (q113.e (j := 9) rfl)) fun _ q114 => ?_;clear q113
    have q115 := ((((Rp.nil q114.z).cons (q114.a 0 rfl)).cons (q114.a 3 rfl)).cons (q114.a 4 rfl))
    clear q114
    refine wpList_nil ?_
    exact ⟨_, rfl, hit, q115, B2, be⟩
  · obtain rfl : j = 4 := by omega
    go_upto_region 3 with fail
    refine wp_region_lit ?_
    refine q100.t (.int .i64 ((4 : Nat) : Int)) (ex_move rfl (q100.e (j := 4) rfl)) fun _ q101 => ?_;clear q100
    refine q101.t (.bool false) (ex_bin rfl (q101.e (j := 6) rfl) rfl (ltF _ _ hit _)) fun _ q102 => ?_;clear q101
    refine wpList_nil ?_
    go_upto_region 7 with fail
    refine wp_cond_false (q102.e (j := 7) rfl) ?_
    go_upto_region 7 with fail
    refine wp_region_lit ?_
    refine q102.t (.slice (some ⟨w.heap.size, 0, none⟩) 9 9) (ex_move rfl (q102.e (j := 3) rfl)) fun _ q103 => ?_;clear q102
    refine q103.t (.slice (some ⟨w.heap.size, 0, none⟩) 9 9) (ex_assign rfl (q103.e (j := 17) rfl)) fun _ q104 => ?_;clear q103
    refine wpList_nil ?_
    have sF := B1.slq (by rw [hl]; unfold maxLen; omega)
    rw [hl] at sF
    go_wp2
    refine bodyPost_ret (results_tmp rfl _ _ _) rfl ⟨w.heap.size, ?_, sF, br⟩
    rw [getD_of (q104.a 2 rfl)]
    rfl
theorem cvQ_U (k : Nat) (hk : k < 4294967296) (w : World) : (Go.convert 118 99 (.int .u64 (k : Int))).run Try.prog w = .ok (.int .u32 (k : Int)) w := by
  have hw : IntKind.u32.wrap (k : Int) = (k : Int) := by rw [IntKind.wrap_u32]; omega
  go_simp
set_option maxHeartbeats 2000000 in
theorem root19 (p : Nat) (w : World) :
    Calls Try.prog 87 #[.int .u64 ((p : Nat) : Int)] w fun e w' => e = .returned (.int .u32 ((rootF p : Nat) : Int)) ∧ Below w.heap.size w w' := by
  go_enter Try.func87, Try.ntmps87
  go_upto_region 0 with fail
  refine wp_region_lit ?_
  refine vl_gen (fun T => Rp T 35 [(0, gw true (.int .u64 ((p : Nat) : Int)))]) ((Rp.nil rfl).cons rfl) (fun Z0 q0 => ?_)
  refine q0.t (.int .u32 0) (ex_assign rfl rfl) fun _ q1 => ?_;clear q0
  refine wpList_nil ?_
  go_upto_region 1 with fail
  refine wp_region_lit ?_
  obtain ⟨w1, hk1, B1, b1⟩ := mkq 9 (by decide) w
  have z1 := b1.size
  refine vw (.slice (some ⟨w.heap.size, 0, none⟩) 9 9) w1 (want_none rfl) (ex_mk19 rfl rfl rfl hk1) rfl q1.z (by decide) (q1.k fun _ q2 => ?_);clear q1
  refine q2.t (.slice (some ⟨w.heap.size, 0, none⟩) 9 9) (ex_assign rfl (q2.e (j := 8) rfl)) fun _ q3 => ?_;clear q2
  refine wpList_nil ?_
  go_upto_region 2 with fail
  refine wp_region_lit ?_
  refine q3.t (.slice (some ⟨w.heap.size, 0, none⟩) 9 9) (ex_move rfl (q3.e (j := 3) rfl)) fun _ q4 => ?_;clear q3
  refine q4.t (.int .u64 ((p : Nat) : Int)) (ex_move rfl (q4.e (j := 0) rfl)) fun _ q5 => ?_;clear q4
  refine q5.t (.pointer (some ⟨w.heap.size, 6, none⟩)) (ex_ix rfl (q5.e (j := 9) rfl) rfl (ixQ0 w.heap.size 9 9 6 (by decide) _)) fun _ q6 => ?_;clear q5
  have c6 := B1.q9 (j := 6) (by simp)
  obtain ⟨w2, hw2⟩ : ∃ z, z = w1.setCell ⟨w.heap.size, 6, none⟩ (.int .u64 ((p : Nat) : Int)) := ⟨_, rfl⟩
  refine vs w2 (want_none rfl) (ex_st rfl (q6.e (j := 11) rfl) (q6.e (j := 10) rfl) (by rw [hw2]; exact stQ c6 (B1.free _))) rfl ?_
  have B2 : BB w2 w.heap.size 118 ((wantF p).map qV) := by rw [hw2]; exact B1.setq _ _
  have b2 : Below w.heap.size w w2 := by rw [hw2]; exact b1.trans (bel_ge (upd1 _ _ _ _) z1 (Nat.le_refl _))
  clear hw2 hk1 B1 c6
  refine wpList_nil ?_
  go_upto_region 3 with fail
  refine wp_region_lit ?_
  refine q6.t (.int .u64 ((0 : Nat) : Int)) (ex_assign rfl rfl) fun _ q7 => ?_;clear q6
  refine wpList_nil ?_
  go_upto_region 4 with fail
  refine wp_region_lit ?_
  refine q7.t (.int .i64 (((36 : Nat) : Int) - 1)) (ex_assign rfl rfl) fun _ q8 => ?_;clear q7
  have q9 := ((((Rp.nil q8.z).cons (q8.a 3 rfl)).cons (q8.a 4 rfl)).cons (q8.a 5 rfl))
  clear q8
  refine wpList_nil ?_
  go_upto_region 5 with fail
  refine v_loopD 5 36 (fun j T wr => ∃ r, Rp T 35 [(5, gw true (.int .i64 (((j : Nat) : Int) - 1))), (4, gw true (.int .u64 ((r : Nat) : Int))), (3, gw true (.slice (some ⟨w.heap.size, 0, none⟩) 9 9))] ∧ Hid (BB wr w.heap.size 118 ((wantF p).map qV) ∧ Below w.heap.size w wr ∧ rtF p 36 0 = rtF p j r)) (fun j T w h => by obtain ⟨r, h, _⟩ := h; exact h.a 5 rfl) ⟨0, q9, B2, b2, rfl⟩ ?_
  clear q9 B2 b2
  intro j T wr hj hh
  obtain ⟨r, q100, HJ⟩ := hh
  obtain ⟨B2, br, hR⟩ := HJ.out
  clear HJ
  have zr := br.size
  cases j with
  | succ j =>
    obtain ⟨t, ht⟩ : ∃ t, t = (r + 2 ^ j % 18446744073709551616) % 18446744073709551616 := ⟨_, rfl⟩
    have htl : t < 18446744073709551616 := by rw [ht]; exact Nat.mod_lt _ (by decide)
    have ejj : (((j + 1 : Nat) : Int) - 1) = ((j : Nat) : Int) := by omega
    have hS : rtF p (j + 1) r = rtF p j (if lsN (wantF p) (cubeF t) 9 then r else t) := by rw [rtF, ht]
    go_upto_region 5 with fail
    refine wp_region_lit ?_
    refine q100.t (.int .i64 (((j + 1 : Nat) : Int) - 1)) (ex_move rfl (q100.e (j := 5) rfl)) fun _ q101 => ?_;clear q100
    refine q101.t (.bool true) (ex_bin rfl (q101.e (j := 12) rfl) rfl (geqD _ _ (j + 1) true (by simp) _)) fun _ q102 => ?_;clear q101
    refine wpList_nil ?_
    go_upto_region 7 with fail
    refine wp_cond_true (q102.e (j := 13) rfl) ?_
    go_upto_region 7 with fail
    refine wp_region_lit ?_
    refine q102.t (.int .u64 ((r : Nat) : Int)) (ex_move rfl (q102.e (j := 4) rfl)) fun _ q103 => ?_;clear q102
    refine q103.t (.int .i64 ((j : Nat) : Int)) (ex_move rfl ((q103.e (j := 5) rfl).trans (by rw [ejj]))) fun _ q104 => ?_;clear q103
    refine q104.t (.int .u64 ((j : Nat) : Int)) (ex_cv19 rfl (q104.e (j := 17) rfl) (cvI_U j (by omega) _)) fun _ q105 => ?_;clear q104
    refine q105.t (.int .u64 ((2 ^ j % 18446744073709551616 : Nat) : Int)) (ex_bin (X := .int .u64 1) rfl rfl (q105.e (j := 18) rfl) (shlQ _ _ j (by omega) _)) fun _ q106 => ?_;clear q105
    refine q106.t (.int .u64 ((t : Nat) : Int)) (ex_bin rfl (q106.e (j := 16) rfl) (q106.e (j := 19) rfl) (by rw [addQ9, ht])) fun _ q107 => ?_;clear q106
    refine q107.t (.int .u64 ((t : Nat) : Int)) (ex_assign rfl (q107.e (j := 20) rfl)) fun _ q108 => ?_;clear q107
    have q109 := (((((Rp.nil q108.z).cons (q108.a 3 rfl)).cons (q108.a 4 rfl)).cons (q108.a 5 rfl)).cons (q108.a 6 rfl))
    clear q108
    refine wpList_nil ?_
    go_upto_region 8 with fail
    refine wp_region_lit ?_
    refine q109.t (.int .u64 ((t : Nat) : Int)) (ex_move rfl (q109.e (j := 6) rfl)) fun _ q110 => ?_;clear q109
    refine vcallP (want_none rfl) (ex_call rfl (by simp only [List.map_toArray, List.map_cons, List.map_nil, (q110.e (j := 21) rfl), evc] <;> rfl) rfl) (halves19 t htl wr) rfl q110.z (by decide) ?_
    rintro e v1 ⟨g1, rfl, s1, e1⟩
    refine ⟨_, rfl, q110.k fun _ q111 => ?_⟩;clear q110
    have f1 : Below w.heap.size w v1 := br.trans (e1.mono zr)
    refine q111.t (.int .u64 ((t : Nat) : Int)) (ex_move rfl (q111.e (j := 6) rfl)) fun _ q112 => ?_;clear q111
    have l1 : (hvF t).length = 9 := hvS_len t 4
    rw [← l1] at s1
    refine vcallP (want_none rfl) (ex_call rfl (by simp only [List.map_toArray, List.map_cons, List.map_nil, (q112.e (j := 22) rfl), (q112.e (j := 23) rfl), evc] <;> rfl) rfl) ((by rw [l1] at s1; have := times19 (hvF t) (some ⟨g1, 0, none⟩) 9 t v1 (by rw [l1]; exact s1) (by omega); rw [l1] at this; exact this)) rfl q112.z (by decide) ?_
    rintro e v2 ⟨g2, rfl, s2, e2⟩
    refine ⟨_, rfl, q112.k fun _ q113 => ?_⟩;clear q112
    have f2 : Below w.heap.size w v2 := f1.trans (e2.mono f1.size)
    have l2 : (tmF (hvF t) t).length = 9 := (tmS_len _ _ _).trans l1
    refine q113.t (.int .u64 ((t : Nat) : Int)) (ex_move rfl (q113.e (j := 6) rfl)) fun _ q114 => ?_;clear q113
    refine vcallP (want_none rfl) (ex_call rfl (by simp only [List.map_toArray, List.map_cons, List.map_nil, (q114.e (j := 24) rfl), (q114.e (j := 25) rfl), evc] <;> rfl) rfl) ((by have := times19 (tmF (hvF t) t) (some ⟨g2, 0, none⟩) 9 t v2 (by rw [l2]; exact s2) (by omega); rw [l2] at this; exact this)) rfl q114.z (by decide) ?_
    rintro e v3 ⟨g3, rfl, s3, e3⟩
    refine ⟨_, rfl, q114.k fun _ q115 => ?_⟩;clear q114
    have f3 : Below w.heap.size w v3 := f2.trans (e3.mono f2.size)
    have l3 : (cubeF t).length = 9 := (tmS_len _ _ _).trans l2
    have B3 := ((B2.later e1).later e2).later e3
    refine q115.t (.slice (some ⟨g3, 0, none⟩) 9 9) (ex_assign rfl (q115.e (j := 26) rfl)) fun _ q116 => ?_;clear q115
    have q117 := ((((((Rp.nil q116.z).cons (q116.a 3 rfl)).cons (q116.a 4 rfl)).cons (q116.a 5 rfl)).cons (q116.a 6 rfl)).cons (q116.a 7 rfl))
    clear q116
    refine wpList_nil ?_
    go_upto_region 9 with fail
    refine wp_region_lit ?_
    refine q117.t (.slice (some ⟨w.heap.size, 0, none⟩) 9 9) (ex_move rfl (q117.e (j := 3) rfl)) fun _ q118 => ?_;clear q117
    refine q118.t (.slice (some ⟨g3, 0, none⟩) 9 9) (ex_move rfl (q118.e (j := 7) rfl)) fun _ q119 => ?_;clear q118
    refine vcallP (want_none rfl) (ex_call rfl (by simp only [List.map_toArray, List.map_cons, List.map_nil, (q119.e (j := 27) rfl), (q119.e (j := 28) rfl), evc] <;> rfl) rfl) ((by have sw := B3.slq (L := wantF p) (by unfold maxLen wantF; simp); have := less19 (wantF p) (cubeF t) (some ⟨w.heap.size, 0, none⟩) (some ⟨g3, 0, none⟩) 9 9 v3 sw (by rw [l3]; exact s3) (by rw [l3]; rfl) (by show (9 : Nat) < _; decide); rw [l3] at this; exact this)) rfl q119.z (by decide) ?_
    rintro e v4 ⟨rfl, e4⟩
    refine ⟨_, rfl, q119.k fun _ q120 => ?_⟩;clear q119
    have f4 : Below w.heap.size w v4 := f3.trans (e4.mono f3.size)
    have B4 := B3.later e4
    refine q120.t (.bool (!lsN (wantF p) (cubeF t) 9)) (ex_not rfl (q120.e (j := 29) rfl)) fun _ q121 => ?_;clear q120
    have q122 := ((((((Rp.nil q121.z).cons (q121.a 3 rfl)).cons (q121.a 4 rfl)).cons (q121.a 5 rfl)).cons (q121.a 6 rfl)).cons (q121.a 30 rfl))
    clear q121
    refine wpList_nil ?_
    cases hls : lsN (wantF p) (cubeF t) 9 with
    | true =>
      have q122x := q122.a 30 rfl
      rw [hls] at q122x
      go_upto_region 6 with fail
      refine wp_cond_false (ev q122x rfl) ?_
      clear q122x
      go_upto_region 6 with fail
      refine wp_region_lit ?_
      refine q122.t (.int .i64 (((j + 1 : Nat) : Int) - 1)) (ex_move rfl (q122.e (j := 5) rfl)) fun _ q123 => ?_;clear q122
      refine q123.t (.int .i64 (((j : Nat) : Int) - 1)) (ex_bin rfl (q123.e (j := 14) rfl) rfl (sub1D _ _ j (by omega) _)) fun _ q124 => ?_;clear q123
      refine q124.t (.int .i64 (((j : Nat) : Int) - 1)) (ex_assign rfl (q124.e (j := 15) rfl)) fun _ q125 => ?_;clear q124
      have q126 := ((((Rp.nil q125.z).cons (q125.a 3 rfl)).cons (q125.a 4 rfl)).cons (q125.a 5 rfl))
      clear q125
      refine wpList_nil ?_
      exact ⟨_, j, rfl, rfl, r, q126, B4, f4, hR.trans (by rw [hS, hls]; rfl)⟩
    | false =>
      have q122x := q122.a 30 rfl
      rw [hls] at q122x
      go_upto_region 10 with fail
      refine wp_cond_true (ev q122x rfl) ?_
      clear q122x
      go_upto_region 10 with fail
      refine wp_region_lit ?_
      refine q122.t (.int .u64 ((t : Nat) : Int)) (ex_move rfl (q122.e (j := 6) rfl)) fun _ q123 => ?_;clear q122
      refine q123.t (.int .u64 ((t : Nat) : Int)) (ex_assign rfl (q123.e (j := 31) rfl)) fun _ q124 => ?_;clear q123
      have q125 := ((((Rp.nil q124.z).cons (q124.a 3 rfl)).cons (q124.a 4 rfl)).cons (q124.a 5 rfl))
      clear q124
      refine wpList_nil ?_
      go_upto_region 6 with fail
      refine wp_region_lit ?_
      refine q125.t (.int .i64 (((j + 1 : Nat) : Int) - 1)) (ex_move rfl (q125.e (j := 5) rfl)) fun _ q126 => ?_;clear q125
      refine q126.t (.int .i64 (((j : Nat) : Int) - 1)) (ex_bin rfl (q126.e (j := 14) rfl) rfl (sub1D _ _ j (by omega) _)) fun _ q127 => ?_;clear q126
      refine q127.t (.int .i64 (((j : Nat) : Int) - 1)) (ex_assign rfl (q127.e (j := 15) rfl)) fun _ q128 => ?_;clear q127
      have q129 := ((((Rp.nil q128.z).cons (q128.a 3 rfl)).cons (q128.a 4 rfl)).cons (q128.a 5 rfl))
      clear q128
      refine wpList_nil ?_
      exact ⟨_, j, rfl, rfl, t, q129, B4, f4, hR.trans (by rw [hS, hls]; rfl)⟩
  | zero =>
    go_upto_region 5 with fail
    refine wp_region_lit ?_
    refine q100.t (.int .i64 (((0 : Nat) : Int) - 1)) (ex_move rfl (q100.e (j := 5) rfl)) fun _ q101 => ?_;clear q100
    refine q101.t (.bool false) (ex_bin rfl (q101.e (j := 12) rfl) rfl (geqD _ _ 0 false (by simp) _)) fun _ q102 => ?_;clear q101
    refine wpList_nil ?_
    go_upto_region 11 with fail
    refine wp_cond_false (q102.e (j := 13) rfl) ?_
    go_upto_region 11 with fail
    refine wp_region_lit ?_
    refine q102.t (.int .u64 ((r : Nat) : Int)) (ex_move rfl (q102.e (j := 4) rfl)) fun _ q103 => ?_;clear q102
    refine q103.t (.int .u64 ((r % 4294967296 : Nat) : Int)) (ex_bin rfl (q103.e (j := 32) rfl) rfl (remQ _ _ _ 4294967296 (by decide) _)) fun _ q104 => ?_;clear q103
    refine q104.t (.int .u32 ((rootF p : Nat) : Int)) (ex_cv19 rfl (q104.e (j := 33) rfl) (by rw [cvQ_U _ (Nat.mod_lt _ (by decide)), rootF, hR]; rfl)) fun _ q105 => ?_;clear q104
    refine q105.t (.int .u32 ((rootF p : Nat) : Int)) (ex_assign rfl (q105.e (j := 34) rfl)) fun _ q106 => ?_;clear q105
    refine wpList_nil ?_
    go_wp2
    refine bodyPost_ret (results_tmp rfl _ _ _) rfl ⟨?_, br⟩
    rw [getD_of (q106.a 2 rfl)]
    rfl
end Go.Proofs.Ytfafhlahbhopaaa
namespace Go.Proofs.Ytfafhlahbhopaaa
open Go.RowKit Go.Maps
open Classical
def prStep (p : Nat) (l : List Nat) : List Nat := if l.all (fun x => !decide (p % x = 0)) then l ++ [p] else l
def prS : Nat → List Nat
  | 0 => []
  | k + 1 => prStep (k + 2) (prS k)
def prL : List Nat := [2, 3, 5, 7, 11, 13, 17, 19, 23, 29, 31, 37, 41, 43, 47, 53, 59, 61, 67, 71, 73, 79, 83, 89, 97, 101, 103, 107, 109, 113, 127, 131, 137, 139, 149, 151, 157, 163, 167, 173, 179, 181, 191, 193, 197, 199, 211, 223, 227, 229, 233, 239, 241, 251, 257, 263, 269, 271, 277, 281, 283, 293, 307, 311]
theorem prS_310 : prS 310 = prL := by kernel_rfl
theorem prS_309 : (prS 309).length = 63 := by kernel_rfl
theorem tab_k : prL.map (fun p => ((rootF p : Nat) : Int)) = kT9 := by kernel_rfl
end Go.Proofs.Ytfafhlahbhopaaa
namespace Go.Proofs.Ytfafhlahbhopaaa
open Go.RowKit Go.Maps
open Classical
theorem prStep_len (p : Nat) (l : List Nat) : l.length ≤ (prStep p l).length := by
  unfold prStep
  split
  · rw [List.length_append]; omega
  · exact Nat.le_refl _
theorem prS_mono : ∀ {i j : Nat}, i ≤ j → (prS i).length ≤ (prS j).length := fun {i j} h => by
  induction h with
  | refl => exact Nat.le_refl _
  | step _ ih => exact Nat.le_trans ih (prStep_len _ _)
theorem prS_len : ∀ k, (prS k).length ≤ k
  | 0 => Nat.le_refl _
  | k + 1 => by
    have := prS_len k
    show (prStep (k + 2) (prS k)).length ≤ k + 1
    unfold prStep
    split
    · rw [List.length_append]; simp; omega
    · omega
theorem prS_pos : ∀ k, ∀ x ∈ prS k, 0 < x
  | 0, x, h => by cases h
  | k + 1, x, h => by
    change x ∈ prStep (k + 2) (prS k) at h
    unfold prStep at h
    split at h
    · rcases List.mem_append.1 h with h | h
      · exact prS_pos k x h
      · rw [List.mem_singleton.1 h]; omega
    · exact prS_pos k x h
theorem prS_lt {k : Nat} (h : k ≤ 310) : (prS k).length < 64 ↔ k < 310 := by
  constructor
  · intro hl
    rcases Nat.lt_or_ge k 310 with h2 | h2
    · exact h2
    · obtain rfl : k = 310 := by omega
      rw [prS_310] at hl
      exact absurd hl (by decide)
  · intro hk
    have := prS_mono (show k ≤ 309 by omega)
    rw [prS_309] at this
    omega
def okP (l : List Nat) (p i : Nat) : Bool := (l.take i).all (fun x => !decide (p % x = 0))
theorem okP_at {l : List Nat} {p i x : Nat} (h : l[i]? = some x) : okP l p (i + 1) = (okP l p i && !decide (p % x = 0)) := by
  obtain ⟨hj, rfl⟩ := List.getElem?_eq_some_iff.1 h
  unfold okP
  rw [List.take_succ_eq_append_getElem hj, List.all_append]
  simp
def yU9 : Lay Int := ⟨99, 100, 1, 4, fun x => [.int .u32 x], 0⟩
theorem kU9 : yU9.Ok := ⟨by decide, fun x => rfl, fun x u h => by
    simp [yU9] at h
    rw [h]; rfl, Try.underlying100, ⟨.int .u32 0, by kernel_rfl, rfl⟩⟩
theorem bs1Q (x : Nat) (w : World) : (Instr.buildSlice 136 1 #[(0, .int .u64 (x : Int))]).run Try.prog w = .ok (.slice (some ⟨w.heap.size, 0, none⟩) 1 1) (w.alloc (.cells #[.int .u64 (x : Int)] 118)) := by go_simp
theorem bs1U (x : Int) (w : World) : (Instr.buildSlice 100 1 #[(0, .int .u32 x)]).run Try.prog w = .ok (.slice (some ⟨w.heap.size, 0, none⟩) 1 1) (w.alloc (.cells #[.int .u32 x] 99)) := by go_simp
theorem v_loopU {c : Code} {Q : Exit → Act → World → Prop} {T0 : Array Value} {w0 : World} (x N o : Nat) (I : Nat → Array Value → World → Prop) (hx : ∀ j T w, I j T w → T[x]? = some (gw true (.int .u64 ((j + o : Nat) : Int)))) (h0 : I 0 T0 w0)
    (round : ∀ j T w, j ≤ N → I j T w → c.wp Try.prog (Exit.then (fun a' w' => ∃ T', a' = ⟨T', []⟩ ∧ j + 1 ≤ N ∧ I (j + 1) T' w') Q) ⟨T, []⟩ w) : (Code.loop c).wp Try.prog Q ⟨T0, []⟩ w0 := by
  have sl : ∀ {j : Nat} {T : Array Value} {w : World}, I j T w → (intOf (T.getD x undef)).toNat = j + o := fun h => by
    rw [getD_of (hx _ _ _ h)]
    show (intOf (.int .u64 _)).toNat = _
    simp [intOf]
    omega
  refine wp_loop (fun a w => ∃ j T, a = ⟨T, []⟩ ∧ j ≤ N ∧ I j T w) (fun a w => N + o - (intOf (a.tmps.getD x undef)).toNat) ⟨0, T0, rfl, Nat.zero_le _, h0⟩ ?_
  rintro a w ⟨j, T, rfl, hj, hI⟩
  refine Code.wp_mono (fun e a' w' h => ?_) (round j T w hj hI)
  cases e with
  | normal =>
    obtain ⟨T', rfl, hj', hI'⟩ := h
    refine ⟨⟨j + 1, T', rfl, hj', hI'⟩, ?_⟩
    show N + o - (intOf (T'.getD x undef)).toNat < N + o - (intOf (T.getD x undef)).toNat
    rw [sl hI', sl hI]
    omega
  | _ => exact h
set_option maxHeartbeats 2000000 in
theorem primes19 (w : World) :
    Calls Try.prog 86 #[.int .i64 ((64 : Nat) : Int)] w fun e w' => ∃ v, e = .returned v ∧ OwnY yQ9 w.heap.size w' v prL ∧ Below w.heap.size w w' := by
  go_enter Try.func86, Try.ntmps86
  go_upto_region 0 with fail
  refine wp_region_lit ?_
  refine vl_gen (fun T => Rp T 32 [(0, gw true (.int .i64 ((64 : Nat) : Int)))]) ((Rp.nil rfl).cons rfl) (fun Z0 q0 => ?_)
  refine q0.t (.slice none 0 0) (ex_assign rfl rfl) fun _ q1 => ?_;clear q0
  refine wpList_nil ?_
  go_upto_region 1 with fail
  refine wp_region_lit ?_
  refine q1.t (.slice none 0 0) (ex_assign rfl rfl) fun _ q2 => ?_;clear q1
  refine wpList_nil ?_
  go_upto_region 2 with fail
  refine wp_region_lit ?_
  refine q2.t (.int .u64 ((0 + 2 : Nat) : Int)) (ex_assign rfl rfl) fun _ q3 => ?_;clear q2
  have q4 := ((((Rp.nil q3.z).cons (q3.a 0 rfl)).cons (q3.a 3 rfl)).cons (q3.a 4 rfl))
  clear q3
  refine wpList_nil ?_
  go_upto_region 3 with fail
  refine v_loopU 4 310 2 (fun k T wr => ∃ v, Rp T 32 [(4, gw true (.int .u64 ((k + 2 : Nat) : Int))), (3, gw true v), (0, gw true (.int .i64 ((64 : Nat) : Int)))] ∧ Hid (OwnY yQ9 w.heap.size wr v (prS k) ∧ Below w.heap.size w wr)) (fun j T w h => by obtain ⟨v, h, _⟩ := h; exact h.a 4 rfl) ⟨_, q4, OwnY.nil _ _ _, Below.refl _ _⟩ ?_
  clear q4
  intro k T wr hk hh
  obtain ⟨v, q100, HJ⟩ := hh
  obtain ⟨hO, br⟩ := HJ.out
  clear HJ
  have zr := br.size
  have hlen := prS_len k
  obtain ⟨a9, c9, hv9, s9, _⟩ := hO.sl kQ9
  have hlt := prS_lt hk
  by_cases hit : (prS k).length < 64
  · have hk2 := hlt.1 hit
    go_upto_region 3 with fail
    refine wp_region_lit ?_
    refine q100.t (.slice a9 (prS k).length c9) (ex_move rfl ((q100.e (j := 3) rfl).trans hv9)) fun _ q101 => ?_;clear q100
    refine q101.t (.int .i64 (((prS k).length : Nat) : Int)) (ex_lenG rfl rfl Try.underlying136 (q101.e (j := 7) rfl)) fun _ q102 => ?_;clear q101
    refine q102.t (.int .i64 ((64 : Nat) : Int)) (ex_move rfl (q102.e (j := 0) rfl)) fun _ q103 => ?_;clear q102
    refine q103.t (.bool true) (ex_bin rfl (q103.e (j := 8) rfl) (q103.e (j := 9) rfl) (ltT _ _ hit _)) fun _ q104 => ?_;clear q103
    refine wpList_nil ?_
    go_upto_region 5 with fail
    refine wp_cond_true (q104.e (j := 10) rfl) ?_
    go_upto_region 5 with fail
    refine wp_region_lit ?_
    refine q104.t (.bool (okP (prS k) (k + 2) 0)) (ex_assign rfl rfl) fun _ q105 => ?_;clear q104
    refine wpList_nil ?_
    go_upto_region 6 with fail
    refine wp_region_lit ?_
    refine q105.t (.int .i64 ((0 : Nat) : Int)) (ex_assign rfl rfl) fun _ q106 => ?_;clear q105
    have q107 := ((((((Rp.nil q106.z).cons (q106.a 0 rfl)).cons (q106.a 3 rfl)).cons (q106.a 4 rfl)).cons (q106.a 5 rfl)).cons (q106.a 6 rfl))
    clear q106
    refine wpList_nil ?_
    go_upto_region 7 with fail
    refine v_loop 6 (prS k).length (fun i T w9 => Rp T 32 [(6, gw true (.int .i64 ((i : Nat) : Int))), (5, gw true (.bool (okP (prS k) (k + 2) i))), (4, gw true (.int .u64 ((k + 2 : Nat) : Int))), (3, gw true v), (0, gw true (.int .i64 ((64 : Nat) : Int)))] ∧ w9 = wr) (fun j T w h => h.1.a 6 rfl) ⟨q107, rfl⟩ ?_
    clear q107
    intro i T w9 hi hh
    obtain ⟨q200, rfl⟩ := hh
    by_cases hit2 : i < (prS k).length
    · obtain ⟨qa, oa, hqa, hqal, hca⟩ := s9.q9 (j := i) hit2
      obtain ⟨x, hx⟩ : ∃ x, (prS k)[i]? = some x := ⟨_, List.getElem?_eq_getElem hit2⟩
      have hxd : (prS k).getD i 0 = x := by rw [List.getD_eq_getElem?_getD, hx]; rfl
      rw [hxd] at hca
      have hx0 := prS_pos k x (List.mem_of_getElem? hx)
      have hua := okP_at (p := k + 2) hx
      go_upto_region 7 with fail
      refine wp_region_lit ?_
      refine q200.t (.int .i64 ((i : Nat) : Int)) (ex_move rfl (q200.e (j := 6) rfl)) fun _ q201 => ?_;clear q200
      refine q201.t (.slice a9 (prS k).length c9) (ex_move rfl ((q201.e (j := 3) rfl).trans hv9)) fun _ q202 => ?_;clear q201
      refine q202.t (.int .i64 (((prS k).length : Nat) : Int)) (ex_lenG rfl rfl Try.underlying136 (q202.e (j := 14) rfl)) fun _ q203 => ?_;clear q202
      refine q203.t (.bool true) (ex_bin rfl (q203.e (j := 13) rfl) (q203.e (j := 15) rfl) (ltT _ _ hit2 _)) fun _ q204 => ?_;clear q203
      refine wpList_nil ?_
      go_upto_region 9 with fail
      refine wp_cond_true (q204.e (j := 16) rfl) ?_
      go_upto_region 9 with fail
      refine wp_region_lit ?_
      refine q204.t (.int .u64 ((k + 2 : Nat) : Int)) (ex_move rfl (q204.e (j := 4) rfl)) fun _ q205 => ?_;clear q204
      refine q205.t (.slice a9 (prS k).length c9) (ex_move rfl ((q205.e (j := 3) rfl).trans hv9)) fun _ q206 => ?_;clear q205
      refine q206.t (.int .i64 ((i : Nat) : Int)) (ex_move rfl (q206.e (j := 6) rfl)) fun _ q207 => ?_;clear q206
      refine q207.t (.pointer (some ⟨qa, (oa + i), none⟩)) (ex_ix rfl (q207.e (j := 20) rfl) (q207.e (j := 21) rfl) (by rw [hqa]; exact ixQ qa oa (prS k).length c9 i hit2 _)) fun _ q208 => ?_;clear q207
      refine q208.t (.int .u64 ((x : Nat) : Int)) (ex_ld rfl (q208.e (j := 22) rfl) (ldQ hca)) fun _ q209 => ?_;clear q208
      refine q209.t (.int .u64 (((k + 2) % x : Nat) : Int)) (ex_bin rfl (q209.e (j := 19) rfl) (q209.e (j := 23) rfl) (remQ _ _ (k + 2) x hx0 _)) fun _ q210 => ?_;clear q209
      refine q210.t (.bool (decide ((k + 2) % x = 0))) (ex_bin rfl (q210.e (j := 24) rfl) rfl (eqlQ _ _ ((k + 2) % x) 0 _)) fun _ q211 => ?_;clear q210
      have q212 := (((((((Rp.nil q211.z).cons (q211.a 0 rfl)).cons (q211.a 3 rfl)).cons (q211.a 4 rfl)).cons (q211.a 5 rfl)).cons (q211.a 6 rfl)).cons (q211.a 25 rfl))
      clear q211
      refine wpList_nil ?_
      cases hc : decide ((k + 2) % x = 0) with
      | true =>
        have q212x := q212.a 25 rfl
        rw [hc] at q212x
        rw [hc, Bool.not_true, Bool.and_false] at hua
        go_upto_region 10 with fail
        refine wp_cond_true (ev q212x rfl) ?_
        clear q212x
        go_upto_region 10 with fail
        refine wp_region_lit ?_
        refine q212.t (.bool (okP (prS k) (k + 2) (i + 1))) (ex_assign rfl (by rw [hua]; rfl)) fun _ q213 => ?_;clear q212
        have q214 := ((((((Rp.nil q213.z).cons (q213.a 0 rfl)).cons (q213.a 3 rfl)).cons (q213.a 4 rfl)).cons (q213.a 5 rfl)).cons (q213.a 6 rfl))
        clear q213
        refine wpList_nil ?_
        go_upto_region 8 with fail
        refine wp_region_lit ?_
        refine q214.t (.int .i64 ((i : Nat) : Int)) (ex_move rfl (q214.e (j := 6) rfl)) fun _ q215 => ?_;clear q214
        refine q215.t (.int .i64 ((i + 1 : Nat) : Int)) (ex_bin rfl (q215.e (j := 17) rfl) rfl (add1C _ _ i (by omega) _)) fun _ q216 => ?_;clear q215
        refine q216.t (.int .i64 ((i + 1 : Nat) : Int)) (ex_assign rfl (q216.e (j := 18) rfl)) fun _ q217 => ?_;clear q216
        have q218 := ((((((Rp.nil q217.z).cons (q217.a 0 rfl)).cons (q217.a 3 rfl)).cons (q217.a 4 rfl)).cons (q217.a 5 rfl)).cons (q217.a 6 rfl))
        clear q217
        refine wpList_nil ?_
        exact ⟨_, rfl, hit2, q218, rfl⟩
      | false =>
        have q212x := q212.a 25 rfl
        rw [hc] at q212x
        rw [hc, Bool.not_false, Bool.and_true] at hua
        rw [← hua] at q212
        go_upto_region 8 with fail
        refine wp_cond_false (ev q212x rfl) ?_
        clear q212x
        go_upto_region 8 with fail
        refine wp_region_lit ?_
        refine q212.t (.int .i64 ((i : Nat) : Int)) (ex_move rfl (q212.e (j := 6) rfl)) fun _ q213 => ?_;clear q212
        refine q213.t (.int .i64 ((i + 1 : Nat) : Int)) (ex_bin rfl (q213.e (j := 17) rfl) rfl (add1C _ _ i (by omega) _)) fun _ q214 => ?_;clear q213
        refine q214.t (.int .i64 ((i + 1 : Nat) : Int)) (ex_assign rfl (q214.e (j := 18) rfl)) fun _ q215 => ?_;clear q214
        have q216 := ((((((Rp.nil q215.z).cons (q215.a 0 rfl)).cons (q215.a 3 rfl)).cons (q215.a 4 rfl)).cons (q215.a 5 rfl)).cons (q215.a 6 rfl))
        clear q215
        refine wpList_nil ?_
        exact ⟨_, rfl, hit2, q216, rfl⟩
    · obtain rfl : i = (prS k).length := by omega
      go_upto_region 7 with fail
      refine wp_region_lit ?_
      refine q200.t (.int .i64 (((prS k).length : Nat) : Int)) (ex_move rfl (q200.e (j := 6) rfl)) fun _ q201 => ?_;clear q200
      refine q201.t (.slice a9 (prS k).length c9) (ex_move rfl ((q201.e (j := 3) rfl).trans hv9)) fun _ q202 => ?_;clear q201
      refine q202.t (.int .i64 (((prS k).length : Nat) : Int)) (ex_lenG rfl rfl Try.underlying136 (q202.e (j := 14) rfl)) fun _ q203 => ?_;clear q202
      refine q203.t (.bool false) (ex_bin rfl (q203.e (j := 13) rfl) (q203.e (j := 15) rfl) (ltF _ _ hit2 _)) fun _ q204 => ?_;clear q203
      refine wpList_nil ?_
      go_upto_region 11 with fail
      refine wp_cond_false (q204.e (j := 16) rfl) ?_
      have q205 := (((((Rp.nil q204.z).cons (q204.a 0 rfl)).cons (q204.a 3 rfl)).cons (q204.a 4 rfl)).cons (q204.a 5 rfl))
      clear q204
      have hfull : okP (prS k) (k + 2) (prS k).length = (prS k).all (fun x => !decide ((k + 2) % x = 0)) := by unfold okP; rw [List.take_length]
      rw [hfull] at q205
      go_upto_region 11 with fail
      refine wp_region_lit ?_
      refine q205.t (.bool ((prS k).all (fun x => !decide ((k + 2) % x = 0)))) (ex_move rfl (q205.e (j := 5) rfl)) fun _ q206 => ?_;clear q205
      have q207 := (((((Rp.nil q206.z).cons (q206.a 0 rfl)).cons (q206.a 3 rfl)).cons (q206.a 4 rfl)).cons (q206.a 26 rfl))
      clear q206
      refine wpList_nil ?_
      cases hal : (prS k).all (fun x => !decide ((k + 2) % x = 0)) with
      | true =>
        have q207x := q207.a 26 rfl
        rw [hal] at q207x
        have hS : prS (k + 1) = prS k ++ [k + 2] := by show prStep (k + 2) (prS k) = _; unfold prStep; rw [if_pos hal]
        go_upto_region 12 with fail
        refine wp_cond_true (ev q207x rfl) ?_
        clear q207x
        go_upto_region 12 with fail
        refine wp_region_lit ?_
        refine q207.t (v) (ex_move rfl (q207.e (j := 3) rfl)) fun _ q208 => ?_;clear q207
        refine q208.t (.int .u64 ((k + 2 : Nat) : Int)) (ex_move rfl (q208.e (j := 4) rfl)) fun _ q209 => ?_;clear q208
        obtain ⟨r5, hr5⟩ : ∃ z, z = w9.alloc (.cells #[.int .u64 ((k + 2 : Nat) : Int)] 118) := ⟨_, rfl⟩
        refine vw (.slice (some ⟨w9.heap.size, 0, none⟩) 1 1) r5 (want_none rfl) (ex_bs18 rfl (q209.e (j := 28) rfl) (by rw [hr5]; exact bs1Q _ _)) rfl q209.z (by decide) (q209.k fun _ q210 => ?_);clear q209
        have s5 : SlY yQ9 r5 (some ⟨w9.heap.size, 0, none⟩) 1 1 [k + 2] := by rw [hr5]; exact sl_box (Y := yQ9) w9 (k + 2) 118
        have b5 : Below w9.heap.size w9 r5 := by rw [hr5]; exact (Below.refl _ _).alloc (Nat.le_refl _) _
        clear hr5
        have y5 := b5.size
        obtain ⟨v6, r6, ha6, o6, g6, _⟩ := run_appY kQ9 r5 136 w.heap.size _ v _ 1 1 [k + 2] s5 (hO.grow b5) (by omega) (by unfold maxLen; omega) (by show ((prS k).length + 1) * 8 ≤ _; omega)
        have b6 : Below w.heap.size w r6 := (br.trans (b5.mono (by omega))).grown g6 (by omega) (fun k hk => (hO.blk k hk).1)
        rw [← hS] at o6
        refine vw (v6) r6 (want_none rfl) (ex_app18 rfl (q210.e (j := 27) rfl) (q210.e (j := 29) rfl) ha6) rfl q210.z (by decide) (q210.k fun _ q211 => ?_);clear q210
        refine q211.t (v6) (ex_assign rfl (q211.e (j := 30) rfl)) fun _ q212 => ?_;clear q211
        have q213 := ((((Rp.nil q212.z).cons (q212.a 0 rfl)).cons (q212.a 3 rfl)).cons (q212.a 4 rfl))
        clear q212
        refine wpList_nil ?_
        go_upto_region 4 with fail
        refine wp_region_lit ?_
        refine q213.t (.int .u64 ((k + 2 : Nat) : Int)) (ex_move rfl (q213.e (j := 4) rfl)) fun _ q214 => ?_;clear q213
        refine q214.t (.int .u64 ((k + 1 + 2 : Nat) : Int)) (ex_bin (Y := .int .u64 ((1 : Nat) : Int)) rfl (q214.e (j := 11) rfl) rfl (by rw [addQ9]; rw [show (k + 2 + 1) % 18446744073709551616 = k + 1 + 2 by omega])) fun _ q215 => ?_;clear q214
        refine q215.t (.int .u64 ((k + 1 + 2 : Nat) : Int)) (ex_assign rfl (q215.e (j := 12) rfl)) fun _ q216 => ?_;clear q215
        have q217 := ((((Rp.nil q216.z).cons (q216.a 0 rfl)).cons (q216.a 3 rfl)).cons (q216.a 4 rfl))
        clear q216
        refine wpList_nil ?_
        exact ⟨_, rfl, hk2, v6, q217, o6, b6⟩
      | false =>
        have q207x := q207.a 26 rfl
        rw [hal] at q207x
        have hS : prS (k + 1) = prS k := by show prStep (k + 2) (prS k) = _; unfold prStep; rw [if_neg (by rw [hal]; simp)]
        rw [← hS] at hO
        go_upto_region 4 with fail
        refine wp_cond_false (ev q207x rfl) ?_
        clear q207x
        go_upto_region 4 with fail
        refine wp_region_lit ?_
        refine q207.t (.int .u64 ((k + 2 : Nat) : Int)) (ex_move rfl (q207.e (j := 4) rfl)) fun _ q208 => ?_;clear q207
        refine q208.t (.int .u64 ((k + 1 + 2 : Nat) : Int)) (ex_bin (Y := .int .u64 ((1 : Nat) : Int)) rfl (q208.e (j := 11) rfl) rfl (by rw [addQ9]; rw [show (k + 2 + 1) % 18446744073709551616 = k + 1 + 2 by omega])) fun _ q209 => ?_;clear q208
        refine q209.t (.int .u64 ((k + 1 + 2 : Nat) : Int)) (ex_assign rfl (q209.e (j := 12) rfl)) fun _ q210 => ?_;clear q209
        have q211 := ((((Rp.nil q210.z).cons (q210.a 0 rfl)).cons (q210.a 3 rfl)).cons (q210.a 4 rfl))
        clear q210
        refine wpList_nil ?_
        exact ⟨_, rfl, hk2, v, q211, hO, br⟩
  · obtain rfl : k = 310 := by have := fun h => hit (hlt.2 h); omega
    rw [prS_310] at hO
    go_upto_region 3 with fail
    refine wp_region_lit ?_
    refine q100.t (.slice a9 (prS 310).length c9) (ex_move rfl ((q100.e (j := 3) rfl).trans hv9)) fun _ q101 => ?_;clear q100
    refine q101.t (.int .i64 (((prS 310).length : Nat) : Int)) (ex_lenG rfl rfl Try.underlying136 (q101.e (j := 7) rfl)) fun _ q102 => ?_;clear q101
    refine q102.t (.int .i64 ((64 : Nat) : Int)) (ex_move rfl (q102.e (j := 0) rfl)) fun _ q103 => ?_;clear q102
    refine q103.t (.bool false) (ex_bin rfl (q103.e (j := 8) rfl) (q103.e (j := 9) rfl) (ltF _ _ hit _)) fun _ q104 => ?_;clear q103
    refine wpList_nil ?_
    go_upto_region 13 with fail
    refine wp_cond_false (q104.e (j := 10) rfl) ?_
    go_upto_region 13 with fail
    refine wp_region_lit ?_
    refine q104.t (v) (ex_move rfl (q104.e (j := 3) rfl)) fun _ q105 => ?_;clear q104
    refine q105.t (v) (ex_assign rfl (q105.e (j := 31) rfl)) fun _ q106 => ?_;clear q105
    refine wpList_nil ?_
    go_wp2
    refine bodyPost_ret (results_tmp rfl _ _ _) rfl ⟨v, ?_, hO, br⟩
    rw [getD_of (q106.a 2 rfl)]
    rfl
set_option maxHeartbeats 2000000 in
theorem table19 (w : World) :
    Calls Try.prog 67 #[] w fun e w' => ∃ v, e = .returned v ∧ OwnY yU9 w.heap.size w' v kT9 ∧ Below w.heap.size w w' := by
  go_enter Try.func67, Try.ntmps67
  go_upto_region 0 with fail
  refine wp_region_lit ?_
  refine vl_gen (fun T => Rp T 18 []) (Rp.nil rfl) (fun Z0 q0 => ?_)
  refine q0.t (.slice none 0 0) (ex_assign rfl rfl) fun _ q1 => ?_;clear q0
  refine wpList_nil ?_
  go_upto_region 1 with fail
  refine wp_region_lit ?_
  refine vcallP (want_none rfl) (ex_call (args := #[.int .i64 ((64 : Nat) : Int)]) rfl (by simp only [List.map_toArray, List.map_cons, List.map_nil, evc] <;> rfl) rfl) (primes19 w) rfl q1.z (by decide) ?_
  rintro e w1 ⟨v1, rfl, O1, b1⟩
  refine ⟨_, rfl, q1.k fun _ q2 => ?_⟩;clear q1
  have z1 := b1.size
  obtain ⟨a9, c9, hv9, s9, _⟩ := O1.sl kQ9
  refine q2.t (v1) (ex_assign rfl (q2.e (j := 4) rfl)) fun _ q3 => ?_;clear q2
  refine wpList_nil ?_
  go_upto_region 2 with fail
  refine wp_region_lit ?_
  refine q3.t (.slice none 0 0) (ex_assign rfl rfl) fun _ q4 => ?_;clear q3
  refine wpList_nil ?_
  go_upto_region 3 with fail
  refine wp_region_lit ?_
  refine q4.t (.int .i64 ((0 : Nat) : Int)) (ex_assign rfl rfl) fun _ q5 => ?_;clear q4
  have q6 := ((((Rp.nil q5.z).cons (q5.a 1 rfl)).cons (q5.a 2 rfl)).cons (q5.a 3 rfl))
  clear q5
  refine wpList_nil ?_
  go_upto_region 4 with fail
  refine v_loop 3 64 (fun j T wr => ∃ v, Rp T 18 [(3, gw true (.int .i64 ((j : Nat) : Int))), (2, gw true v), (1, gw true v1)] ∧ Hid (OwnY yU9 w1.heap.size wr v ((prL.take j).map (fun p => ((rootF p : Nat) : Int))) ∧ Below w1.heap.size w1 wr)) (fun j T w h => by obtain ⟨v, h, _⟩ := h; exact h.a 3 rfl) ⟨_, q6, OwnY.nil _ _ _, Below.refl _ _⟩ ?_
  clear q6
  intro j T wr hj hh
  obtain ⟨v, q100, HJ⟩ := hh
  obtain ⟨hO, br⟩ := HJ.out
  clear HJ
  have zr := br.size
  by_cases hit : j < 64
  · have hpl : prL.length = 64 := rfl
    obtain ⟨x, hx⟩ : ∃ x, prL[j]? = some x := ⟨_, List.getElem?_eq_getElem (by omega)⟩
    obtain ⟨qa, oa, hqa, hqal, hca⟩ := (s9.on br (Nat.le_refl _)).q9 (j := j) (by omega)
    have hxd : prL.getD j 0 = x := by rw [List.getD_eq_getElem?_getD, hx]; rfl
    rw [hxd] at hca
    have hua : ((prL.take (j + 1)).map (fun p => ((rootF p : Nat) : Int))) = ((prL.take j).map (fun p => ((rootF p : Nat) : Int))) ++ [((rootF x : Nat) : Int)] := by
      obtain ⟨hj2, hx2⟩ := List.getElem?_eq_some_iff.1 hx
      rw [List.take_succ_eq_append_getElem hj2, List.map_append, hx2]
      rfl
    have hul : (((prL.take j).map (fun p => ((rootF p : Nat) : Int)))).length ≤ 64 := by rw [List.length_map, List.length_take]; omega
    go_upto_region 4 with fail
    refine wp_region_lit ?_
    refine q100.t (.int .i64 ((j : Nat) : Int)) (ex_move rfl (q100.e (j := 3) rfl)) fun _ q101 => ?_;clear q100
    refine q101.t (.bool true) (ex_bin rfl (q101.e (j := 5) rfl) rfl (ltT _ _ hit _)) fun _ q102 => ?_;clear q101
    refine wpList_nil ?_
    go_upto_region 6 with fail
    refine wp_cond_true (q102.e (j := 6) rfl) ?_
    go_upto_region 6 with fail
    refine wp_region_lit ?_
    refine q102.t (v) (ex_move rfl (q102.e (j := 2) rfl)) fun _ q103 => ?_;clear q102
    refine q103.t (.slice a9 prL.length c9) (ex_move rfl ((q103.e (j := 1) rfl).trans hv9)) fun _ q104 => ?_;clear q103
    refine q104.t (.int .i64 ((j : Nat) : Int)) (ex_move rfl (q104.e (j := 3) rfl)) fun _ q105 => ?_;clear q104
    refine q105.t (.pointer (some ⟨qa, (oa + j), none⟩)) (ex_ix rfl (q105.e (j := 10) rfl) (q105.e (j := 11) rfl) (by rw [hqa]; exact ixQ qa oa prL.length c9 j (by omega) _)) fun _ q106 => ?_;clear q105
    refine q106.t (.int .u64 ((x : Nat) : Int)) (ex_ld rfl (q106.e (j := 12) rfl) (ldQ hca)) fun _ q107 => ?_;clear q106
    refine vcallP (want_none rfl) (ex_call rfl (by simp only [List.map_toArray, List.map_cons, List.map_nil, (q107.e (j := 13) rfl), evc] <;> rfl) rfl) (root19 x wr) rfl q107.z (by decide) ?_
    rintro e r4 ⟨rfl, b4⟩
    refine ⟨_, rfl, q107.k fun _ q108 => ?_⟩;clear q107
    have f4 : Below w1.heap.size w1 r4 := br.trans (b4.mono zr)
    have O4 := hO.grow b4
    have y4 := f4.size
    obtain ⟨r5, hr5⟩ : ∃ z, z = r4.alloc (.cells #[.int .u32 ((rootF x : Nat) : Int)] 99) := ⟨_, rfl⟩
    refine vw (.slice (some ⟨r4.heap.size, 0, none⟩) 1 1) r5 (want_none rfl) (ex_bs18 rfl (q108.e (j := 14) rfl) (by rw [hr5]; exact bs1U _ _)) rfl q108.z (by decide) (q108.k fun _ q109 => ?_);clear q108
    have s5 : SlY yU9 r5 (some ⟨r4.heap.size, 0, none⟩) 1 1 [((rootF x : Nat) : Int)] := by rw [hr5]; exact sl_box (Y := yU9) r4 ((rootF x : Nat) : Int) 99
    have b5 : Below r4.heap.size r4 r5 := by rw [hr5]; exact (Below.refl _ _).alloc (Nat.le_refl _) _
    clear hr5
    have y5 := b5.size
    obtain ⟨v6, r6, ha6, o6, g6, _⟩ := run_appY kU9 r5 100 w1.heap.size _ v _ 1 1 [((rootF x : Nat) : Int)] s5 (O4.grow b5) (by omega) (by unfold maxLen; omega) (by show ((((prL.take j).map (fun p => ((rootF p : Nat) : Int)))).length + 1) * 4 ≤ _; omega)
    have b6 : Below w1.heap.size w1 r6 := (f4.trans (b5.mono (by omega))).grown g6 (by omega) (fun k hk => (hO.blk k hk).1)
    rw [← hua] at o6
    refine vw (v6) r6 (want_none rfl) (ex_app18 rfl (q109.e (j := 9) rfl) (q109.e (j := 15) rfl) ha6) rfl q109.z (by decide) (q109.k fun _ q110 => ?_);clear q109
    refine q110.t (v6) (ex_assign rfl (q110.e (j := 16) rfl)) fun _ q111 => ?_;clear q110
    have q112 := ((((Rp.nil q111.z).cons (q111.a 1 rfl)).cons (q111.a 2 rfl)).cons (q111.a 3 rfl))
    clear q111
    refine wpList_nil ?_
    go_upto_region 5 with fail
    refine wp_region_lit ?_
    refine q112.t (.int .i64 ((j : Nat) : Int)) (ex_move rfl (q112.e (j := 3) rfl)) fun _ q113 => ?_;clear q112
    refine q113.t (.int .i64 ((j + 1 : Nat) : Int)) (ex_bin rfl (q113.e (j := 7) rfl) rfl (add1C _ _ j (by omega) _)) fun _ q114 => ?_;clear q113
    refine q114.t (.int .i64 ((j + 1 : Nat) : Int)) (ex_assign rfl (q114.e (j := 8) rfl)) fun _ q115 => ?_;clear q114
    have q116 := ((((Rp.nil q115.z).cons (q115.a 1 rfl)).cons (q115.a 2 rfl)).cons (q115.a 3 rfl))
    clear q115
    refine wpList_nil ?_
    exact ⟨_, rfl, hit, v6, q116, o6, b6⟩
  · obtain rfl : j = 64 := by omega
    have hK : ((prL.take 64).map (fun p => ((rootF p : Nat) : Int))) = kT9 := by rw [List.take_of_length_le (show prL.length ≤ 64 from Nat.le_refl _)]; exact tab_k
    rw [hK] at hO
    go_upto_region 4 with fail
    refine wp_region_lit ?_
    refine q100.t (.int .i64 ((64 : Nat) : Int)) (ex_move rfl (q100.e (j := 3) rfl)) fun _ q101 => ?_;clear q100
    refine q101.t (.bool false) (ex_bin rfl (q101.e (j := 5) rfl) rfl (ltF _ _ hit _)) fun _ q102 => ?_;clear q101
    refine wpList_nil ?_
    go_upto_region 7 with fail
    refine wp_cond_false (q102.e (j := 6) rfl) ?_
    go_upto_region 7 with fail
    refine wp_region_lit ?_
    refine q102.t (v) (ex_move rfl (q102.e (j := 2) rfl)) fun _ q103 => ?_;clear q102
    refine q103.t (v) (ex_assign rfl (q103.e (j := 17) rfl)) fun _ q104 => ?_;clear q103
    refine wpList_nil ?_
    go_wp2
    refine bodyPost_ret (results_tmp rfl _ _ _) rfl ⟨v, ?_, hO.low z1, b1.trans (br.mono z1)⟩
    rw [getD_of (q104.a 0 rfl)]
    rfl
end Go.Proofs.Ytfafhlahbhopaaa
namespace Go.Proofs.Ytfafhlahbhopaaa
open Go.RowKit Go.Maps
open Classical
theorem v_loopX {c : Code} {Q : Exit → Act → World → Prop} {T0 : Array Value} {w0 : World} (M : Array Value → Nat) (N : Nat) (I : Nat → Array Value → World → Prop) (hM : ∀ j T w, I j T w → M T = N - j) (h0 : I 0 T0 w0)
    (round : ∀ j T w, j ≤ N → I j T w → c.wp Try.prog (Exit.then (fun a' w' => ∃ T', a' = ⟨T', []⟩ ∧ j + 1 ≤ N ∧ I (j + 1) T' w') Q) ⟨T, []⟩ w) : (Code.loop c).wp Try.prog Q ⟨T0, []⟩ w0 := by
  refine wp_loop (fun a w => ∃ j T, a = ⟨T, []⟩ ∧ j ≤ N ∧ I j T w) (fun a w => M a.tmps) ⟨0, T0, rfl, Nat.zero_le _, h0⟩ ?_
  rintro a w ⟨j, T, rfl, hj, hI⟩
  refine Code.wp_mono (fun e a' w' h => ?_) (round j T w hj hI)
  cases e with
  | normal =>
    obtain ⟨T', rfl, hj', hI'⟩ := h
    refine ⟨⟨j + 1, T', rfl, hj', hI'⟩, ?_⟩
    show M T' < M T
    rw [hM _ _ _ hI', hM _ _ _ hI]
    omega
  | _ => exact h
theorem neqI (x y : Operand) (a k : Nat) (b : Bool) (h : (!decide (a = k)) = b) (w : World) : (do eqGuard .neq 3 x y (.int .i64 ((a : Nat) : Int)) (.int .i64 ((k : Nat) : Int)); binOp .neq 3 (.int .i64 ((a : Nat) : Int)) (.int .i64 ((k : Nat) : Int)) : Sem Value).run Try.prog w = .ok (.bool b) w := by
  rw [neqC, ← h]
  congr 3
  by_cases e : a = k
  · rw [decide_eq_true e, decide_eq_true (by omega)]
  · rw [decide_eq_false e, decide_eq_false (by omega)]
theorem lenB_at (k : Nat) (j : Nat) (hj : j < 8) : (lenB k).take (8 - j) = (lenB k).take (8 - (j + 1)) ++ [IntKind.u8.wrap (IntKind.u64.wrap (IntKind.u64.wrap (k : Int) * 8) / 2 ^ (8 * j))] := by
  have hl : (lenB k).length = 8 := by simp [lenB]
  rw [show 8 - j = (8 - (j + 1)) + 1 by omega, List.take_succ_eq_append_getElem (by omega)]
  congr 2
  simp only [lenB, List.getElem_map, List.getElem_range]
  rw [show 56 - 8 * (8 - (j + 1)) = 8 * j by omega]
set_option maxHeartbeats 2000000 in
theorem filled19 (b : List Int) (a : Option Addr) (c : Nat) (w : World) (h : SlY yB9 w a b.length c b) (hl : b.length ≤ 140737488352232) :
    Calls Try.prog 66 #[.slice a b.length c] w fun e w' => ∃ v, e = .returned v ∧ OwnY yB9 w.heap.size w' v (b ++ fill b.length) ∧ Below w.heap.size w w' := by
  go_enter Try.func66, Try.ntmps66
  go_upto_region 0 with fail
  refine wp_region_lit ?_
  refine vl_gen (fun T => Rp T 37 [(0, gw true (.slice a b.length c))]) ((Rp.nil rfl).cons rfl) (fun Z0 q0 => ?_)
  have hzr : zr b.length < 64 := Nat.mod_lt _ (by decide)
  refine q0.t (.slice none 0 0) (ex_assign rfl rfl) fun _ q1 => ?_;clear q0
  refine wpList_nil ?_
  go_upto_region 1 with fail
  refine wp_region_lit ?_
  refine q1.t (.slice none 0 0) (ex_assign rfl rfl) fun _ q2 => ?_;clear q1
  refine wpList_nil ?_
  go_upto_region 2 with fail
  refine wp_region_lit ?_
  refine q2.t (.slice none 0 0) (ex_move rfl (q2.e (j := 3) rfl)) fun _ q3 => ?_;clear q2
  refine q3.t (.slice a b.length c) (ex_move rfl (q3.e (j := 0) rfl)) fun _ q4 => ?_;clear q3
  obtain ⟨v1, w1, ha1, o1, g1, _⟩ := run_appY kB9 w 71 w.heap.size [] (.slice none 0 0) a b.length c b h (OwnY.nil _ _ _) (Nat.le_refl _) (by unfold maxLen; simp; omega) (by show (([] : List Int).length + b.length) * 1 ≤ _; simp; omega)
  rw [List.nil_append] at o1
  have b1 : Below w.heap.size w w1 := (Below.refl _ _).grown g1 (Nat.le_refl _) (fun k hk => by cases hk)
  have z1 := b1.size
  refine vw (v1) w1 (want_none rfl) (ex_app18 rfl (q4.e (j := 6) rfl) (q4.e (j := 7) rfl) ha1) rfl q4.z (by decide) (q4.k fun _ q5 => ?_);clear q4
  refine q5.t (v1) (ex_assign rfl (q5.e (j := 8) rfl)) fun _ q6 => ?_;clear q5
  have q7 := (((Rp.nil q6.z).cons (q6.a 0 rfl)).cons (q6.a 3 rfl))
  clear q6
  refine wpList_nil ?_
  go_upto_region 3 with fail
  refine wp_region_lit ?_
  refine q7.t (v1) (ex_move rfl (q7.e (j := 3) rfl)) fun _ q8 => ?_;clear q7
  obtain ⟨s2, hs2⟩ : ∃ y, y = w1.alloc (.cells (([128] : List Int).map bV).toArray 5) := ⟨_, rfl⟩
  refine vw (.slice (some ⟨w1.heap.size, 0, none⟩) 1 1) s2 (want_none rfl) (ex_bs18 rfl rfl (by rw [hs2]; exact bs1B _ _)) rfl q8.z (by decide) (q8.k fun _ q9 => ?_);clear q8
  have t2 : SlY yB9 s2 (some ⟨w1.heap.size, 0, none⟩) 1 1 [128] := by rw [hs2]; exact slM w1 [128] _ _ (by unfold maxLen; simp)
  have e2 : Below w1.heap.size w1 s2 := by rw [hs2]; exact (Below.refl _ _).alloc (Nat.le_refl _) _
  clear hs2
  have y2 := e2.size
  obtain ⟨v2, w2, ha2, o2, g2, _⟩ := run_appY kB9 s2 71 w.heap.size (b) v1 _ 1 1 [128] t2 (o1.grow e2) (by omega) (by unfold maxLen; first | omega | (simp only [List.length_append, List.length_replicate, List.length_cons, List.length_nil, List.length_take]; omega)) (by show ((b).length + 1) * 1 ≤ _; first | omega | (simp only [List.length_append, List.length_replicate, List.length_cons, List.length_nil, List.length_take]; omega))
  have b2 : Below w.heap.size w w2 := (b1.trans (e2.mono b1.size)).grown g2 (by omega) (fun k hk => (o1.blk k hk).1)
  have z2 := b2.size
  refine vw (v2) w2 (want_none rfl) (ex_app18 rfl (q9.e (j := 9) rfl) (q9.e (j := 10) rfl) ha2) rfl q9.z (by decide) (q9.k fun _ q10 => ?_);clear q9
  refine q10.t (v2) (ex_assign rfl (q10.e (j := 11) rfl)) fun _ q11 => ?_;clear q10
  have q12 := (((Rp.nil q11.z).cons (q11.a 0 rfl)).cons (q11.a 3 rfl))
  clear q11
  refine wpList_nil ?_
  go_upto_region 4 with fail
  have o2 : OwnY yB9 w.heap.size w2 v2 (b ++ [128] ++ List.replicate 0 0) := by rw [List.replicate_zero, List.append_nil]; exact o2
  refine v_loopX (fun T => b.length + 1 + zr b.length - lenV (T.getD 3 undef)) (zr b.length) (fun j T wr => ∃ v, Rp T 37 [(3, gw true v), (0, gw true (.slice a b.length c))] ∧ Hid (OwnY yB9 w.heap.size wr v (b ++ [128] ++ List.replicate j 0) ∧ Below w.heap.size w wr)) (fun j T w hh => by
    obtain ⟨v, hr, hH⟩ := hh
    obtain ⟨a9, c9, hv9, _⟩ := hH.out.1.form
    rw [hr.get rfl, hv9]
    simp only [lenV, List.length_append, List.length_replicate, List.length_cons, List.length_nil]
    omega) ⟨v2, q12, o2, b2⟩ ?_
  clear q12 o2 b2
  intro j T wr hj hh
  obtain ⟨v, q100, HJ⟩ := hh
  obtain ⟨hO, br⟩ := HJ.out
  clear HJ
  have zr2 := br.size
  obtain ⟨a9, c9, hv9, _⟩ := hO.sl kB9
  have hln : (b ++ [128] ++ List.replicate j 0).length = b.length + 1 + j := by simp only [List.length_append, List.length_replicate, List.length_cons, List.length_nil]
  have hzd : zr b.length = (119 - b.length % 64) % 64 := rfl
  by_cases hit : j < zr b.length
  · go_upto_region 4 with fail
    refine wp_region_lit ?_
    refine q100.t (.slice a9 (b ++ [128] ++ List.replicate j 0).length c9) (ex_move rfl ((q100.e (j := 3) rfl).trans hv9)) fun _ q101 => ?_;clear q100
    refine q101.t (.int .i64 (((b ++ [128] ++ List.replicate j 0).length : Nat) : Int)) (ex_lenG rfl rfl Try.underlying71 (q101.e (j := 12) rfl)) fun _ q102 => ?_;clear q101
    refine q102.t (.int .i64 (((b ++ [128] ++ List.replicate j 0).length % 64 : Nat) : Int)) (ex_bin rfl (q102.e (j := 13) rfl) rfl (remC _ _ _ 64 (by decide) (by rw [hln]; omega) _)) fun _ q103 => ?_;clear q102
    refine q103.t (.bool true) (ex_bin rfl (q103.e (j := 14) rfl) rfl (neqI _ _ _ 56 true (by rw [hln]; rw [decide_eq_false (by omega)]; rfl) _)) fun _ q104 => ?_;clear q103
    refine wpList_nil ?_
    go_upto_region 5 with fail
    refine wp_cond_true (q104.e (j := 15) rfl) ?_
    go_upto_region 5 with fail
    refine wp_region_lit ?_
    refine q104.t (v) (ex_move rfl (q104.e (j := 3) rfl)) fun _ q105 => ?_;clear q104
    obtain ⟨s3, hs3⟩ : ∃ y, y = wr.alloc (.cells (([0] : List Int).map bV).toArray 5) := ⟨_, rfl⟩
    refine vw (.slice (some ⟨wr.heap.size, 0, none⟩) 1 1) s3 (want_none rfl) (ex_bs18 rfl rfl (by rw [hs3]; exact bs1B _ _)) rfl q105.z (by decide) (q105.k fun _ q106 => ?_);clear q105
    have t3 : SlY yB9 s3 (some ⟨wr.heap.size, 0, none⟩) 1 1 [0] := by rw [hs3]; exact slM wr [0] _ _ (by unfold maxLen; simp)
    have e3 : Below wr.heap.size wr s3 := by rw [hs3]; exact (Below.refl _ _).alloc (Nat.le_refl _) _
    clear hs3
    have y3 := e3.size
    obtain ⟨v3, w3, ha3, o3, g3, _⟩ := run_appY kB9 s3 71 w.heap.size (b ++ [128] ++ List.replicate j 0) v _ 1 1 [0] t3 (hO.grow e3) (by omega) (by unfold maxLen; first | omega | (simp only [List.length_append, List.length_replicate, List.length_cons, List.length_nil, List.length_take]; omega)) (by show ((b ++ [128] ++ List.replicate j 0).length + 1) * 1 ≤ _; first | omega | (simp only [List.length_append, List.length_replicate, List.length_cons, List.length_nil, List.length_take]; omega))
    have b3 : Below w.heap.size w w3 := (br.trans (e3.mono br.size)).grown g3 (by omega) (fun k hk => (hO.blk k hk).1)
    have z3 := b3.size
    refine vw (v3) w3 (want_none rfl) (ex_app18 rfl (q106.e (j := 16) rfl) (q106.e (j := 17) rfl) ha3) rfl q106.z (by decide) (q106.k fun _ q107 => ?_);clear q106
    refine q107.t (v3) (ex_assign rfl (q107.e (j := 18) rfl)) fun _ q108 => ?_;clear q107
    have q109 := (((Rp.nil q108.z).cons (q108.a 0 rfl)).cons (q108.a 3 rfl))
    clear q108
    refine wpList_nil ?_
    have o3 : OwnY yB9 w.heap.size w3 v3 (b ++ [128] ++ List.replicate (j + 1) 0) := by rw [List.replicate_succ', ← List.append_assoc]; exact o3
    exact ⟨_, rfl, hit, v3, q109, o3, b3⟩
  · obtain rfl : j = zr b.length := by omega
    go_upto_region 4 with fail
    refine wp_region_lit ?_
    refine q100.t (.slice a9 (b ++ [128] ++ List.replicate (zr b.length) 0).length c9) (ex_move rfl ((q100.e (j := 3) rfl).trans hv9)) fun _ q101 => ?_;clear q100
    refine q101.t (.int .i64 (((b ++ [128] ++ List.replicate (zr b.length) 0).length : Nat) : Int)) (ex_lenG rfl rfl Try.underlying71 (q101.e (j := 12) rfl)) fun _ q102 => ?_;clear q101
    refine q102.t (.int .i64 (((b ++ [128] ++ List.replicate (zr b.length) 0).length % 64 : Nat) : Int)) (ex_bin rfl (q102.e (j := 13) rfl) rfl (remC _ _ _ 64 (by decide) (by rw [hln]; omega) _)) fun _ q103 => ?_;clear q102
    refine q103.t (.bool false) (ex_bin rfl (q103.e (j := 14) rfl) rfl (neqI _ _ _ 56 false (by rw [hln]; rw [decide_eq_true (by omega)]; rfl) _)) fun _ q104 => ?_;clear q103
    refine wpList_nil ?_
    go_upto_region 6 with fail
    refine wp_cond_false (q104.e (j := 15) rfl) ?_
    go_upto_region 6 with fail
    refine wp_region_lit ?_
    refine q104.t (.slice a b.length c) (ex_move rfl (q104.e (j := 0) rfl)) fun _ q105 => ?_;clear q104
    refine q105.t (.int .i64 ((b.length : Nat) : Int)) (ex_lenG rfl rfl Try.underlying71 (q105.e (j := 19) rfl)) fun _ q106 => ?_;clear q105
    refine q106.t (.int .u64 (IntKind.u64.wrap (b.length : Int))) (ex_cv19 rfl (q106.e (j := 20) rfl) (cvI_64 _ _)) fun _ q107 => ?_;clear q106
    refine q107.t (.int .u64 (IntKind.u64.wrap (IntKind.u64.wrap (b.length : Int) * 8))) (ex_bin rfl (q107.e (j := 21) rfl) rfl (mulQ _ _ _ _)) fun _ q108 => ?_;clear q107
    refine q108.t (.int .u64 (IntKind.u64.wrap (IntKind.u64.wrap (b.length : Int) * 8))) (ex_assign rfl (q108.e (j := 22) rfl)) fun _ q109 => ?_;clear q108
    refine wpList_nil ?_
    go_upto_region 7 with fail
    refine wp_region_lit ?_
    refine q109.t (.int .i64 (((8 : Nat) : Int) - 1)) (ex_assign rfl rfl) fun _ q110 => ?_;clear q109
    have q111 := ((((Rp.nil q110.z).cons (q110.a 3 rfl)).cons (q110.a 4 rfl)).cons (q110.a 5 rfl))
    clear q110
    refine wpList_nil ?_
    go_upto_region 8 with fail
    have o8 : OwnY yB9 w.heap.size wr v ((b ++ [128] ++ List.replicate (zr b.length) 0) ++ (lenB b.length).take (8 - 8)) := by rw [Nat.sub_self, List.take_zero, List.append_nil]; exact hO
    refine v_loopD 5 8 (fun j T wr => ∃ v, Rp T 37 [(5, gw true (.int .i64 (((j : Nat) : Int) - 1))), (4, gw true (.int .u64 (IntKind.u64.wrap (IntKind.u64.wrap (b.length : Int) * 8)))), (3, gw true v)] ∧ Hid (OwnY yB9 w.heap.size wr v ((b ++ [128] ++ List.replicate (zr b.length) 0) ++ (lenB b.length).take (8 - j)) ∧ Below w.heap.size w wr)) (fun j T w h => by obtain ⟨v, h, _⟩ := h; exact h.a 5 rfl) ⟨v, q111, o8, br⟩ ?_
    clear q111 o8 hO br hv9
    intro j T wr hj hh
    obtain ⟨v, q100, HJ⟩ := hh
    obtain ⟨hO, br⟩ := HJ.out
    clear HJ
    have zr2 := br.size
    have hlb : (lenB b.length).length = 8 := by simp [lenB]
    cases j with
    | succ j =>
      have ejj : (((j + 1 : Nat) : Int) - 1) = ((j : Nat) : Int) := by omega
      have hua := lenB_at b.length j (by omega)
      go_upto_region 8 with fail
      refine wp_region_lit ?_
      refine q100.t (.int .i64 (((j + 1 : Nat) : Int) - 1)) (ex_move rfl (q100.e (j := 5) rfl)) fun _ q101 => ?_;clear q100
      refine q101.t (.bool true) (ex_bin rfl (q101.e (j := 23) rfl) rfl (geqD _ _ (j + 1) true (by simp) _)) fun _ q102 => ?_;clear q101
      refine wpList_nil ?_
      go_upto_region 10 with fail
      refine wp_cond_true (q102.e (j := 24) rfl) ?_
      go_upto_region 10 with fail
      refine wp_region_lit ?_
      refine q102.t (v) (ex_move rfl (q102.e (j := 3) rfl)) fun _ q103 => ?_;clear q102
      refine q103.t (.int .u64 (IntKind.u64.wrap (IntKind.u64.wrap (b.length : Int) * 8))) (ex_move rfl (q103.e (j := 4) rfl)) fun _ q104 => ?_;clear q103
      refine q104.t (.int .i64 ((j : Nat) : Int)) (ex_move rfl ((q104.e (j := 5) rfl).trans (by rw [ejj]))) fun _ q105 => ?_;clear q104
      refine q105.t (.int .i64 ((8 * j : Nat) : Int)) (ex_bin rfl rfl (q105.e (j := 29) rfl) (mulC9 _ _ 8 j (by omega) _)) fun _ q106 => ?_;clear q105
      refine q106.t (.int .u64 ((8 * j : Nat) : Int)) (ex_cv19 rfl (q106.e (j := 30) rfl) (cvI_U (8 * j) (by omega) _)) fun _ q107 => ?_;clear q106
      refine q107.t (.int .u64 (IntKind.u64.wrap (IntKind.u64.wrap (b.length : Int) * 8) / 2 ^ (8 * j))) (ex_bin rfl (q107.e (j := 28) rfl) (q107.e (j := 31) rfl) (shrQu64 _ _ _ (8 * j) (by omega) _)) fun _ q108 => ?_;clear q107
      refine q108.t (.int .u8 (IntKind.u8.wrap (IntKind.u64.wrap (IntKind.u64.wrap (b.length : Int) * 8) / 2 ^ (8 * j)))) (ex_cv19 rfl (q108.e (j := 32) rfl) (cv64_8 _ _)) fun _ q109 => ?_;clear q108
      obtain ⟨s4, hs4⟩ : ∃ y, y = wr.alloc (.cells (([IntKind.u8.wrap (IntKind.u64.wrap (IntKind.u64.wrap (b.length : Int) * 8) / 2 ^ (8 * j))] : List Int).map bV).toArray 5) := ⟨_, rfl⟩
      refine vw (.slice (some ⟨wr.heap.size, 0, none⟩) 1 1) s4 (want_none rfl) (ex_bs18 rfl (q109.e (j := 33) rfl) (by rw [hs4]; exact bs1B _ _)) rfl q109.z (by decide) (q109.k fun _ q110 => ?_);clear q109
      have t4 : SlY yB9 s4 (some ⟨wr.heap.size, 0, none⟩) 1 1 [IntKind.u8.wrap (IntKind.u64.wrap (IntKind.u64.wrap (b.length : Int) * 8) / 2 ^ (8 * j))] := by rw [hs4]; exact slM wr [IntKind.u8.wrap (IntKind.u64.wrap (IntKind.u64.wrap (b.length : Int) * 8) / 2 ^ (8 * j))] _ _ (by unfold maxLen; simp)
      have e4 : Below wr.heap.size wr s4 := by rw [hs4]; exact (Below.refl _ _).alloc (Nat.le_refl _) _
      clear hs4
      have y4 := e4.size
      obtain ⟨v4, w4, ha4, o4, g4, _⟩ := run_appY kB9 s4 71 w.heap.size ((b ++ [128] ++ List.replicate (zr b.length) 0) ++ (lenB b.length).take (8 - (j + 1))) v _ 1 1 [IntKind.u8.wrap (IntKind.u64.wrap (IntKind.u64.wrap (b.length : Int) * 8) / 2 ^ (8 * j))] t4 (hO.grow e4) (by omega) (by unfold maxLen; first | omega | (simp only [List.length_append, List.length_replicate, List.length_cons, List.length_nil, List.length_take]; omega)) (by show (((b ++ [128] ++ List.replicate (zr b.length) 0) ++ (lenB b.length).take (8 - (j + 1))).length + 1) * 1 ≤ _; first | omega | (simp only [List.length_append, List.length_replicate, List.length_cons, List.length_nil, List.length_take]; omega))
      have b4 : Below w.heap.size w w4 := (br.trans (e4.mono br.size)).grown g4 (by omega) (fun k hk => (hO.blk k hk).1)
      have z4 := b4.size
      refine vw (v4) w4 (want_none rfl) (ex_app18 rfl (q110.e (j := 27) rfl) (q110.e (j := 34) rfl) ha4) rfl q110.z (by decide) (q110.k fun _ q111 => ?_);clear q110
      refine q111.t (v4) (ex_assign rfl (q111.e (j := 35) rfl)) fun _ q112 => ?_;clear q111
      have q113 := ((((Rp.nil q112.z).cons (q112.a 3 rfl)).cons (q112.a 4 rfl)).cons (q112.a 5 rfl))
      clear q112
      refine wpList_nil ?_
      go_upto_region 9 with fail
      refine wp_region_lit ?_
      refine q113.t (.int .i64 (((j + 1 : Nat) : Int) - 1)) (ex_move rfl (q113.e (j := 5) rfl)) fun _ q114 => ?_;clear q113
      refine q114.t (.int .i64 (((j : Nat) : Int) - 1)) (ex_bin rfl (q114.e (j := 25) rfl) rfl (sub1D _ _ j (by omega) _)) fun _ q115 => ?_;clear q114
      refine q115.t (.int .i64 (((j : Nat) : Int) - 1)) (ex_assign rfl (q115.e (j := 26) rfl)) fun _ q116 => ?_;clear q115
      have q117 := ((((Rp.nil q116.z).cons (q116.a 3 rfl)).cons (q116.a 4 rfl)).cons (q116.a 5 rfl))
      clear q116
      refine wpList_nil ?_
      have o5 : OwnY yB9 w.heap.size w4 v4 ((b ++ [128] ++ List.replicate (zr b.length) 0) ++ (lenB b.length).take (8 - j)) := by rw [hua, ← List.append_assoc]; exact o4
      exact ⟨_, j, rfl, rfl, v4, q117, o5, b4⟩
    | zero =>
      go_upto_region 8 with fail
      refine wp_region_lit ?_
      refine q100.t (.int .i64 (((0 : Nat) : Int) - 1)) (ex_move rfl (q100.e (j := 5) rfl)) fun _ q101 => ?_;clear q100
      refine q101.t (.bool false) (ex_bin rfl (q101.e (j := 23) rfl) rfl (geqD _ _ 0 false (by simp) _)) fun _ q102 => ?_;clear q101
      refine wpList_nil ?_
      go_upto_region 11 with fail
      refine wp_cond_false (q102.e (j := 24) rfl) ?_
      go_upto_region 11 with fail
      refine wp_region_lit ?_
      refine q102.t (v) (ex_move rfl (q102.e (j := 3) rfl)) fun _ q103 => ?_;clear q102
      refine q103.t (v) (ex_assign rfl (q103.e (j := 36) rfl)) fun _ q104 => ?_;clear q103
      refine wpList_nil ?_
      have o6 : OwnY yB9 w.heap.size wr v (b ++ fill b.length) := by
        rw [Nat.sub_zero, List.take_of_length_le (by omega)] at hO
        unfold fill
        rw [← List.append_assoc, ← List.append_assoc]
        exact hO
      go_wp2
      refine bodyPost_ret (results_tmp rfl _ _ _) rfl ⟨v, ?_, o6, br⟩
      rw [getD_of (q104.a 2 rfl)]
      rfl
end Go.Proofs.Ytfafhlahbhopaaa
namespace Go.Proofs.Ytfafhlahbhopaaa
open Go.RowKit Go.Maps
open Classical
theorem BB.slu {w : World} {q : Nat} {T : TypeId} {L : List Int} (h : BB w q T (L.map uV)) (hm : L.length ≤ maxLen) : SlY yU9 w (some ⟨q, 0, none⟩) L.length L.length L := by
  refine ⟨rfl, Nat.le_refl _, hm, (fun e => by cases e), fun x hx => .inr ⟨q, 0, (Option.some.inj hx).symm, h.lt, fun i x hx j v hv => ?_⟩⟩
  obtain ⟨hi, rfl⟩ := List.getElem?_eq_some_iff.1 hx
  have hj : j = 0 := by
    cases j with
    | zero => rfl
    | succ j => simp [yU9] at hv
  subst hj
  obtain rfl : Value.int .u32 L[i] = v := by simpa [yU9] using hv
  have := h.u9 hi
  rw [List.getD_eq_getElem?_getD, List.getElem?_eq_getElem hi] at this
  simpa [yU9] using this
theorem SlY.u9 {w : World} {a : Option Addr} {n c : Nat} {L : List Int} (h : SlY yU9 w a n c L) {j : Nat} (hj : j < L.length) : ∃ q o, a = some ⟨q, o, none⟩ ∧ q < w.heap.size ∧ w.cell? ⟨q, o + j, none⟩ = some (.int .u32 (L.getD j 0)) := by
  obtain ⟨q, o, ea, hq, hl⟩ := h.place (by rintro rfl; simp at hj)
  have hx := List.getElem?_eq_getElem hj
  have := hl j _ hx 0 _ rfl
  refine ⟨q, o, ea, hq, ?_⟩
  rw [List.getD_eq_getElem?_getD, hx]
  simpa [yU9] using this
theorem mku (n : Nat) (hn : n ≤ 1000) (w : World) : ∃ w', (Instr.makeSlice 100 (.int .i64 (n : Int)) (.int .i64 (n : Int))).run Try.prog w = .ok (.slice (some ⟨w.heap.size, 0, none⟩) n n) w' ∧ BB w' w.heap.size 99 ((List.replicate n 0).map uV) ∧ Below w.heap.size w w' := by
  obtain ⟨zv, hinfo, hzc⟩ := kU9.info
  obtain ⟨i0, hi, hz0, hz1, hz2⟩ := info_parts hinfo
  have hr := run_make (P := Try.prog) w yU9.ST yU9.T i0 zv kU9.und hi hz0 .i64 .i64 n n (by omega) (Int.le_refl _) (room_int hz2 (by show n * 4 ≤ _; omega)) (by omega)
  rw [Int.toNat_natCast, hz1] at hr
  refine ⟨_, hr, ?_, (Below.refl _ _).alloc (Nat.le_refl _) _⟩
  have hf : ∀ m : Nat, fl yU9 (List.replicate m 0) = (List.replicate m 0).map uV := fun m => by
    induction m with
    | zero => rfl
    | succ m ih => rw [List.replicate_succ, fl, ih]; rfl
  have hm2 : (madeCells zv.cells (n * yU9.k)).toList = (List.replicate n 0).map uV := (madeY kU9 hzc n).trans (hf n)
  have e : madeCells zv.cells (n * yU9.k) = ((List.replicate n 0).map uV).toArray := by rw [← hm2]
  rw [e]
  exact World.alloc_heap_new _ _
theorem ixU (q o n c j : Nat) (hj : j < n) (w : World) : (Instr.indexAt 100 (.slice (some ⟨q, o, none⟩) n c) (.int .i64 (j : Int))).run Try.prog w = .ok (.pointer (some ⟨q, o + j, none⟩)) w := by
  have h1 : (j : Int) < (n : Int) := by omega
  go_simp
theorem ixU0 (q n c j : Nat) (hj : j < n) (w : World) : (Instr.indexAt 100 (.slice (some ⟨q, 0, none⟩) n c) (.int .i64 (j : Int))).run Try.prog w = .ok (.pointer (some ⟨q, j, none⟩)) w := by
  have := ixU q 0 n c j hj w
  rwa [Nat.zero_add] at this
theorem bs8U (t : St) (w : World) : (Instr.buildSlice 100 8 #[(0, .int .u32 t.a), (1, .int .u32 t.b), (2, .int .u32 t.c), (3, .int .u32 t.d), (4, .int .u32 t.e), (5, .int .u32 t.f), (6, .int .u32 t.g), (7, .int .u32 t.h)]).run Try.prog w = .ok (.slice (some ⟨w.heap.size, 0, none⟩) 8 8) (w.alloc (.cells (t.l.map uV).toArray 99)) := by
  simp only [St.l, List.map_cons, List.map_nil, uV]
  go_simp
theorem ex_bs8 {o : Oper} {ρ : Operand → Value} {s : TypeId} {x0 x1 x2 x3 x4 x5 x6 x7 : Operand} {X0 X1 X2 X3 X4 X5 X6 X7 V : Value} {w w' : World} (ho : o.op = .buildSlice s 8 #[(0, x0), (1, x1), (2, x2), (3, x3), (4, x4), (5, x5), (6, x6), (7, x7)]) (h0 : ρ x0 = X0) (h1 : ρ x1 = X1) (h2 : ρ x2 = X2) (h3 : ρ x3 = X3) (h4 : ρ x4 = X4) (h5 : ρ x5 = X5) (h6 : ρ x6 = X6) (h7 : ρ x7 = X7) (hr : (Instr.buildSlice s 8 #[(0, X0), (1, X1), (2, X2), (3, X3), (4, X4), (5, X5), (6, X6), (7, X7)]).run Try.prog w = .ok V w') : (execOp ρ o).run Try.prog w = .ok (.value V) w' := by
  unfold execOp
  simp only [ho, List.map_toArray, List.map_cons, List.map_nil, h0, h1, h2, h3, h4, h5, h6, h7, Sem.run_bind, hr, Result.andThen_ok]
  rfl
def sh9 (b : List Int) (i k : Nat) : Int := IntKind.u32.wrap (IntKind.u32.wrap (b.getD i 0) * 2 ^ k)
def wqF (b : List Int) (j : Nat) : Int := bits .or .u32 (bits .or .u32 (bits .or .u32 (sh9 b (4 * j) 24) (sh9 b (4 * j + 1) 16)) (sh9 b (4 * j + 2) 8)) (IntKind.u32.wrap (b.getD (4 * j + 3) 0))
def wA (b : List Int) : Nat → List Int
  | 0 => List.replicate 64 0
  | j + 1 => (wA b j).set j (wqF b j)
theorem wA_len (b : List Int) : ∀ i, (wA b i).length = 64
  | 0 => by simp [wA]
  | i + 1 => by rw [wA, List.length_set, wA_len b i]
theorem orJ (x y : Int) (i : Nat) (hx0 : 0 ≤ x) (hx : x % 2 ^ i = 0) (hx1 : x < 4294967296) (hy0 : 0 ≤ y) (hy : y < 2 ^ i) (hy1 : y < 4294967296) : bits .or .u32 x y = x + y :=
  bits_join .u32 32 (Nat.le_refl _) (fun n h0 h1 => by rw [IntKind.wrap_u32]; omega) i x y hx0 hx (by show x < 4294967296; exact hx1) hy0 hy (by show y < 4294967296; exact hy1)
theorem orS (v b : Int) (hv : 0 ≤ v) (hv2 : v < 16777216) (hb : 0 ≤ b) (hb2 : b < 256) : bits .or .u32 (IntKind.u32.wrap (v * 2 ^ 8)) (IntKind.u32.wrap b) = v * 256 + b := by
  have e1 : IntKind.u32.wrap (v * 2 ^ 8) = v * 256 := by rw [IntKind.wrap_u32]; omega
  have e2 : IntKind.u32.wrap b = b := by rw [IntKind.wrap_u32]; omega
  rw [e1, e2, orJ _ _ 8 (by omega) (by omega) (by omega) hb (by omega) (by omega)]
theorem wqF_eq (b : List Int) (hb : ∀ i, 0 ≤ b.getD i 0 ∧ b.getD i 0 < 256) (j : Nat) : wqF b j = ((b.getD (4 * j) 0 * 256 + b.getD (4 * j + 1) 0) * 256 + b.getD (4 * j + 2) 0) * 256 + b.getD (4 * j + 3) 0 := by
  have h0 := hb (4 * j)
  have h1 := hb (4 * j + 1)
  have h2 := hb (4 * j + 2)
  have h3 := hb (4 * j + 3)
  unfold wqF sh9
  generalize b.getD (4 * j) 0 = x0 at *
  generalize b.getD (4 * j + 1) 0 = x1 at *
  generalize b.getD (4 * j + 2) 0 = x2 at *
  generalize b.getD (4 * j + 3) 0 = x3 at *
  have w : ∀ x : Int, 0 ≤ x → x < 4294967296 → IntKind.u32.wrap x = x := fun x a c => by rw [IntKind.wrap_u32]; omega
  rw [w x0 h0.1 (by omega), w x1 h1.1 (by omega), w x2 h2.1 (by omega), w x3 h3.1 (by omega), w (x0 * 2 ^ 24) (by omega) (by omega), w (x1 * 2 ^ 16) (by omega) (by omega), w (x2 * 2 ^ 8) (by omega) (by omega)]
  rw [orJ (x0 * 2 ^ 24) (x1 * 2 ^ 16) 24 (by omega) (by omega) (by omega) (by omega) (by omega) (by omega), orJ _ (x2 * 2 ^ 8) 16 (by omega) (by omega) (by omega) (by omega) (by omega) (by omega), orJ _ x3 8 (by omega) (by omega) (by omega) (by omega) (by omega) (by omega)]
  omega
theorem set_rep64 (X : List Int) (k : Nat) (hX : X.length = k) (v : Int) (y : Int) (m : Nat) : (X ++ y :: List.replicate m 0).set k v = X ++ v :: List.replicate m 0 ∧ (X ++ y :: List.replicate m 0).getD k 0 = y := by
  subst hX
  refine ⟨by rw [List.set_append_right _ _ (Nat.le_refl _), Nat.sub_self, List.set_cons_zero], ?_⟩
  rw [List.getD_eq_getElem?_getD, List.getElem?_append_right (Nat.le_refl _), Nat.sub_self]
  rfl
theorem wA_eq (b : List Int) : ∀ k, k ≤ 16 → wA b k = (List.range k).map (wqF b) ++ List.replicate (64 - k) 0
  | 0, _ => by simp [wA]
  | k + 1, hk => by
    have e0 : List.replicate (64 - k) (0 : Int) = 0 :: List.replicate (64 - (k + 1)) 0 := by rw [show 64 - k = (64 - (k + 1)) + 1 by omega, List.replicate_succ]
    rw [wA, wA_eq b k (by omega), e0, (set_rep64 _ k (by simp) _ 0 _).1, List.range_succ, List.map_append, List.append_assoc]
    rfl
theorem wS_eq (b : List Int) (hb : ∀ i, 0 ≤ b.getD i 0 ∧ b.getD i 0 < 256) : ∀ k, k ≤ 16 → wS b (4 * k) = (List.range k).map (wqF b) ++ List.replicate (64 - k) 0
  | 0, _ => by simp [wS]
  | k + 1, hk => by
    have hX : ((List.range k).map (wqF b)).length = k := by simp
    have e0 : List.replicate (64 - k) (0 : Int) = 0 :: List.replicate (64 - (k + 1)) 0 := by rw [show 64 - k = (64 - (k + 1)) + 1 by omega, List.replicate_succ]
    have h0 := hb (4 * k)
    have h1 := hb (4 * k + 1)
    have h2 := hb (4 * k + 2)
    have h3 := hb (4 * k + 3)
    have i1 : wS b (4 * k + 1) = (List.range k).map (wqF b) ++ b.getD (4 * k) 0 :: List.replicate (64 - (k + 1)) 0 := by
      rw [wS, wS_eq b hb k (by omega), e0, show 4 * k / 4 = k by omega, (set_rep64 _ k hX _ 0 _).1, (set_rep64 _ k hX 0 0 _).2, orS 0 _ (by omega) (by omega) h0.1 h0.2]
      congr 2
      omega
    have i2 : wS b (4 * k + 2) = (List.range k).map (wqF b) ++ (b.getD (4 * k) 0 * 256 + b.getD (4 * k + 1) 0) :: List.replicate (64 - (k + 1)) 0 := by
      rw [show 4 * k + 2 = (4 * k + 1) + 1 by omega, wS, i1, show (4 * k + 1) / 4 = k by omega, (set_rep64 _ k hX _ _ _).1, (set_rep64 _ k hX 0 _ _).2, orS _ _ h0.1 (by omega) h1.1 h1.2]
    have i3 : wS b (4 * k + 3) = (List.range k).map (wqF b) ++ ((b.getD (4 * k) 0 * 256 + b.getD (4 * k + 1) 0) * 256 + b.getD (4 * k + 2) 0) :: List.replicate (64 - (k + 1)) 0 := by
      rw [show 4 * k + 3 = (4 * k + 2) + 1 by omega, wS, i2, show (4 * k + 2) / 4 = k by omega, (set_rep64 _ k hX _ _ _).1, (set_rep64 _ k hX 0 _ _).2, orS _ _ (by omega) (by omega) h2.1 h2.2]
    rw [show 4 * (k + 1) = (4 * k + 3) + 1 by omega, wS, i3, show (4 * k + 3) / 4 = k by omega, (set_rep64 _ k hX _ _ _).1, (set_rep64 _ k hX 0 _ _).2, orS _ _ (by omega) (by omega) h3.1 h3.2, ← wqF_eq b hb k, List.range_succ, List.map_append, List.append_assoc]
    rfl
theorem wA_16 (b : List Int) (hb : ∀ i, 0 ≤ b.getD i 0 ∧ b.getD i 0 < 256) : wA b 16 = wT b 0 := by
  rw [wA_eq b 16 (Nat.le_refl _), wT, ← wS_eq b hb 16 (Nat.le_refl _)]
def cpN (s : St) : Nat → List Int
  | 0 => List.replicate 8 0
  | j + 1 => (cpN s j).set j (s.l.getD j 0)
theorem cpN_len (s : St) : ∀ j, (cpN s j).length = 8
  | 0 => rfl
  | j + 1 => by rw [cpN, List.length_set, cpN_len s j]
theorem cpN_8 (s : St) : cpN s 8 = s.l := rfl
theorem ad_comm9 (x y : Int) : ad x y = ad y x := by unfold ad; rw [Int.add_comm]
theorem St.ad_comm (s t : St) : s.ad t = t.ad s := by
  unfold St.ad
  rw [ad_comm9 s.a, ad_comm9 s.b, ad_comm9 s.c, ad_comm9 s.d, ad_comm9 s.e, ad_comm9 s.f, ad_comm9 s.g, ad_comm9 s.h]
set_option maxHeartbeats 2000000 in
theorem block19 (s : St) (a : Option Addr) (c : Nat) (b : List Int) (a1 : Option Addr) (c1 : Nat) (a2 : Option Addr) (c2 : Nat) (w : World) (h : SlY yU9 w a 8 c s.l) (h1 : SlY yB9 w a1 64 c1 b) (h2 : SlY yU9 w a2 64 c2 kT9) (hbl : b.length = 64) (hby : ∀ i, 0 ≤ b.getD i 0 ∧ b.getD i 0 < 256) :
    Calls Try.prog 68 #[.slice a 8 c, .slice a1 64 c1, .slice a2 64 c2] w fun e w' => ∃ g, e = .returned (.slice (some ⟨g, 0, none⟩) 8 8) ∧ SlY yU9 w' (some ⟨g, 0, none⟩) 8 8 (blkF s b).l ∧ Below w.heap.size w w' := by
  go_enter Try.func68, Try.ntmps68
  go_upto_region 0 with fail
  refine wp_region_lit ?_
  refine vl_gen (fun T => Rp T 232 [(2, gw true (.slice a2 64 c2)), (1, gw true (.slice a1 64 c1)), (0, gw true (.slice a 8 c))]) ((((Rp.nil rfl).cons rfl).cons rfl).cons rfl) (fun Z0 q0 => ?_)
  have hsl : s.l.length = 8 := rfl
  have hkl : kT9.length = 64 := rfl
  refine q0.t (.slice none 0 0) (ex_assign rfl rfl) fun _ q1 => ?_;clear q0
  refine wpList_nil ?_
  go_upto_region 1 with fail
  refine wp_region_lit ?_
  obtain ⟨w1, hk1, B1, b1⟩ := mku 64 (by decide) w
  have z1 := b1.size
  refine vw (.slice (some ⟨w.heap.size, 0, none⟩) 64 64) w1 (want_none rfl) (ex_mk19 rfl rfl rfl hk1) rfl q1.z (by decide) (q1.k fun _ q2 => ?_);clear q1
  refine q2.t (.slice (some ⟨w.heap.size, 0, none⟩) 64 64) (ex_assign rfl (q2.e (j := 20) rfl)) fun _ q3 => ?_;clear q2
  refine wpList_nil ?_
  go_upto_region 2 with fail
  refine wp_region_lit ?_
  refine q3.t (.int .i64 ((0 : Nat) : Int)) (ex_assign rfl rfl) fun _ q4 => ?_;clear q3
  have q5 := ((((((Rp.nil q4.z).cons (q4.a 0 rfl)).cons (q4.a 1 rfl)).cons (q4.a 2 rfl)).cons (q4.a 7 rfl)).cons (q4.a 8 rfl))
  clear q4
  refine wpList_nil ?_
  go_upto_region 3 with fail
  refine v_loop 8 16 (fun j T wr => Rp T 232 [(8, gw true (.int .i64 ((j : Nat) : Int))), (7, gw true (.slice (some ⟨w.heap.size, 0, none⟩) 64 64)), (2, gw true (.slice a2 64 c2)), (1, gw true (.slice a1 64 c1)), (0, gw true (.slice a 8 c))] ∧ Hid (BB wr w.heap.size 99 ((wA b j).map uV) ∧ Below w.heap.size w wr)) (fun j T w h => h.1.a 8 rfl) ⟨q5, B1, b1⟩ ?_
  clear q5 B1 b1 hk1 z1
  intro j T wr hj hh
  obtain ⟨q100, HJ⟩ := hh
  obtain ⟨B1, br⟩ := HJ.out
  clear HJ
  have zr := br.size
  by_cases hit : j < 16
  · go_upto_region 3 with fail
    refine wp_region_lit ?_
    refine q100.t (.int .i64 ((j : Nat) : Int)) (ex_move rfl (q100.e (j := 8) rfl)) fun _ q101 => ?_;clear q100
    refine q101.t (.bool true) (ex_bin rfl (q101.e (j := 21) rfl) rfl (ltT _ _ hit _)) fun _ q102 => ?_;clear q101
    refine wpList_nil ?_
    go_upto_region 5 with fail
    refine wp_cond_true (q102.e (j := 22) rfl) ?_
    go_upto_region 5 with fail
    refine vg_start (fun k => k == 36) (fun v => v = wr.drew) (by kernel_rfl) ?_
    have hd : Below wr.heap.size wr wr.drew := (Below.refl _ _).drew
    have hzd : wr.drew.heap.size = wr.heap.size := rfl
    generalize wr.drew = d at *
    have B1d := B1.later hd
    have bd : Below w.heap.size w d := br.trans (hd.mono zr)
    have hl := wA_len b j
    have cj := B1d.u9 (j := j) (by omega)
    obtain ⟨qb, ob, hqb, hqbl, _⟩ := h1.b9 (j := 0) (by omega)
    subst hqb
    have cb : ∀ i, i < 64 → d.cell? ⟨qb, ob + i, none⟩ = some (.int .u8 (b.getD i 0)) := fun i hi => by
      obtain ⟨q9, o9, e9, _, hc9⟩ := (h1.on bd (Nat.le_refl _)).b9 (j := i) (by omega)
      cases e9
      exact hc9
    refine vg_takeW 0 true (.slice (some ⟨w.heap.size, 0, none⟩) 64 64) rfl (by kernel_rfl) (by kernel_rfl) (by kernel_rfl) (by kernel_rfl) (want_none rfl) (fun hc v => ex_move rfl (q102.e (j := 7) rfl)) rfl q102.z (by decide) (fun _ => rfl) (q102.k fun _ q103 => ?_);clear q102
    refine vg_takeW 1 true (.int .i64 ((j : Nat) : Int)) rfl (by kernel_rfl) (by kernel_rfl) (by kernel_rfl) (by kernel_rfl) (want_none rfl) (fun hc v => ex_move rfl (q103.e (j := 8) rfl)) rfl q103.z (by decide) (fun _ => rfl) (q103.k fun _ q104 => ?_);clear q103
    refine vg_takeW 2 true (.slice (some ⟨qb, ob, none⟩) 64 c1) rfl (by kernel_rfl) (by kernel_rfl) (by kernel_rfl) (by kernel_rfl) (want_none rfl) (fun hc v => ex_move rfl (q104.e (j := 1) rfl)) rfl q104.z (by decide) (fun _ => rfl) (q104.k fun _ q105 => ?_);clear q104
    refine vg_takeW 3 true (.int .i64 ((j : Nat) : Int)) rfl (by kernel_rfl) (by kernel_rfl) (by kernel_rfl) (by kernel_rfl) (want_none rfl) (fun hc v => ex_move rfl (q105.e (j := 8) rfl)) rfl q105.z (by decide) (fun _ => rfl) (q105.k fun _ q106 => ?_);clear q105
    refine vg_takeW 4 true (.int .i64 ((4 * j : Nat) : Int)) rfl (by kernel_rfl) (by kernel_rfl) (by kernel_rfl) (by kernel_rfl) (want_none rfl) (fun hc v => ex_bin rfl rfl (q106.e (j := 28) rfl) (mulC9 _ _ 4 j (by omega) _)) rfl q106.z (by decide) (fun _ => rfl) (q106.k fun _ q107 => ?_);clear q106
    refine vg_takeW 5 true (.pointer (some ⟨qb, (ob + (4 * j)), none⟩)) rfl (by kernel_rfl) (by kernel_rfl) (by kernel_rfl) (by kernel_rfl) (want_none rfl) (fun hc v => ex_ix rfl (q107.e (j := 27) rfl) (q107.e (j := 29) rfl) (ixB9 qb ob 64 c1 (4 * j) (by omega) _)) rfl q107.z (by decide) (fun _ => rfl) (q107.k fun _ q108 => ?_);clear q107
    refine vg_take 6 true (.int .u8 (b.getD (4 * j) 0)) rfl (by kernel_rfl) (by kernel_rfl) (by kernel_rfl) (by kernel_rfl) (by kernel_rfl) (by kernel_rfl) (want_none rfl) (fun hc v hv => by subst hv; exact ex_ld rfl (q108.e (j := 30) rfl) (ld8 (cb (4 * j) (by omega)))) rfl q108.z (by decide) rfl (q108.k fun _ q109 => ?_);clear q108
    refine vg_takeW 7 true (.int .u32 (IntKind.u32.wrap (b.getD (4 * j) 0))) rfl (by kernel_rfl) (by kernel_rfl) (by kernel_rfl) (by kernel_rfl) (want_none rfl) (fun hc v => ex_cv19 rfl (q109.e (j := 31) rfl) (cv8_32 _ _)) rfl q109.z (by decide) (fun _ => rfl) (q109.k fun _ q110 => ?_);clear q109
    refine vg_takeW 8 true (.int .u32 (sh9 b (4 * j) 24)) rfl (by kernel_rfl) (by kernel_rfl) (by kernel_rfl) (by kernel_rfl) (want_none rfl) (fun hc v => ex_bin rfl (q110.e (j := 32) rfl) rfl (shlU _ _ _ 24 (by decide) _)) rfl q110.z (by decide) (fun _ => rfl) (q110.k fun _ q111 => ?_);clear q110
    refine vg_takeW 9 true (.slice (some ⟨qb, ob, none⟩) 64 c1) rfl (by kernel_rfl) (by kernel_rfl) (by kernel_rfl) (by kernel_rfl) (want_none rfl) (fun hc v => ex_move rfl (q111.e (j := 1) rfl)) rfl q111.z (by decide) (fun _ => rfl) (q111.k fun _ q112 => ?_);clear q111
    refine vg_takeW 10 true (.int .i64 ((j : Nat) : Int)) rfl (by kernel_rfl) (by kernel_rfl) (by kernel_rfl) (by kernel_rfl) (want_none rfl) (fun hc v => ex_move rfl (q112.e (j := 8) rfl)) rfl q112.z (by decide) (fun _ => rfl) (q112.k fun _ q113 => ?_);clear q112
    refine vg_takeW 11 true (.int .i64 ((4 * j : Nat) : Int)) rfl (by kernel_rfl) (by kernel_rfl) (by kernel_rfl) (by kernel_rfl) (want_none rfl) (fun hc v => ex_bin rfl rfl (q113.e (j := 35) rfl) (mulC9 _ _ 4 j (by omega) _)) rfl q113.z (by decide) (fun _ => rfl) (q113.k fun _ q114 => ?_);clear q113
    refine vg_takeW 12 true (.int .i64 ((4 * j + 1 : Nat) : Int)) rfl (by kernel_rfl) (by kernel_rfl) (by kernel_rfl) (by kernel_rfl) (want_none rfl) (fun hc v => ex_bin rfl (q114.e (j := 36) rfl) rfl (addC9 _ _ (4 * j) 1 (by omega) _)) rfl q114.z (by decide) (fun _ => rfl) (q114.k fun _ q115 => ?_);clear q114
    refine vg_takeW 13 true (.pointer (some ⟨qb, (ob + (4 * j + 1)), none⟩)) rfl (by kernel_rfl) (by kernel_rfl) (by kernel_rfl) (by kernel_rfl) (want_none rfl) (fun hc v => ex_ix rfl (q115.e (j := 34) rfl) (q115.e (j := 37) rfl) (ixB9 qb ob 64 c1 (4 * j + 1) (by omega) _)) rfl q115.z (by decide) (fun _ => rfl) (q115.k fun _ q116 => ?_);clear q115
    refine vg_take 14 true (.int .u8 (b.getD (4 * j + 1) 0)) rfl (by kernel_rfl) (by kernel_rfl) (by kernel_rfl) (by kernel_rfl) (by kernel_rfl) (by kernel_rfl) (want_none rfl) (fun hc v hv => by subst hv; exact ex_ld rfl (q116.e (j := 38) rfl) (ld8 (cb (4 * j + 1) (by omega)))) rfl q116.z (by decide) rfl (q116.k fun _ q117 => ?_);clear q116
    refine vg_takeW 15 true (.int .u32 (IntKind.u32.wrap (b.getD (4 * j + 1) 0))) rfl (by kernel_rfl) (by kernel_rfl) (by kernel_rfl) (by kernel_rfl) (want_none rfl) (fun hc v => ex_cv19 rfl (q117.e (j := 39) rfl) (cv8_32 _ _)) rfl q117.z (by decide) (fun _ => rfl) (q117.k fun _ q118 => ?_);clear q117
    refine vg_takeW 16 true (.int .u32 (sh9 b (4 * j + 1) 16)) rfl (by kernel_rfl) (by kernel_rfl) (by kernel_rfl) (by kernel_rfl) (want_none rfl) (fun hc v => ex_bin rfl (q118.e (j := 40) rfl) rfl (shlU _ _ _ 16 (by decide) _)) rfl q118.z (by decide) (fun _ => rfl) (q118.k fun _ q119 => ?_);clear q118
    refine vg_takeW 17 true (.int .u32 (bits .or .u32 (sh9 b (4 * j) 24) (sh9 b (4 * j + 1) 16))) rfl (by kernel_rfl) (by kernel_rfl) (by kernel_rfl) (by kernel_rfl) (want_none rfl) (fun hc v => ex_bin rfl (q119.e (j := 33) rfl) (q119.e (j := 41) rfl) (orU _ _ _ _ _)) rfl q119.z (by decide) (fun _ => rfl) (q119.k fun _ q120 => ?_);clear q119
    refine vg_takeW 18 true (.slice (some ⟨qb, ob, none⟩) 64 c1) rfl (by kernel_rfl) (by kernel_rfl) (by kernel_rfl) (by kernel_rfl) (want_none rfl) (fun hc v => ex_move rfl (q120.e (j := 1) rfl)) rfl q120.z (by decide) (fun _ => rfl) (q120.k fun _ q121 => ?_);clear q120
    refine vg_takeW 19 true (.int .i64 ((j : Nat) : Int)) rfl (by kernel_rfl) (by kernel_rfl) (by kernel_rfl) (by kernel_rfl) (want_none rfl) (fun hc v => ex_move rfl (q121.e (j := 8) rfl)) rfl q121.z (by decide) (fun _ => rfl) (q121.k fun _ q122 => ?_);clear q121
    refine vg_takeW 20 true (.int .i64 ((4 * j : Nat) : Int)) rfl (by kernel_rfl) (by kernel_rfl) (by kernel_rfl) (by kernel_rfl) (want_none rfl) (fun hc v => ex_bin rfl rfl (q122.e (j := 44) rfl) (mulC9 _ _ 4 j (by omega) _)) rfl q122.z (by decide) (fun _ => rfl) (q122.k fun _ q123 => ?_);clear q122
    refine vg_takeW 21 true (.int .i64 ((4 * j + 2 : Nat) : Int)) rfl (by kernel_rfl) (by kernel_rfl) (by kernel_rfl) (by kernel_rfl) (want_none rfl) (fun hc v => ex_bin rfl (q123.e (j := 45) rfl) rfl (addC9 _ _ (4 * j) 2 (by omega) _)) rfl q123.z (by decide) (fun _ => rfl) (q123.k fun _ q124 => ?_);clear q123
    refine vg_takeW 22 true (.pointer (some ⟨qb, (ob + (4 * j + 2)), none⟩)) rfl (by kernel_rfl) (by kernel_rfl) (by kernel_rfl) (by kernel_rfl) (want_none rfl) (fun hc v => ex_ix rfl (q124.e (j := 43) rfl) (q124.e (j := 46) rfl) (ixB9 qb ob 64 c1 (4 * j + 2) (by omega) _)) rfl q124.z (by decide) (fun _ => rfl) (q124.k fun _ q125 => ?_);clear q124
    refine vg_take 23 true (.int .u8 (b.getD (4 * j + 2) 0)) rfl (by kernel_rfl) (by kernel_rfl) (by kernel_rfl) (by kernel_rfl) (by kernel_rfl) (by kernel_rfl) (want_none rfl) (fun hc v hv => by subst hv; exact ex_ld rfl (q125.e (j := 47) rfl) (ld8 (cb (4 * j + 2) (by omega)))) rfl q125.z (by decide) rfl (q125.k fun _ q126 => ?_);clear q125
    refine vg_takeW 24 true (.int .u32 (IntKind.u32.wrap (b.getD (4 * j + 2) 0))) rfl (by kernel_rfl) (by kernel_rfl) (by kernel_rfl) (by kernel_rfl) (want_none rfl) (fun hc v => ex_cv19 rfl (q126.e (j := 48) rfl) (cv8_32 _ _)) rfl q126.z (by decide) (fun _ => rfl) (q126.k fun _ q127 => ?_);clear q126
    refine vg_takeW 25 true (.int .u32 (sh9 b (4 * j + 2) 8)) rfl (by kernel_rfl) (by kernel_rfl) (by kernel_rfl) (by kernel_rfl) (want_none rfl) (fun hc v => ex_bin rfl (q127.e (j := 49) rfl) rfl (shlU _ _ _ 8 (by decide) _)) rfl q127.z (by decide) (fun _ => rfl) (q127.k fun _ q128 => ?_);clear q127
    refine vg_takeW 26 true (.int .u32 (bits .or .u32 (bits .or .u32 (sh9 b (4 * j) 24) (sh9 b (4 * j + 1) 16)) (sh9 b (4 * j + 2) 8))) rfl (by kernel_rfl) (by kernel_rfl) (by kernel_rfl) (by kernel_rfl) (want_none rfl) (fun hc v => ex_bin rfl (q128.e (j := 42) rfl) (q128.e (j := 50) rfl) (orU _ _ _ _ _)) rfl q128.z (by decide) (fun _ => rfl) (q128.k fun _ q129 => ?_);clear q128
    refine vg_takeW 27 true (.slice (some ⟨qb, ob, none⟩) 64 c1) rfl (by kernel_rfl) (by kernel_rfl) (by kernel_rfl) (by kernel_rfl) (want_none rfl) (fun hc v => ex_move rfl (q129.e (j := 1) rfl)) rfl q129.z (by decide) (fun _ => rfl) (q129.k fun _ q130 => ?_);clear q129
    refine vg_takeW 28 true (.int .i64 ((j : Nat) : Int)) rfl (by kernel_rfl) (by kernel_rfl) (by kernel_rfl) (by kernel_rfl) (want_none rfl) (fun hc v => ex_move rfl (q130.e (j := 8) rfl)) rfl q130.z (by decide) (fun _ => rfl) (q130.k fun _ q131 => ?_);clear q130
    refine vg_takeW 29 true (.int .i64 ((4 * j : Nat) : Int)) rfl (by kernel_rfl) (by kernel_rfl) (by kernel_rfl) (by kernel_rfl) (want_none rfl) (fun hc v => ex_bin rfl rfl (q131.e (j := 53) rfl) (mulC9 _ _ 4 j (by omega) _)) rfl q131.z (by decide) (fun _ => rfl) (q131.k fun _ q132 => ?_);clear q131
    refine vg_takeW 30 true (.int .i64 ((4 * j + 3 : Nat) : Int)) rfl (by kernel_rfl) (by kernel_rfl) (by kernel_rfl) (by kernel_rfl) (want_none rfl) (fun hc v => ex_bin rfl (q132.e (j := 54) rfl) rfl (addC9 _ _ (4 * j) 3 (by omega) _)) rfl q132.z (by decide) (fun _ => rfl) (q132.k fun _ q133 => ?_);clear q132
    refine vg_takeW 31 true (.pointer (some ⟨qb, (ob + (4 * j + 3)), none⟩)) rfl (by kernel_rfl) (by kernel_rfl) (by kernel_rfl) (by kernel_rfl) (want_none rfl) (fun hc v => ex_ix rfl (q133.e (j := 52) rfl) (q133.e (j := 55) rfl) (ixB9 qb ob 64 c1 (4 * j + 3) (by omega) _)) rfl q133.z (by decide) (fun _ => rfl) (q133.k fun _ q134 => ?_);clear q133
    refine vg_take 32 true (.int .u8 (b.getD (4 * j + 3) 0)) rfl (by kernel_rfl) (by kernel_rfl) (by kernel_rfl) (by kernel_rfl) (by kernel_rfl) (by kernel_rfl) (want_none rfl) (fun hc v hv => by subst hv; exact ex_ld rfl (q134.e (j := 56) rfl) (ld8 (cb (4 * j + 3) (by omega)))) rfl q134.z (by decide) rfl (q134.k fun _ q135 => ?_);clear q134
    refine vg_takeW 33 true (.int .u32 (IntKind.u32.wrap (b.getD (4 * j + 3) 0))) rfl (by kernel_rfl) (by kernel_rfl) (by kernel_rfl) (by kernel_rfl) (want_none rfl) (fun hc v => ex_cv19 rfl (q135.e (j := 57) rfl) (cv8_32 _ _)) rfl q135.z (by decide) (fun _ => rfl) (q135.k fun _ q136 => ?_);clear q135
    refine vg_takeW 34 true (.int .u32 (wqF b j)) rfl (by kernel_rfl) (by kernel_rfl) (by kernel_rfl) (by kernel_rfl) (want_none rfl) (fun hc v => ex_bin rfl (q136.e (j := 51) rfl) (q136.e (j := 58) rfl) (orU _ _ _ _ _)) rfl q136.z (by decide) (fun _ => rfl) (q136.k fun _ q137 => ?_);clear q136
    refine vg_takeW 35 true (.pointer (some ⟨w.heap.size, j, none⟩)) rfl (by kernel_rfl) (by kernel_rfl) (by kernel_rfl) (by kernel_rfl) (want_none rfl) (fun hc v => ex_ix rfl (q137.e (j := 25) rfl) (q137.e (j := 26) rfl) (ixU0 w.heap.size 64 64 j (by omega) _)) rfl q137.z (by decide) (fun _ => rfl) (q137.k fun _ q138 => ?_);clear q137
    obtain ⟨d2, hd2⟩ : ∃ z, z = d.setCell ⟨w.heap.size, j, none⟩ (.int .u32 (wqF b j)) := ⟨_, rfl⟩
    refine vg_store 36 d2 rfl (by kernel_rfl) (by kernel_rfl) (want_none rfl) (ex_st rfl (q138.e (j := 60) rfl) (q138.e (j := 59) rfl) (by rw [hd2]; exact stU cj (B1d.free _))) rfl ?_
    have B2 : BB d2 w.heap.size 99 ((wA b (j + 1)).map uV) := by rw [hd2]; exact B1d.setu _ _
    have be : Below w.heap.size w d2 := by rw [hd2]; exact bd.trans (bel_ge (upd1 _ _ _ _) bd.size (Nat.le_refl _))
    clear hd2
    refine vg_done (by kernel_rfl) ?_
    have q139 := ((((((Rp.nil q138.z).cons (q138.a 0 rfl)).cons (q138.a 1 rfl)).cons (q138.a 2 rfl)).cons (q138.a 7 rfl)).cons (q138.a 8 rfl))
    clear q138
    go_upto_region 4 with fail
    refine wp_region_lit ?_
    refine q139.t (.int .i64 ((j : Nat) : Int)) (ex_move rfl (q139.e (j := 8) rfl)) fun _ q140 => ?_;clear q139
    refine q140.t (.int .i64 ((j + 1 : Nat) : Int)) (ex_bin rfl (q140.e (j := 23) rfl) rfl (add1C _ _ j (by omega) _)) fun _ q141 => ?_;clear q140
    refine q141.t (.int .i64 ((j + 1 : Nat) : Int)) (ex_assign rfl (q141.e (j := 24) rfl)) fun _ q142 => ?_;clear q141
    have q143 := ((((((Rp.nil q142.z).cons (q142.a 0 rfl)).cons (q142.a 1 rfl)).cons (q142.a 2 rfl)).cons (q142.a 7 rfl)).cons (q142.a 8 rfl))
    clear q142
    refine wpList_nil ?_
    exact ⟨_, rfl, hit, q143, B2, be⟩
  · obtain rfl : j = 16 := by omega
    rw [wA_16 b hby] at B1
    go_upto_region 3 with fail
    refine wp_region_lit ?_
    refine q100.t (.int .i64 ((16 : Nat) : Int)) (ex_move rfl (q100.e (j := 8) rfl)) fun _ q101 => ?_;clear q100
    refine q101.t (.bool false) (ex_bin rfl (q101.e (j := 21) rfl) rfl (ltF _ _ hit _)) fun _ q102 => ?_;clear q101
    refine wpList_nil ?_
    go_upto_region 6 with fail
    refine wp_cond_false (q102.e (j := 22) rfl) ?_
    go_upto_region 6 with fail
    refine wp_region_lit ?_
    refine q102.t (.int .i64 ((0 + 16 : Nat) : Int)) (ex_assign rfl rfl) fun _ q103 => ?_;clear q102
    have q104 := ((((((Rp.nil q103.z).cons (q103.a 0 rfl)).cons (q103.a 1 rfl)).cons (q103.a 2 rfl)).cons (q103.a 7 rfl)).cons (q103.a 9 rfl))
    clear q103
    refine wpList_nil ?_
    go_upto_region 7 with fail
    refine v_loopO 9 48 16 (fun j T wr => Rp T 232 [(9, gw true (.int .i64 ((j + 16 : Nat) : Int))), (7, gw true (.slice (some ⟨w.heap.size, 0, none⟩) 64 64)), (2, gw true (.slice a2 64 c2)), (1, gw true (.slice a1 64 c1)), (0, gw true (.slice a 8 c))] ∧ Hid (BB wr w.heap.size 99 ((wT b j).map uV) ∧ Below w.heap.size w wr)) (fun j T w h => h.1.a 9 rfl) ⟨q104, B1, br⟩ ?_
    clear q104 B1 br zr hit hj
    intro j T wr hj hh
    obtain ⟨q100, HJ⟩ := hh
    obtain ⟨B1, br⟩ := HJ.out
    clear HJ
    have zr := br.size
    have hl := wT_len b j
    by_cases hit : j < 48
    · go_upto_region 7 with fail
      refine wp_region_lit ?_
      refine q100.t (.int .i64 ((j + 16 : Nat) : Int)) (ex_move rfl (q100.e (j := 9) rfl)) fun _ q101 => ?_;clear q100
      refine q101.t (.bool true) (ex_bin rfl (q101.e (j := 61) rfl) rfl (ltT _ _ (show j + 16 < 64 by omega) _)) fun _ q102 => ?_;clear q101
      refine wpList_nil ?_
      go_upto_region 9 with fail
      refine wp_cond_true (q102.e (j := 62) rfl) ?_
      go_upto_region 9 with fail
      refine wp_region_lit ?_
      refine q102.t (.slice (some ⟨w.heap.size, 0, none⟩) 64 64) (ex_move rfl (q102.e (j := 7) rfl)) fun _ q103 => ?_;clear q102
      refine q103.t (.int .i64 ((j + 16 : Nat) : Int)) (ex_move rfl (q103.e (j := 9) rfl)) fun _ q104 => ?_;clear q103
      refine q104.t (.int .i64 ((j + 16 - 15 : Nat) : Int)) (ex_bin rfl (q104.e (j := 66) rfl) rfl (subC9 _ _ (j + 16) 15 (by omega) (by omega) _)) fun _ q105 => ?_;clear q104
      refine q105.t (.pointer (some ⟨w.heap.size, (j + 16 - 15), none⟩)) (ex_ix rfl (q105.e (j := 65) rfl) (q105.e (j := 67) rfl) (ixU0 w.heap.size 64 64 (j + 16 - 15) (by omega) _)) fun _ q106 => ?_;clear q105
      refine q106.t (.int .u32 ((wT b j).getD (j + 16 - 15) 0)) (ex_ld rfl (q106.e (j := 68) rfl) (ldU (B1.u9 (by omega)))) fun _ q107 => ?_;clear q106
      refine q107.t (.int .u32 ((wT b j).getD (j + 16 - 15) 0)) (ex_assign rfl (q107.e (j := 69) rfl)) fun _ q108 => ?_;clear q107
      refine wpList_nil ?_
      go_upto_region 10 with fail
      refine wp_region_lit ?_
      refine q108.t (.slice (some ⟨w.heap.size, 0, none⟩) 64 64) (ex_move rfl (q108.e (j := 7) rfl)) fun _ q109 => ?_;clear q108
      refine q109.t (.int .i64 ((j + 16 : Nat) : Int)) (ex_move rfl (q109.e (j := 9) rfl)) fun _ q110 => ?_;clear q109
      refine q110.t (.int .i64 ((j + 16 - 2 : Nat) : Int)) (ex_bin rfl (q110.e (j := 71) rfl) rfl (subC9 _ _ (j + 16) 2 (by omega) (by omega) _)) fun _ q111 => ?_;clear q110
      refine q111.t (.pointer (some ⟨w.heap.size, (j + 16 - 2), none⟩)) (ex_ix rfl (q111.e (j := 70) rfl) (q111.e (j := 72) rfl) (ixU0 w.heap.size 64 64 (j + 16 - 2) (by omega) _)) fun _ q112 => ?_;clear q111
      refine q112.t (.int .u32 ((wT b j).getD (j + 16 - 2) 0)) (ex_ld rfl (q112.e (j := 73) rfl) (ldU (B1.u9 (by omega)))) fun _ q113 => ?_;clear q112
      refine q113.t (.int .u32 ((wT b j).getD (j + 16 - 2) 0)) (ex_assign rfl (q113.e (j := 74) rfl)) fun _ q114 => ?_;clear q113
      refine wpList_nil ?_
      have q115 := ((((((((Rp.nil q114.z).cons (q114.a 0 rfl)).cons (q114.a 1 rfl)).cons (q114.a 2 rfl)).cons (q114.a 7 rfl)).cons (q114.a 9 rfl)).cons (q114.a 10 rfl)).cons (q114.a 11 rfl))
      clear q114
      obtain ⟨x, hx⟩ : ∃ x, x = (wT b j).getD (j + 16 - 15) 0 := ⟨_, rfl⟩
      obtain ⟨y, hy⟩ : ∃ y, y = (wT b j).getD (j + 16 - 2) 0 := ⟨_, rfl⟩
      rw [← hx, ← hy] at q115
      go_upto_region 11 with fail
      refine vg_start (fun k => k == 32) (fun v => v = wr.drew) (by kernel_rfl) ?_
      have hd : Below wr.heap.size wr wr.drew := (Below.refl _ _).drew
      have hzd : wr.drew.heap.size = wr.heap.size := rfl
      generalize wr.drew = d at *
      have B1d := B1.later hd
      have bd : Below w.heap.size w d := br.trans (hd.mono zr)
      have c16 := B1d.u9 (j := j + 16 - 16) (by omega)
      have c7 := B1d.u9 (j := j + 16 - 7) (by omega)
      have cj := B1d.u9 (j := j + 16) (by omega)
      refine vg_takeW 0 true (.slice (some ⟨w.heap.size, 0, none⟩) 64 64) rfl (by kernel_rfl) (by kernel_rfl) (by kernel_rfl) (by kernel_rfl) (want_none rfl) (fun hc v => ex_move rfl (q115.e (j := 7) rfl)) rfl q115.z (by decide) (fun _ => rfl) (q115.k fun _ q116 => ?_);clear q115
      refine vg_takeW 1 true (.int .i64 ((j + 16 : Nat) : Int)) rfl (by kernel_rfl) (by kernel_rfl) (by kernel_rfl) (by kernel_rfl) (want_none rfl) (fun hc v => ex_move rfl (q116.e (j := 9) rfl)) rfl q116.z (by decide) (fun _ => rfl) (q116.k fun _ q117 => ?_);clear q116
      refine vg_takeW 2 true (.slice (some ⟨w.heap.size, 0, none⟩) 64 64) rfl (by kernel_rfl) (by kernel_rfl) (by kernel_rfl) (by kernel_rfl) (want_none rfl) (fun hc v => ex_move rfl (q117.e (j := 7) rfl)) rfl q117.z (by decide) (fun _ => rfl) (q117.k fun _ q118 => ?_);clear q117
      refine vg_takeW 3 true (.int .i64 ((j + 16 : Nat) : Int)) rfl (by kernel_rfl) (by kernel_rfl) (by kernel_rfl) (by kernel_rfl) (want_none rfl) (fun hc v => ex_move rfl (q118.e (j := 9) rfl)) rfl q118.z (by decide) (fun _ => rfl) (q118.k fun _ q119 => ?_);clear q118
      refine vg_takeW 4 true (.int .i64 ((j + 16 - 16 : Nat) : Int)) rfl (by kernel_rfl) (by kernel_rfl) (by kernel_rfl) (by kernel_rfl) (want_none rfl) (fun hc v => ex_bin rfl (q119.e (j := 78) rfl) rfl (subC9 _ _ (j + 16) 16 (by omega) (by omega) _)) rfl q119.z (by decide) (fun _ => rfl) (q119.k fun _ q120 => ?_);clear q119
      refine vg_takeW 5 true (.pointer (some ⟨w.heap.size, (j + 16 - 16), none⟩)) rfl (by kernel_rfl) (by kernel_rfl) (by kernel_rfl) (by kernel_rfl) (want_none rfl) (fun hc v => ex_ix rfl (q120.e (j := 77) rfl) (q120.e (j := 79) rfl) (ixU0 w.heap.size 64 64 (j + 16 - 16) (by omega) _)) rfl q120.z (by decide) (fun _ => rfl) (q120.k fun _ q121 => ?_);clear q120
      refine vg_take 6 true (.int .u32 ((wT b j).getD (j + 16 - 16) 0)) rfl (by kernel_rfl) (by kernel_rfl) (by kernel_rfl) (by kernel_rfl) (by kernel_rfl) (by kernel_rfl) (want_none rfl) (fun hc v hv => by subst hv; exact ex_ld rfl (q121.e (j := 80) rfl) (ldU c16)) rfl q121.z (by decide) rfl (q121.k fun _ q122 => ?_);clear q121
      refine vg_takeW 16 true (.slice (some ⟨w.heap.size, 0, none⟩) 64 64) rfl (by kernel_rfl) (by kernel_rfl) (by kernel_rfl) (by kernel_rfl) (want_none rfl) (fun hc v => ex_move rfl (q122.e (j := 7) rfl)) rfl q122.z (by decide) (fun _ => rfl) (q122.k fun _ q123 => ?_);clear q122
      refine vg_takeW 17 true (.int .i64 ((j + 16 : Nat) : Int)) rfl (by kernel_rfl) (by kernel_rfl) (by kernel_rfl) (by kernel_rfl) (want_none rfl) (fun hc v => ex_move rfl (q123.e (j := 9) rfl)) rfl q123.z (by decide) (fun _ => rfl) (q123.k fun _ q124 => ?_);clear q123
      refine vg_takeW 18 true (.int .i64 ((j + 16 - 7 : Nat) : Int)) rfl (by kernel_rfl) (by kernel_rfl) (by kernel_rfl) (by kernel_rfl) (want_none rfl) (fun hc v => ex_bin rfl (q124.e (j := 92) rfl) rfl (subC9 _ _ (j + 16) 7 (by omega) (by omega) _)) rfl q124.z (by decide) (fun _ => rfl) (q124.k fun _ q125 => ?_);clear q124
      refine vg_takeW 19 true (.pointer (some ⟨w.heap.size, (j + 16 - 7), none⟩)) rfl (by kernel_rfl) (by kernel_rfl) (by kernel_rfl) (by kernel_rfl) (want_none rfl) (fun hc v => ex_ix rfl (q125.e (j := 91) rfl) (q125.e (j := 93) rfl) (ixU0 w.heap.size 64 64 (j + 16 - 7) (by omega) _)) rfl q125.z (by decide) (fun _ => rfl) (q125.k fun _ q126 => ?_);clear q125
      refine vg_take 20 true (.int .u32 ((wT b j).getD (j + 16 - 7) 0)) rfl (by kernel_rfl) (by kernel_rfl) (by kernel_rfl) (by kernel_rfl) (by kernel_rfl) (by kernel_rfl) (want_none rfl) (fun hc v hv => by subst hv; exact ex_ld rfl (q126.e (j := 94) rfl) (ldU c7)) rfl q126.z (by decide) rfl (q126.k fun _ q127 => ?_);clear q126
      refine vg_takeW 7 true (.int .u32 (x)) rfl (by kernel_rfl) (by kernel_rfl) (by kernel_rfl) (by kernel_rfl) (want_none rfl) (fun hc v => ex_move rfl (q127.e (j := 10) rfl)) rfl q127.z (by decide) (fun _ => rfl) (q127.k fun _ q128 => ?_);clear q127
      refine vg_takeW 9 true (.int .u32 (x)) rfl (by kernel_rfl) (by kernel_rfl) (by kernel_rfl) (by kernel_rfl) (want_none rfl) (fun hc v => ex_move rfl (q128.e (j := 10) rfl)) rfl q128.z (by decide) (fun _ => rfl) (q128.k fun _ q129 => ?_);clear q128
      refine vg_takeW 12 true (.int .u32 (x)) rfl (by kernel_rfl) (by kernel_rfl) (by kernel_rfl) (by kernel_rfl) (want_none rfl) (fun hc v => ex_move rfl (q129.e (j := 10) rfl)) rfl q129.z (by decide) (fun _ => rfl) (q129.k fun _ q130 => ?_);clear q129
      refine vg_takeW 22 true (.int .u32 (y)) rfl (by kernel_rfl) (by kernel_rfl) (by kernel_rfl) (by kernel_rfl) (want_none rfl) (fun hc v => ex_move rfl (q130.e (j := 11) rfl)) rfl q130.z (by decide) (fun _ => rfl) (q130.k fun _ q131 => ?_);clear q130
      refine vg_takeW 24 true (.int .u32 (y)) rfl (by kernel_rfl) (by kernel_rfl) (by kernel_rfl) (by kernel_rfl) (want_none rfl) (fun hc v => ex_move rfl (q131.e (j := 11) rfl)) rfl q131.z (by decide) (fun _ => rfl) (q131.k fun _ q132 => ?_);clear q131
      refine vg_takeW 27 true (.int .u32 (y)) rfl (by kernel_rfl) (by kernel_rfl) (by kernel_rfl) (by kernel_rfl) (want_none rfl) (fun hc v => ex_move rfl (q132.e (j := 11) rfl)) rfl q132.z (by decide) (fun _ => rfl) (q132.k fun _ q133 => ?_);clear q132
      refine vg_takeW 13 true (.int .u32 (x / 2 ^ 3)) rfl (by kernel_rfl) (by kernel_rfl) (by kernel_rfl) (by kernel_rfl) (want_none rfl) (fun hc v => ex_bin rfl (q133.e (j := 87) rfl) rfl (shrUu64 _ _ _ 3 (by decide) _)) rfl q133.z (by decide) (fun _ => rfl) (q133.k fun _ q134 => ?_);clear q133
      refine vg_takeW 28 true (.int .u32 (y / 2 ^ 10)) rfl (by kernel_rfl) (by kernel_rfl) (by kernel_rfl) (by kernel_rfl) (want_none rfl) (fun hc v => ex_bin rfl (q134.e (j := 102) rfl) rfl (shrUu64 _ _ _ 10 (by decide) _)) rfl q134.z (by decide) (fun _ => rfl) (q134.k fun _ q135 => ?_);clear q134
      refine vg_call 8 rfl (by kernel_rfl) (want_none rfl) (ex_call rfl (by simp only [List.map_toArray, List.map_cons, List.map_nil, (q135.e (j := 82) rfl), evc] <;> rfl) rfl) (rror_any x 7 (by decide) d) rfl q135.z (by decide) ?_
      rintro e d ⟨rfl, rfl⟩
      refine ⟨_, rfl, rfl, q135.k fun _ q136 => ?_⟩;clear q135
      refine vg_call 10 rfl (by kernel_rfl) (want_none rfl) (ex_call rfl (by simp only [List.map_toArray, List.map_cons, List.map_nil, (q136.e (j := 84) rfl), evc] <;> rfl) rfl) (rror_any x 18 (by decide) d) rfl q136.z (by decide) ?_
      rintro e d ⟨rfl, rfl⟩
      refine ⟨_, rfl, rfl, q136.k fun _ q137 => ?_⟩;clear q136
      refine vg_takeW 11 true (.int .u32 (xo (ror9 x 7) (ror9 x 18))) rfl (by kernel_rfl) (by kernel_rfl) (by kernel_rfl) (by kernel_rfl) (want_none rfl) (fun hc v => ex_bin rfl (q137.e (j := 83) rfl) (q137.e (j := 85) rfl) (xorU _ _ _ _ _)) rfl q137.z (by decide) (fun _ => rfl) (q137.k fun _ q138 => ?_);clear q137
      refine vg_takeW 14 true (.int .u32 (s09 x)) rfl (by kernel_rfl) (by kernel_rfl) (by kernel_rfl) (by kernel_rfl) (want_none rfl) (fun hc v => ex_bin rfl (q138.e (j := 86) rfl) (q138.e (j := 88) rfl) (xorU _ _ _ _ _)) rfl q138.z (by decide) (fun _ => rfl) (q138.k fun _ q139 => ?_);clear q138
      refine vg_takeW 15 true (.int .u32 (ad ((wT b j).getD (j + 16 - 16) 0) (s09 x))) rfl (by kernel_rfl) (by kernel_rfl) (by kernel_rfl) (by kernel_rfl) (want_none rfl) (fun hc v => ex_bin rfl (q139.e (j := 81) rfl) (q139.e (j := 89) rfl) (addU _ _ _ _ _)) rfl q139.z (by decide) (fun _ => rfl) (q139.k fun _ q140 => ?_);clear q139
      refine vg_takeW 21 true (.int .u32 (ad (ad ((wT b j).getD (j + 16 - 16) 0) (s09 x)) ((wT b j).getD (j + 16 - 7) 0))) rfl (by kernel_rfl) (by kernel_rfl) (by kernel_rfl) (by kernel_rfl) (want_none rfl) (fun hc v => ex_bin rfl (q140.e (j := 90) rfl) (q140.e (j := 95) rfl) (addU _ _ _ _ _)) rfl q140.z (by decide) (fun _ => rfl) (q140.k fun _ q141 => ?_);clear q140
      refine vg_call 23 rfl (by kernel_rfl) (want_none rfl) (ex_call rfl (by simp only [List.map_toArray, List.map_cons, List.map_nil, (q141.e (j := 97) rfl), evc] <;> rfl) rfl) (rror_any y 17 (by decide) d) rfl q141.z (by decide) ?_
      rintro e d ⟨rfl, rfl⟩
      refine ⟨_, rfl, rfl, q141.k fun _ q142 => ?_⟩;clear q141
      refine vg_call 25 rfl (by kernel_rfl) (want_none rfl) (ex_call rfl (by simp only [List.map_toArray, List.map_cons, List.map_nil, (q142.e (j := 99) rfl), evc] <;> rfl) rfl) (rror_any y 19 (by decide) d) rfl q142.z (by decide) ?_
      rintro e d ⟨rfl, rfl⟩
      refine ⟨_, rfl, rfl, q142.k fun _ q143 => ?_⟩;clear q142
      refine vg_takeW 26 true (.int .u32 (xo (ror9 y 17) (ror9 y 19))) rfl (by kernel_rfl) (by kernel_rfl) (by kernel_rfl) (by kernel_rfl) (want_none rfl) (fun hc v => ex_bin rfl (q143.e (j := 98) rfl) (q143.e (j := 100) rfl) (xorU _ _ _ _ _)) rfl q143.z (by decide) (fun _ => rfl) (q143.k fun _ q144 => ?_);clear q143
      refine vg_takeW 29 true (.int .u32 (s19 y)) rfl (by kernel_rfl) (by kernel_rfl) (by kernel_rfl) (by kernel_rfl) (want_none rfl) (fun hc v => ex_bin rfl (q144.e (j := 101) rfl) (q144.e (j := 103) rfl) (xorU _ _ _ _ _)) rfl q144.z (by decide) (fun _ => rfl) (q144.k fun _ q145 => ?_);clear q144
      refine vg_takeW 30 true (.int .u32 (ad (ad (ad ((wT b j).getD (j + 16 - 16) 0) (s09 x)) ((wT b j).getD (j + 16 - 7) 0)) (s19 y))) rfl (by kernel_rfl) (by kernel_rfl) (by kernel_rfl) (by kernel_rfl) (want_none rfl) (fun hc v => ex_bin rfl (q145.e (j := 96) rfl) (q145.e (j := 104) rfl) (addU _ _ _ _ _)) rfl q145.z (by decide) (fun _ => rfl) (q145.k fun _ q146 => ?_);clear q145
      refine vg_takeW 31 true (.pointer (some ⟨w.heap.size, (j + 16), none⟩)) rfl (by kernel_rfl) (by kernel_rfl) (by kernel_rfl) (by kernel_rfl) (want_none rfl) (fun hc v => ex_ix rfl (q146.e (j := 75) rfl) (q146.e (j := 76) rfl) (ixU0 w.heap.size 64 64 (j + 16) (by omega) _)) rfl q146.z (by decide) (fun _ => rfl) (q146.k fun _ q147 => ?_);clear q146
      obtain ⟨d2, hd2⟩ : ∃ z, z = d.setCell ⟨w.heap.size, j + 16, none⟩ (.int .u32 (ad (ad (ad ((wT b j).getD (j + 16 - 16) 0) (s09 x)) ((wT b j).getD (j + 16 - 7) 0)) (s19 y))) := ⟨_, rfl⟩
      refine vg_store 32 d2 rfl (by kernel_rfl) (by kernel_rfl) (want_none rfl) (ex_st rfl (q147.e (j := 106) rfl) (q147.e (j := 105) rfl) (by rw [hd2]; exact stU cj (B1d.free _))) rfl ?_
      have B2 : BB d2 w.heap.size 99 ((wT b (j + 1)).map uV) := by rw [hd2]; subst hx hy; exact B1d.setu _ _
      have be : Below w.heap.size w d2 := by rw [hd2]; exact bd.trans (bel_ge (upd1 _ _ _ _) bd.size (Nat.le_refl _))
      clear hd2
      refine vg_done (by kernel_rfl) ?_
      have q148 := ((((((Rp.nil q147.z).cons (q147.a 0 rfl)).cons (q147.a 1 rfl)).cons (q147.a 2 rfl)).cons (q147.a 7 rfl)).cons (q147.a 9 rfl))
      clear q147
      go_upto_region 8 with fail
      refine wp_region_lit ?_
      refine q148.t (.int .i64 ((j + 16 : Nat) : Int)) (ex_move rfl (q148.e (j := 9) rfl)) fun _ q149 => ?_;clear q148
      refine q149.t (.int .i64 ((j + 16 + 1 : Nat) : Int)) (ex_bin rfl (q149.e (j := 63) rfl) rfl (add1C _ _ (j + 16) (by omega) _)) fun _ q150 => ?_;clear q149
      rw [show j + 16 + 1 = j + 1 + 16 by omega] at q150
      refine q150.t (.int .i64 ((j + 1 + 16 : Nat) : Int)) (ex_assign rfl (q150.e (j := 64) rfl)) fun _ q151 => ?_;clear q150
      have q152 := ((((((Rp.nil q151.z).cons (q151.a 0 rfl)).cons (q151.a 1 rfl)).cons (q151.a 2 rfl)).cons (q151.a 7 rfl)).cons (q151.a 9 rfl))
      clear q151
      refine wpList_nil ?_
      exact ⟨_, rfl, hit, q152, B2, be⟩
    · obtain rfl : j = 48 := by omega
      have B1 : BB wr w.heap.size 99 ((wrds b).map uV) := B1
      go_upto_region 7 with fail
      refine wp_region_lit ?_
      refine q100.t (.int .i64 ((48 + 16 : Nat) : Int)) (ex_move rfl (q100.e (j := 9) rfl)) fun _ q101 => ?_;clear q100
      refine q101.t (.bool false) (ex_bin rfl (q101.e (j := 61) rfl) rfl (ltF _ _ (show ¬ 48 + 16 < 64 by omega) _)) fun _ q102 => ?_;clear q101
      refine wpList_nil ?_
      go_upto_region 12 with fail
      refine wp_cond_false (q102.e (j := 62) rfl) ?_
      go_upto_region 12 with fail
      refine wp_region_lit ?_
      obtain ⟨w2, hk2, Bv, b2⟩ := mku 8 (by decide) wr
      have B1 := B1.later b2
      have d2 : Below w.heap.size w w2 := br.trans (b2.mono zr)
      have z2 := d2.size
      obtain ⟨g, hg⟩ : ∃ g, g = wr.heap.size := ⟨_, rfl⟩
      rw [← hg] at hk2 Bv
      have hgw : w.heap.size < g := by have := B1.lt; have := b2.size; have hb1 := (BB.lt ‹BB wr w.heap.size _ _›); omega
      refine vw (.slice (some ⟨g, 0, none⟩) 8 8) w2 (want_none rfl) (ex_mk19 rfl rfl rfl hk2) rfl q102.z (by decide) (q102.k fun _ q103 => ?_);clear q102
      refine q103.t (.slice (some ⟨g, 0, none⟩) 8 8) (ex_assign rfl (q103.e (j := 107) rfl)) fun _ q104 => ?_;clear q103
      refine wpList_nil ?_
      go_upto_region 13 with fail
      refine wp_region_lit ?_
      refine q104.t (.int .i64 ((0 : Nat) : Int)) (ex_assign rfl rfl) fun _ q105 => ?_;clear q104
      have q106 := ((((((Rp.nil q105.z).cons (q105.a 0 rfl)).cons (q105.a 2 rfl)).cons (q105.a 7 rfl)).cons (q105.a 12 rfl)).cons (q105.a 13 rfl))
      clear q105
      refine wpList_nil ?_
      go_upto_region 14 with fail
      refine v_loop 13 8 (fun j T wr => Rp T 232 [(13, gw true (.int .i64 ((j : Nat) : Int))), (12, gw true (.slice (some ⟨g, 0, none⟩) 8 8)), (7, gw true (.slice (some ⟨w.heap.size, 0, none⟩) 64 64)), (2, gw true (.slice a2 64 c2)), (0, gw true (.slice a 8 c))] ∧ Hid (BB wr g 99 ((cpN s j).map uV) ∧ BB wr w.heap.size 99 ((wrds b).map uV) ∧ Below w.heap.size w wr)) (fun j T w h => h.1.a 13 rfl) ⟨q106, Bv, B1, d2⟩ ?_
      clear q106 Bv B1 d2 z2 b2 hk2 br zr hit hj hg
      intro j T wr hj hh
      obtain ⟨q100, HJ⟩ := hh
      obtain ⟨Bv, B1, br⟩ := HJ.out
      clear HJ
      have zr := br.size
      have hl := cpN_len s j
      by_cases hit : j < 8
      · have cj := Bv.u9 (j := j) (by omega)
        obtain ⟨qs, os, hqs, hqsl, hcs⟩ := (h.on br (Nat.le_refl _)).u9 (j := j) (by omega)
        go_upto_region 14 with fail
        refine wp_region_lit ?_
        refine q100.t (.int .i64 ((j : Nat) : Int)) (ex_move rfl (q100.e (j := 13) rfl)) fun _ q101 => ?_;clear q100
        refine q101.t (.bool true) (ex_bin rfl (q101.e (j := 108) rfl) rfl (ltT _ _ hit _)) fun _ q102 => ?_;clear q101
        refine wpList_nil ?_
        go_upto_region 16 with fail
        refine wp_cond_true (q102.e (j := 109) rfl) ?_
        go_upto_region 16 with fail
        refine wp_region_lit ?_
        refine q102.t (.slice (some ⟨g, 0, none⟩) 8 8) (ex_move rfl (q102.e (j := 12) rfl)) fun _ q103 => ?_;clear q102
        refine q103.t (.int .i64 ((j : Nat) : Int)) (ex_move rfl (q103.e (j := 13) rfl)) fun _ q104 => ?_;clear q103
        refine q104.t (.slice a 8 c) (ex_move rfl (q104.e (j := 0) rfl)) fun _ q105 => ?_;clear q104
        refine q105.t (.int .i64 ((j : Nat) : Int)) (ex_move rfl (q105.e (j := 13) rfl)) fun _ q106 => ?_;clear q105
        refine q106.t (.pointer (some ⟨qs, (os + j), none⟩)) (ex_ix rfl (q106.e (j := 114) rfl) (q106.e (j := 115) rfl) (by rw [hqs]; exact ixU qs os 8 c j hit _)) fun _ q107 => ?_;clear q106
        refine q107.t (.int .u32 (s.l.getD j 0)) (ex_ld rfl (q107.e (j := 116) rfl) (ldU hcs)) fun _ q108 => ?_;clear q107
        refine q108.t (.pointer (some ⟨g, j, none⟩)) (ex_ix rfl (q108.e (j := 112) rfl) (q108.e (j := 113) rfl) (ixU0 g 8 8 j hit _)) fun _ q109 => ?_;clear q108
        obtain ⟨d2, hd2⟩ : ∃ z, z = wr.setCell ⟨g, j, none⟩ (.int .u32 (s.l.getD j 0)) := ⟨_, rfl⟩
        refine vs d2 (want_none rfl) (ex_st rfl (q109.e (j := 118) rfl) (q109.e (j := 117) rfl) (by rw [hd2]; exact stU cj (Bv.free _))) rfl ?_
        have Bv2 : BB d2 g 99 ((cpN s (j + 1)).map uV) := by rw [hd2]; exact Bv.setu _ _
        have ue : Upd (fun k => k = g) wr d2 := by rw [hd2]; exact upd1 _ _ _ _
        have B2 := B1.upd ue (by omega)
        have be : Below w.heap.size w d2 := br.trans (bel_ge ue zr (by omega))
        clear hd2
        have q110 := ((((((Rp.nil q109.z).cons (q109.a 0 rfl)).cons (q109.a 2 rfl)).cons (q109.a 7 rfl)).cons (q109.a 12 rfl)).cons (q109.a 13 rfl))
        clear q109
        refine wpList_nil ?_
        go_upto_region 15 with fail
        refine wp_region_lit ?_
        refine q110.t (.int .i64 ((j : Nat) : Int)) (ex_move rfl (q110.e (j := 13) rfl)) fun _ q111 => ?_;clear q110
        refine q111.t (.int .i64 ((j + 1 : Nat) : Int)) (ex_bin rfl (q111.e (j := 110) rfl) rfl (add1C _ _ j (by omega) _)) fun _ q112 => ?_;clear q111
        refine q112.t (.int .i64 ((j + 1 : Nat) : Int)) (ex_assign rfl (q112.e (j := 111) rfl)) fun _ q113 => ?_;clear q112
        have q114 := ((((((Rp.nil q113.z).cons (q113.a 0 rfl)).cons (q113.a 2 rfl)).cons (q113.a 7 rfl)).cons (q113.a 12 rfl)).cons (q113.a 13 rfl))
        clear q113
        refine wpList_nil ?_
        exact ⟨_, rfl, hit, q114, Bv2, B2, be⟩
      · obtain rfl : j = 8 := by omega
        rw [cpN_8] at Bv
        go_upto_region 14 with fail
        refine wp_region_lit ?_
        refine q100.t (.int .i64 ((8 : Nat) : Int)) (ex_move rfl (q100.e (j := 13) rfl)) fun _ q101 => ?_;clear q100
        refine q101.t (.bool false) (ex_bin rfl (q101.e (j := 108) rfl) rfl (ltF _ _ hit _)) fun _ q102 => ?_;clear q101
        refine wpList_nil ?_
        go_upto_region 17 with fail
        refine wp_cond_false (q102.e (j := 109) rfl) ?_
        go_upto_region 17 with fail
        refine wp_region_lit ?_
        refine q102.t (.int .i64 ((0 : Nat) : Int)) (ex_assign rfl rfl) fun _ q103 => ?_;clear q102
        have q104 := ((((((Rp.nil q103.z).cons (q103.a 0 rfl)).cons (q103.a 2 rfl)).cons (q103.a 7 rfl)).cons (q103.a 12 rfl)).cons (q103.a 14 rfl))
        clear q103
        refine wpList_nil ?_
        go_upto_region 18 with fail
        refine v_loop 14 64 (fun j T wr => ∃ g, Rp T 232 [(14, gw true (.int .i64 ((j : Nat) : Int))), (12, gw true (.slice (some ⟨g, 0, none⟩) 8 8)), (7, gw true (.slice (some ⟨w.heap.size, 0, none⟩) 64 64)), (2, gw true (.slice a2 64 c2)), (0, gw true (.slice a 8 c))] ∧ Hid (w.heap.size < g ∧ BB wr g 99 ((rN kT9 (wrds b) s j).l.map uV) ∧ BB wr w.heap.size 99 ((wrds b).map uV) ∧ Below w.heap.size w wr)) (fun j T w h => by obtain ⟨g, h, _⟩ := h; exact h.a 14 rfl) ⟨g, q104, hgw, Bv, B1, br⟩ ?_
        clear q104 Bv B1 br zr hit hj hgw
        intro j T wr hj hh
        obtain ⟨g, q100, HJ⟩ := hh
        obtain ⟨hgw, Bv, B1, br⟩ := HJ.out
        clear HJ
        have zr := br.size
        have hwl : (wrds b).length = 64 := wT_len b 48
        by_cases hit : j < 64
        · obtain ⟨t, ht⟩ : ∃ t, t = (rN kT9 (wrds b) s j) := ⟨_, rfl⟩
          rw [← ht] at Bv
          go_upto_region 18 with fail
          refine wp_region_lit ?_
          refine q100.t (.int .i64 ((j : Nat) : Int)) (ex_move rfl (q100.e (j := 14) rfl)) fun _ q101 => ?_;clear q100
          refine q101.t (.bool true) (ex_bin rfl (q101.e (j := 119) rfl) rfl (ltT _ _ hit _)) fun _ q102 => ?_;clear q101
          refine wpList_nil ?_
          go_upto_region 20 with fail
          refine wp_cond_true (q102.e (j := 120) rfl) ?_
          go_upto_region 20 with fail
          refine wp_region_lit ?_
          refine q102.t (.slice (some ⟨g, 0, none⟩) 8 8) (ex_move rfl (q102.e (j := 12) rfl)) fun _ q103 => ?_;clear q102
          refine q103.t (.pointer (some ⟨g, 4, none⟩)) (ex_ix rfl (q103.e (j := 123) rfl) rfl (ixU0 g 8 8 4 (by decide) _)) fun _ q104 => ?_;clear q103
          refine q104.t (.int .u32 (t.e)) (ex_ld rfl (q104.e (j := 124) rfl) (ldU ((Bv.cell 4).trans rfl))) fun _ q105 => ?_;clear q104
          refine q105.t (.int .u32 (t.e)) (ex_assign rfl (q105.e (j := 125) rfl)) fun _ q106 => ?_;clear q105
          refine wpList_nil ?_
          go_upto_region 21 with fail
          refine wp_region_lit ?_
          refine q106.t (.slice (some ⟨g, 0, none⟩) 8 8) (ex_move rfl (q106.e (j := 12) rfl)) fun _ q107 => ?_;clear q106
          refine q107.t (.pointer (some ⟨g, 0, none⟩)) (ex_ix rfl (q107.e (j := 126) rfl) rfl (ixU0 g 8 8 0 (by decide) _)) fun _ q108 => ?_;clear q107
          refine q108.t (.int .u32 (t.a)) (ex_ld rfl (q108.e (j := 127) rfl) (ldU ((Bv.cell 0).trans rfl))) fun _ q109 => ?_;clear q108
          refine q109.t (.int .u32 (t.a)) (ex_assign rfl (q109.e (j := 128) rfl)) fun _ q110 => ?_;clear q109
          refine wpList_nil ?_
          have q111 := ((((((((Rp.nil q110.z).cons (q110.a 0 rfl)).cons (q110.a 2 rfl)).cons (q110.a 7 rfl)).cons (q110.a 12 rfl)).cons (q110.a 14 rfl)).cons (q110.a 15 rfl)).cons (q110.a 16 rfl))
          clear q110
          go_upto_region 22 with fail
          refine vq_start (C := fun v => v = wr.drew) (by kernel_rfl) (by kernel_rfl) rfl ?_
          have hd : Below wr.heap.size wr wr.drew := (Below.refl _ _).drew
          have hzd : wr.drew.heap.size = wr.heap.size := rfl
          generalize wr.drew = d at *
          have Bvd := Bv.later hd
          have B1d := B1.later hd
          have bd : Below w.heap.size w d := br.trans (hd.mono zr)
          obtain ⟨qk, ok, hqk, hqkl, hck⟩ := (h2.on bd (Nat.le_refl _)).u9 (j := j) (by omega)
          refine q111.q (.slice (some ⟨g, 0, none⟩) 8 8) (fun v hv => ex_move rfl (q111.e (j := 12) rfl)) fun _ q112 => ?_;clear q111
          refine q112.q (.pointer (some ⟨g, 7, none⟩)) (fun v hv => ex_ix rfl (q112.e (j := 129) rfl) rfl (ixU0 g 8 8 7 (by decide) _)) fun _ q113 => ?_;clear q112
          refine q113.q (.int .u32 (t.h)) (fun v hv => by subst hv; exact ex_ld rfl (q113.e (j := 130) rfl) (ldU ((Bvd.cell 7).trans rfl))) fun _ q114 => ?_;clear q113
          refine q114.q (.int .u32 (t.e)) (fun v hv => ex_move rfl (q114.e (j := 15) rfl)) fun _ q115 => ?_;clear q114
          refine vq_call18 (true) (.int .u32 (ror9 t.e 6)) (want_none rfl) (fun hc v hv => ex_call rfl (by simp only [List.map_toArray, List.map_cons, List.map_nil, (q115.e (j := 132) rfl), evc] <;> rfl) rfl) (fun hc v hv => (rror_any t.e 6 (by decide) v).mono fun e9 w9 h9 => ⟨h9.1, h9.2.trans hv⟩) rfl q115.z (by decide) (q115.k fun _ q116 => ?_);clear q115
          refine q116.q (.int .u32 (t.e)) (fun v hv => ex_move rfl (q116.e (j := 15) rfl)) fun _ q117 => ?_;clear q116
          refine vq_call18 (true) (.int .u32 (ror9 t.e 11)) (want_none rfl) (fun hc v hv => ex_call rfl (by simp only [List.map_toArray, List.map_cons, List.map_nil, (q117.e (j := 134) rfl), evc] <;> rfl) rfl) (fun hc v hv => (rror_any t.e 11 (by decide) v).mono fun e9 w9 h9 => ⟨h9.1, h9.2.trans hv⟩) rfl q117.z (by decide) (q117.k fun _ q118 => ?_);clear q117
          refine q118.q (.int .u32 (xo (ror9 t.e 6) (ror9 t.e 11))) (fun v hv => ex_bin rfl (q118.e (j := 133) rfl) (q118.e (j := 135) rfl) (xorU _ _ _ _ _)) fun _ q119 => ?_;clear q118
          refine q119.q (.int .u32 (t.e)) (fun v hv => ex_move rfl (q119.e (j := 15) rfl)) fun _ q120 => ?_;clear q119
          refine vq_call18 (true) (.int .u32 (ror9 t.e 25)) (want_none rfl) (fun hc v hv => ex_call rfl (by simp only [List.map_toArray, List.map_cons, List.map_nil, (q120.e (j := 137) rfl), evc] <;> rfl) rfl) (fun hc v hv => (rror_any t.e 25 (by decide) v).mono fun e9 w9 h9 => ⟨h9.1, h9.2.trans hv⟩) rfl q120.z (by decide) (q120.k fun _ q121 => ?_);clear q120
          refine q121.q (.int .u32 (xo (xo (ror9 t.e 6) (ror9 t.e 11)) (ror9 t.e 25))) (fun v hv => ex_bin rfl (q121.e (j := 136) rfl) (q121.e (j := 138) rfl) (xorU _ _ _ _ _)) fun _ q122 => ?_;clear q121
          refine q122.q (.int .u32 (ad t.h (xo (xo (ror9 t.e 6) (ror9 t.e 11)) (ror9 t.e 25)))) (fun v hv => ex_bin rfl (q122.e (j := 131) rfl) (q122.e (j := 139) rfl) (addU _ _ _ _ _)) fun _ q123 => ?_;clear q122
          refine q123.q (.int .u32 (t.e)) (fun v hv => ex_move rfl (q123.e (j := 15) rfl)) fun _ q124 => ?_;clear q123
          refine q124.q (.slice (some ⟨g, 0, none⟩) 8 8) (fun v hv => ex_move rfl (q124.e (j := 12) rfl)) fun _ q125 => ?_;clear q124
          refine q125.q (.pointer (some ⟨g, 5, none⟩)) (fun v hv => ex_ix rfl (q125.e (j := 142) rfl) rfl (ixU0 g 8 8 5 (by decide) _)) fun _ q126 => ?_;clear q125
          refine q126.q (.int .u32 (t.f)) (fun v hv => by subst hv; exact ex_ld rfl (q126.e (j := 143) rfl) (ldU ((Bvd.cell 5).trans rfl))) fun _ q127 => ?_;clear q126
          refine q127.q (.int .u32 (an t.e t.f)) (fun v hv => ex_bin rfl (q127.e (j := 141) rfl) (q127.e (j := 144) rfl) (andU _ _ _ _ _)) fun _ q128 => ?_;clear q127
          refine q128.q (.int .u32 (t.e)) (fun v hv => ex_move rfl (q128.e (j := 15) rfl)) fun _ q129 => ?_;clear q128
          refine q129.q (.int .u32 (nt t.e)) (fun v hv => ex_un19 rfl (q129.e (j := 146) rfl)) fun _ q130 => ?_;clear q129
          refine q130.q (.slice (some ⟨g, 0, none⟩) 8 8) (fun v hv => ex_move rfl (q130.e (j := 12) rfl)) fun _ q131 => ?_;clear q130
          refine q131.q (.pointer (some ⟨g, 6, none⟩)) (fun v hv => ex_ix rfl (q131.e (j := 148) rfl) rfl (ixU0 g 8 8 6 (by decide) _)) fun _ q132 => ?_;clear q131
          refine q132.q (.int .u32 (t.g)) (fun v hv => by subst hv; exact ex_ld rfl (q132.e (j := 149) rfl) (ldU ((Bvd.cell 6).trans rfl))) fun _ q133 => ?_;clear q132
          refine q133.q (.int .u32 (an (nt t.e) t.g)) (fun v hv => ex_bin rfl (q133.e (j := 147) rfl) (q133.e (j := 150) rfl) (andU _ _ _ _ _)) fun _ q134 => ?_;clear q133
          refine q134.q (.int .u32 (xo (an t.e t.f) (an (nt t.e) t.g))) (fun v hv => ex_bin rfl (q134.e (j := 145) rfl) (q134.e (j := 151) rfl) (xorU _ _ _ _ _)) fun _ q135 => ?_;clear q134
          refine q135.q (.int .u32 (ad (ad t.h (xo (xo (ror9 t.e 6) (ror9 t.e 11)) (ror9 t.e 25))) (xo (an t.e t.f) (an (nt t.e) t.g)))) (fun v hv => ex_bin rfl (q135.e (j := 140) rfl) (q135.e (j := 152) rfl) (addU _ _ _ _ _)) fun _ q136 => ?_;clear q135
          refine q136.q (.slice a2 64 c2) (fun v hv => ex_move rfl (q136.e (j := 2) rfl)) fun _ q137 => ?_;clear q136
          refine q137.q (.int .i64 ((j : Nat) : Int)) (fun v hv => ex_move rfl (q137.e (j := 14) rfl)) fun _ q138 => ?_;clear q137
          refine q138.q (.pointer (some ⟨qk, (ok + j), none⟩)) (fun v hv => ex_ix rfl (q138.e (j := 154) rfl) (q138.e (j := 155) rfl) (by rw [hqk]; exact ixU qk ok 64 c2 j hit _)) fun _ q139 => ?_;clear q138
          refine q139.q (.int .u32 (kT9.getD j 0)) (fun v hv => by subst hv; exact ex_ld rfl (q139.e (j := 156) rfl) (ldU hck)) fun _ q140 => ?_;clear q139
          refine q140.q (.int .u32 (ad (ad (ad t.h (xo (xo (ror9 t.e 6) (ror9 t.e 11)) (ror9 t.e 25))) (xo (an t.e t.f) (an (nt t.e) t.g))) (kT9.getD j 0))) (fun v hv => ex_bin rfl (q140.e (j := 153) rfl) (q140.e (j := 157) rfl) (addU _ _ _ _ _)) fun _ q141 => ?_;clear q140
          refine q141.q (.slice (some ⟨w.heap.size, 0, none⟩) 64 64) (fun v hv => ex_move rfl (q141.e (j := 7) rfl)) fun _ q142 => ?_;clear q141
          refine q142.q (.int .i64 ((j : Nat) : Int)) (fun v hv => ex_move rfl (q142.e (j := 14) rfl)) fun _ q143 => ?_;clear q142
          refine q143.q (.pointer (some ⟨w.heap.size, j, none⟩)) (fun v hv => ex_ix rfl (q143.e (j := 159) rfl) (q143.e (j := 160) rfl) (ixU0 w.heap.size 64 64 j hit _)) fun _ q144 => ?_;clear q143
          refine q144.q (.int .u32 ((wrds b).getD j 0)) (fun v hv => by subst hv; exact ex_ld rfl (q144.e (j := 161) rfl) (ldU (B1d.u9 (by omega)))) fun _ q145 => ?_;clear q144
          refine q145.q (.int .u32 (t19 t (kT9.getD j 0) ((wrds b).getD j 0))) (fun v hv => ex_bin rfl (q145.e (j := 158) rfl) (q145.e (j := 162) rfl) (addU _ _ _ _ _)) fun _ q146 => ?_;clear q145
          refine q146.q (.int .u32 (t19 t (kT9.getD j 0) ((wrds b).getD j 0))) (fun v hv => ex_assign rfl (q146.e (j := 163) rfl)) fun _ q147 => ?_;clear q146
          refine vq_nil (fun r1 hr1 => ?_)
          subst hr1
          have q148 := (((((((((Rp.nil q147.z).cons (q147.a 0 rfl)).cons (q147.a 2 rfl)).cons (q147.a 7 rfl)).cons (q147.a 12 rfl)).cons (q147.a 14 rfl)).cons (q147.a 15 rfl)).cons (q147.a 16 rfl)).cons (q147.a 17 rfl))
          clear q147
          obtain ⟨y1, hy1⟩ : ∃ y, y = t19 t (kT9.getD j 0) ((wrds b).getD j 0) := ⟨_, rfl⟩
          rw [← hy1] at q148
          have zd := bd.size
          go_upto_region 23 with fail
          refine vq_start (C := fun v => v = r1.drew) (by kernel_rfl) (by kernel_rfl) rfl ?_
          have he : Below r1.heap.size r1 r1.drew := (Below.refl _ _).drew
          have hze : r1.drew.heap.size = r1.heap.size := rfl
          generalize r1.drew = e at *
          have Bve := Bvd.later he
          have be : Below w.heap.size w e := bd.trans (he.mono zd)
          refine q148.q (.int .u32 (t.a)) (fun v hv => ex_move rfl (q148.e (j := 16) rfl)) fun _ q149 => ?_;clear q148
          refine vq_call18 (true) (.int .u32 (ror9 t.a 2)) (want_none rfl) (fun hc v hv => ex_call rfl (by simp only [List.map_toArray, List.map_cons, List.map_nil, (q149.e (j := 164) rfl), evc] <;> rfl) rfl) (fun hc v hv => (rror_any t.a 2 (by decide) v).mono fun e9 w9 h9 => ⟨h9.1, h9.2.trans hv⟩) rfl q149.z (by decide) (q149.k fun _ q150 => ?_);clear q149
          refine q150.q (.int .u32 (t.a)) (fun v hv => ex_move rfl (q150.e (j := 16) rfl)) fun _ q151 => ?_;clear q150
          refine vq_call18 (true) (.int .u32 (ror9 t.a 13)) (want_none rfl) (fun hc v hv => ex_call rfl (by simp only [List.map_toArray, List.map_cons, List.map_nil, (q151.e (j := 166) rfl), evc] <;> rfl) rfl) (fun hc v hv => (rror_any t.a 13 (by decide) v).mono fun e9 w9 h9 => ⟨h9.1, h9.2.trans hv⟩) rfl q151.z (by decide) (q151.k fun _ q152 => ?_);clear q151
          refine q152.q (.int .u32 (xo (ror9 t.a 2) (ror9 t.a 13))) (fun v hv => ex_bin rfl (q152.e (j := 165) rfl) (q152.e (j := 167) rfl) (xorU _ _ _ _ _)) fun _ q153 => ?_;clear q152
          refine q153.q (.int .u32 (t.a)) (fun v hv => ex_move rfl (q153.e (j := 16) rfl)) fun _ q154 => ?_;clear q153
          refine vq_call18 (true) (.int .u32 (ror9 t.a 22)) (want_none rfl) (fun hc v hv => ex_call rfl (by simp only [List.map_toArray, List.map_cons, List.map_nil, (q154.e (j := 169) rfl), evc] <;> rfl) rfl) (fun hc v hv => (rror_any t.a 22 (by decide) v).mono fun e9 w9 h9 => ⟨h9.1, h9.2.trans hv⟩) rfl q154.z (by decide) (q154.k fun _ q155 => ?_);clear q154
          refine q155.q (.int .u32 (xo (xo (ror9 t.a 2) (ror9 t.a 13)) (ror9 t.a 22))) (fun v hv => ex_bin rfl (q155.e (j := 168) rfl) (q155.e (j := 170) rfl) (xorU _ _ _ _ _)) fun _ q156 => ?_;clear q155
          refine q156.q (.int .u32 (t.a)) (fun v hv => ex_move rfl (q156.e (j := 16) rfl)) fun _ q157 => ?_;clear q156
          refine q157.q (.slice (some ⟨g, 0, none⟩) 8 8) (fun v hv => ex_move rfl (q157.e (j := 12) rfl)) fun _ q158 => ?_;clear q157
          refine q158.q (.pointer (some ⟨g, 1, none⟩)) (fun v hv => ex_ix rfl (q158.e (j := 173) rfl) rfl (ixU0 g 8 8 1 (by decide) _)) fun _ q159 => ?_;clear q158
          refine q159.q (.int .u32 (t.b)) (fun v hv => by subst hv; exact ex_ld rfl (q159.e (j := 174) rfl) (ldU ((Bve.cell 1).trans rfl))) fun _ q160 => ?_;clear q159
          refine q160.q (.int .u32 (an t.a t.b)) (fun v hv => ex_bin rfl (q160.e (j := 172) rfl) (q160.e (j := 175) rfl) (andU _ _ _ _ _)) fun _ q161 => ?_;clear q160
          refine q161.q (.int .u32 (t.a)) (fun v hv => ex_move rfl (q161.e (j := 16) rfl)) fun _ q162 => ?_;clear q161
          refine q162.q (.slice (some ⟨g, 0, none⟩) 8 8) (fun v hv => ex_move rfl (q162.e (j := 12) rfl)) fun _ q163 => ?_;clear q162
          refine q163.q (.pointer (some ⟨g, 2, none⟩)) (fun v hv => ex_ix rfl (q163.e (j := 178) rfl) rfl (ixU0 g 8 8 2 (by decide) _)) fun _ q164 => ?_;clear q163
          refine q164.q (.int .u32 (t.c)) (fun v hv => by subst hv; exact ex_ld rfl (q164.e (j := 179) rfl) (ldU ((Bve.cell 2).trans rfl))) fun _ q165 => ?_;clear q164
          refine q165.q (.int .u32 (an t.a t.c)) (fun v hv => ex_bin rfl (q165.e (j := 177) rfl) (q165.e (j := 180) rfl) (andU _ _ _ _ _)) fun _ q166 => ?_;clear q165
          refine q166.q (.int .u32 (xo (an t.a t.b) (an t.a t.c))) (fun v hv => ex_bin rfl (q166.e (j := 176) rfl) (q166.e (j := 181) rfl) (xorU _ _ _ _ _)) fun _ q167 => ?_;clear q166
          refine q167.q (.slice (some ⟨g, 0, none⟩) 8 8) (fun v hv => ex_move rfl (q167.e (j := 12) rfl)) fun _ q168 => ?_;clear q167
          refine q168.q (.pointer (some ⟨g, 1, none⟩)) (fun v hv => ex_ix rfl (q168.e (j := 183) rfl) rfl (ixU0 g 8 8 1 (by decide) _)) fun _ q169 => ?_;clear q168
          refine q169.q (.int .u32 (t.b)) (fun v hv => by subst hv; exact ex_ld rfl (q169.e (j := 184) rfl) (ldU ((Bve.cell 1).trans rfl))) fun _ q170 => ?_;clear q169
          refine q170.q (.slice (some ⟨g, 0, none⟩) 8 8) (fun v hv => ex_move rfl (q170.e (j := 12) rfl)) fun _ q171 => ?_;clear q170
          refine q171.q (.pointer (some ⟨g, 2, none⟩)) (fun v hv => ex_ix rfl (q171.e (j := 186) rfl) rfl (ixU0 g 8 8 2 (by decide) _)) fun _ q172 => ?_;clear q171
          refine q172.q (.int .u32 (t.c)) (fun v hv => by subst hv; exact ex_ld rfl (q172.e (j := 187) rfl) (ldU ((Bve.cell 2).trans rfl))) fun _ q173 => ?_;clear q172
          refine q173.q (.int .u32 (an t.b t.c)) (fun v hv => ex_bin rfl (q173.e (j := 185) rfl) (q173.e (j := 188) rfl) (andU _ _ _ _ _)) fun _ q174 => ?_;clear q173
          refine q174.q (.int .u32 (xo (xo (an t.a t.b) (an t.a t.c)) (an t.b t.c))) (fun v hv => ex_bin rfl (q174.e (j := 182) rfl) (q174.e (j := 189) rfl) (xorU _ _ _ _ _)) fun _ q175 => ?_;clear q174
          refine q175.q (.int .u32 (t29 t)) (fun v hv => ex_bin rfl (q175.e (j := 171) rfl) (q175.e (j := 190) rfl) (addU _ _ _ _ _)) fun _ q176 => ?_;clear q175
          refine q176.q (.int .u32 (t29 t)) (fun v hv => ex_assign rfl (q176.e (j := 191) rfl)) fun _ q177 => ?_;clear q176
          refine vq_nil (fun r2 hr2 => ?_)
          subst hr2
          have q178 := ((((((((((Rp.nil q177.z).cons (q177.a 0 rfl)).cons (q177.a 2 rfl)).cons (q177.a 7 rfl)).cons (q177.a 12 rfl)).cons (q177.a 14 rfl)).cons (q177.a 15 rfl)).cons (q177.a 16 rfl)).cons (q177.a 17 rfl)).cons (q177.a 18 rfl))
          clear q177
          go_upto_region 24 with fail
          refine vg_start (fun _ => false) (fun v => BB v g 99 (t.l.map uV)) (by kernel_rfl) ?_
          have hf : Below r2.heap.size r2 r2.drew := (Below.refl _ _).drew
          have hzf : r2.drew.heap.size = r2.heap.size := rfl
          generalize r2.drew = f at *
          have Bvf := Bve.later hf
          have bf : Below w.heap.size w f := be.trans (hf.mono be.size)
          have B1f := ((B1d.later he)).later hf
          refine vg_takeW 0 true (.int .u32 (y1)) rfl (by kernel_rfl) (by kernel_rfl) (by kernel_rfl) (by kernel_rfl) (want_none rfl) (fun hc v => ex_move rfl (q178.e (j := 17) rfl)) rfl q178.z (by decide) (fun _ => Bvf) (q178.k fun _ q179 => ?_);clear q178
          refine vg_takeW 1 true (.int .u32 (t29 t)) rfl (by kernel_rfl) (by kernel_rfl) (by kernel_rfl) (by kernel_rfl) (want_none rfl) (fun hc v => ex_move rfl (q179.e (j := 18) rfl)) rfl q179.z (by decide) (fun _ => Bvf) (q179.k fun _ q180 => ?_);clear q179
          refine vg_takeW 2 true (.int .u32 (ad y1 (t29 t))) rfl (by kernel_rfl) (by kernel_rfl) (by kernel_rfl) (by kernel_rfl) (want_none rfl) (fun hc v => ex_bin rfl (q180.e (j := 192) rfl) (q180.e (j := 193) rfl) (addU _ _ _ _ _)) rfl q180.z (by decide) (fun _ => Bvf) (q180.k fun _ q181 => ?_);clear q180
          refine vg_takeW 3 true (.int .u32 (t.a)) rfl (by kernel_rfl) (by kernel_rfl) (by kernel_rfl) (by kernel_rfl) (want_none rfl) (fun hc v => ex_move rfl (q181.e (j := 16) rfl)) rfl q181.z (by decide) (fun _ => Bvf) (q181.k fun _ q182 => ?_);clear q181
          refine vg_takeW 4 true (.slice (some ⟨g, 0, none⟩) 8 8) rfl (by kernel_rfl) (by kernel_rfl) (by kernel_rfl) (by kernel_rfl) (want_none rfl) (fun hc v => ex_move rfl (q182.e (j := 12) rfl)) rfl q182.z (by decide) (fun _ => Bvf) (q182.k fun _ q183 => ?_);clear q182
          refine vg_takeW 5 true (.pointer (some ⟨g, 1, none⟩)) rfl (by kernel_rfl) (by kernel_rfl) (by kernel_rfl) (by kernel_rfl) (want_none rfl) (fun hc v => ex_ix rfl (q183.e (j := 196) rfl) rfl (ixU0 g 8 8 1 (by decide) _)) rfl q183.z (by decide) (fun _ => Bvf) (q183.k fun _ q184 => ?_);clear q183
          refine vg_take 6 true (.int .u32 (t.b)) rfl (by kernel_rfl) (by kernel_rfl) (by kernel_rfl) (by kernel_rfl) (by kernel_rfl) (by kernel_rfl) (want_none rfl) (fun hc v hv => ex_ld rfl (q184.e (j := 197) rfl) (ldU ((hv.cell 1).trans rfl))) rfl q184.z (by decide) Bvf (q184.k fun _ q185 => ?_);clear q184
          refine vg_takeW 7 true (.slice (some ⟨g, 0, none⟩) 8 8) rfl (by kernel_rfl) (by kernel_rfl) (by kernel_rfl) (by kernel_rfl) (want_none rfl) (fun hc v => ex_move rfl (q185.e (j := 12) rfl)) rfl q185.z (by decide) (fun _ => Bvf) (q185.k fun _ q186 => ?_);clear q185
          refine vg_takeW 8 true (.pointer (some ⟨g, 2, none⟩)) rfl (by kernel_rfl) (by kernel_rfl) (by kernel_rfl) (by kernel_rfl) (want_none rfl) (fun hc v => ex_ix rfl (q186.e (j := 199) rfl) rfl (ixU0 g 8 8 2 (by decide) _)) rfl q186.z (by decide) (fun _ => Bvf) (q186.k fun _ q187 => ?_);clear q186
          refine vg_take 9 true (.int .u32 (t.c)) rfl (by kernel_rfl) (by kernel_rfl) (by kernel_rfl) (by kernel_rfl) (by kernel_rfl) (by kernel_rfl) (want_none rfl) (fun hc v hv => ex_ld rfl (q187.e (j := 200) rfl) (ldU ((hv.cell 2).trans rfl))) rfl q187.z (by decide) Bvf (q187.k fun _ q188 => ?_);clear q187
          refine vg_takeW 10 true (.slice (some ⟨g, 0, none⟩) 8 8) rfl (by kernel_rfl) (by kernel_rfl) (by kernel_rfl) (by kernel_rfl) (want_none rfl) (fun hc v => ex_move rfl (q188.e (j := 12) rfl)) rfl q188.z (by decide) (fun _ => Bvf) (q188.k fun _ q189 => ?_);clear q188
          refine vg_takeW 11 true (.pointer (some ⟨g, 3, none⟩)) rfl (by kernel_rfl) (by kernel_rfl) (by kernel_rfl) (by kernel_rfl) (want_none rfl) (fun hc v => ex_ix rfl (q189.e (j := 202) rfl) rfl (ixU0 g 8 8 3 (by decide) _)) rfl q189.z (by decide) (fun _ => Bvf) (q189.k fun _ q190 => ?_);clear q189
          refine vg_take 12 true (.int .u32 (t.d)) rfl (by kernel_rfl) (by kernel_rfl) (by kernel_rfl) (by kernel_rfl) (by kernel_rfl) (by kernel_rfl) (want_none rfl) (fun hc v hv => ex_ld rfl (q190.e (j := 203) rfl) (ldU ((hv.cell 3).trans rfl))) rfl q190.z (by decide) Bvf (q190.k fun _ q191 => ?_);clear q190
          refine vg_takeW 13 true (.int .u32 (y1)) rfl (by kernel_rfl) (by kernel_rfl) (by kernel_rfl) (by kernel_rfl) (want_none rfl) (fun hc v => ex_move rfl (q191.e (j := 17) rfl)) rfl q191.z (by decide) (fun _ => Bvf) (q191.k fun _ q192 => ?_);clear q191
          refine vg_takeW 14 true (.int .u32 (ad t.d y1)) rfl (by kernel_rfl) (by kernel_rfl) (by kernel_rfl) (by kernel_rfl) (want_none rfl) (fun hc v => ex_bin rfl (q192.e (j := 204) rfl) (q192.e (j := 205) rfl) (addU _ _ _ _ _)) rfl q192.z (by decide) (fun _ => Bvf) (q192.k fun _ q193 => ?_);clear q192
          refine vg_takeW 15 true (.int .u32 (t.e)) rfl (by kernel_rfl) (by kernel_rfl) (by kernel_rfl) (by kernel_rfl) (want_none rfl) (fun hc v => ex_move rfl (q193.e (j := 15) rfl)) rfl q193.z (by decide) (fun _ => Bvf) (q193.k fun _ q194 => ?_);clear q193
          refine vg_takeW 16 true (.slice (some ⟨g, 0, none⟩) 8 8) rfl (by kernel_rfl) (by kernel_rfl) (by kernel_rfl) (by kernel_rfl) (want_none rfl) (fun hc v => ex_move rfl (q194.e (j := 12) rfl)) rfl q194.z (by decide) (fun _ => Bvf) (q194.k fun _ q195 => ?_);clear q194
          refine vg_takeW 17 true (.pointer (some ⟨g, 5, none⟩)) rfl (by kernel_rfl) (by kernel_rfl) (by kernel_rfl) (by kernel_rfl) (want_none rfl) (fun hc v => ex_ix rfl (q195.e (j := 208) rfl) rfl (ixU0 g 8 8 5 (by decide) _)) rfl q195.z (by decide) (fun _ => Bvf) (q195.k fun _ q196 => ?_);clear q195
          refine vg_take 18 true (.int .u32 (t.f)) rfl (by kernel_rfl) (by kernel_rfl) (by kernel_rfl) (by kernel_rfl) (by kernel_rfl) (by kernel_rfl) (want_none rfl) (fun hc v hv => ex_ld rfl (q196.e (j := 209) rfl) (ldU ((hv.cell 5).trans rfl))) rfl q196.z (by decide) Bvf (q196.k fun _ q197 => ?_);clear q196
          refine vg_takeW 19 true (.slice (some ⟨g, 0, none⟩) 8 8) rfl (by kernel_rfl) (by kernel_rfl) (by kernel_rfl) (by kernel_rfl) (want_none rfl) (fun hc v => ex_move rfl (q197.e (j := 12) rfl)) rfl q197.z (by decide) (fun _ => Bvf) (q197.k fun _ q198 => ?_);clear q197
          refine vg_takeW 20 true (.pointer (some ⟨g, 6, none⟩)) rfl (by kernel_rfl) (by kernel_rfl) (by kernel_rfl) (by kernel_rfl) (want_none rfl) (fun hc v => ex_ix rfl (q198.e (j := 211) rfl) rfl (ixU0 g 8 8 6 (by decide) _)) rfl q198.z (by decide) (fun _ => Bvf) (q198.k fun _ q199 => ?_);clear q198
          refine vg_take 21 true (.int .u32 (t.g)) rfl (by kernel_rfl) (by kernel_rfl) (by kernel_rfl) (by kernel_rfl) (by kernel_rfl) (by kernel_rfl) (want_none rfl) (fun hc v hv => ex_ld rfl (q199.e (j := 212) rfl) (ldU ((hv.cell 6).trans rfl))) rfl q199.z (by decide) Bvf (q199.k fun _ q200 => ?_);clear q199
          obtain ⟨f2, hf2⟩ : ∃ z, z = f.alloc (.cells ((⟨ad y1 (t29 t), t.a, t.b, t.c, ad t.d y1, t.e, t.f, t.g⟩ : St).l.map uV).toArray 99) := ⟨_, rfl⟩
          have Bn : BB f2 f.heap.size 99 ((⟨ad y1 (t29 t), t.a, t.b, t.c, ad t.d y1, t.e, t.f, t.g⟩ : St).l.map uV) := by rw [hf2]; exact BB.new _ _ _
          have bf2 : Below f.heap.size f f2 := by rw [hf2]; exact (Below.refl _ _).alloc (Nat.le_refl _) _
          refine vg_val 22 (.slice (some ⟨f.heap.size, 0, none⟩) 8 8) f2 rfl (by kernel_rfl) (want_none rfl) (ex_bs8 rfl (q200.e (j := 194) rfl) (q200.e (j := 195) rfl) (q200.e (j := 198) rfl) (q200.e (j := 201) rfl) (q200.e (j := 206) rfl) (q200.e (j := 207) rfl) (q200.e (j := 210) rfl) (q200.e (j := 213) rfl) (by rw [hf2]; exact bs8U (⟨ad y1 (t29 t), t.a, t.b, t.c, ad t.d y1, t.e, t.f, t.g⟩ : St) _)) rfl q200.z (by decide) (fun _ => (Bvf.later bf2)) (q200.k fun _ q201 => ?_);clear q200
          refine vg_takeW 23 true (.slice (some ⟨f.heap.size, 0, none⟩) 8 8) rfl (by kernel_rfl) (by kernel_rfl) (by kernel_rfl) (by kernel_rfl) (want_none rfl) (fun hc v => ex_assign rfl (q201.e (j := 214) rfl)) rfl q201.z (by decide) (fun _ => (Bvf.later bf2)) (q201.k fun _ q202 => ?_);clear q201
          refine vg_done (by kernel_rfl) ?_
          have q203 := ((((((Rp.nil q202.z).cons (q202.a 0 rfl)).cons (q202.a 2 rfl)).cons (q202.a 7 rfl)).cons (q202.a 12 rfl)).cons (q202.a 14 rfl))
          clear q202
          go_upto_region 19 with fail
          refine wp_region_lit ?_
          refine q203.t (.int .i64 ((j : Nat) : Int)) (ex_move rfl (q203.e (j := 14) rfl)) fun _ q204 => ?_;clear q203
          refine q204.t (.int .i64 ((j + 1 : Nat) : Int)) (ex_bin rfl (q204.e (j := 121) rfl) rfl (add1C _ _ j (by omega) _)) fun _ q205 => ?_;clear q204
          refine q205.t (.int .i64 ((j + 1 : Nat) : Int)) (ex_assign rfl (q205.e (j := 122) rfl)) fun _ q206 => ?_;clear q205
          have q207 := ((((((Rp.nil q206.z).cons (q206.a 0 rfl)).cons (q206.a 2 rfl)).cons (q206.a 7 rfl)).cons (q206.a 12 rfl)).cons (q206.a 14 rfl))
          clear q206
          refine wpList_nil ?_
          have hfs : w.heap.size < f.heap.size := by have := B1f.lt; omega
          subst hy1 ht
          exact ⟨_, rfl, hit, f.heap.size, q207, hfs, Bn, B1f.later bf2, bf.trans (bf2.mono bf.size)⟩
        · obtain rfl : j = 64 := by omega
          obtain ⟨t, ht⟩ : ∃ t, t = (rN kT9 (wrds b) s 64) := ⟨_, rfl⟩
          rw [← ht] at Bv
          go_upto_region 18 with fail
          refine wp_region_lit ?_
          refine q100.t (.int .i64 ((64 : Nat) : Int)) (ex_move rfl (q100.e (j := 14) rfl)) fun _ q101 => ?_;clear q100
          refine q101.t (.bool false) (ex_bin rfl (q101.e (j := 119) rfl) rfl (ltF _ _ hit _)) fun _ q102 => ?_;clear q101
          refine wpList_nil ?_
          go_upto_region 25 with fail
          refine wp_cond_false (q102.e (j := 120) rfl) ?_
          go_upto_region 25 with fail
          refine wp_region_lit ?_
          refine q102.t (.int .i64 ((0 : Nat) : Int)) (ex_assign rfl rfl) fun _ q103 => ?_;clear q102
          have q104 := ((((Rp.nil q103.z).cons (q103.a 0 rfl)).cons (q103.a 12 rfl)).cons (q103.a 19 rfl))
          clear q103
          refine wpList_nil ?_
          go_upto_region 26 with fail
          refine v_loop 19 8 (fun j T wr => Rp T 232 [(19, gw true (.int .i64 ((j : Nat) : Int))), (12, gw true (.slice (some ⟨g, 0, none⟩) 8 8)), (0, gw true (.slice a 8 c))] ∧ Hid (BB wr g 99 ((adN t s j).map uV) ∧ Below w.heap.size w wr)) (fun j T w h => h.1.a 19 rfl) ⟨q104, Bv, br⟩ ?_
          clear q104 Bv B1 br zr hit hj
          intro j T wr hj hh
          obtain ⟨q100, HJ⟩ := hh
          obtain ⟨Bv, br⟩ := HJ.out
          clear HJ
          have zr := br.size
          have hl := adN_len t s j
          by_cases hit : j < 8
          · go_upto_region 26 with fail
            refine wp_region_lit ?_
            refine q100.t (.int .i64 ((j : Nat) : Int)) (ex_move rfl (q100.e (j := 19) rfl)) fun _ q101 => ?_;clear q100
            refine q101.t (.bool true) (ex_bin rfl (q101.e (j := 215) rfl) rfl (ltT _ _ hit _)) fun _ q102 => ?_;clear q101
            refine wpList_nil ?_
            go_upto_region 28 with fail
            refine wp_cond_true (q102.e (j := 216) rfl) ?_
            go_upto_region 28 with fail
            refine vg_start (fun k => k == 12) (fun v => v = wr.drew) (by kernel_rfl) ?_
            have hd : Below wr.heap.size wr wr.drew := (Below.refl _ _).drew
            have hzd : wr.drew.heap.size = wr.heap.size := rfl
            generalize wr.drew = d at *
            have Bvd := Bv.later hd
            have bd : Below w.heap.size w d := br.trans (hd.mono zr)
            have cj := Bvd.u9 (j := j) (by omega)
            obtain ⟨qs, os, hqs, hqsl, hcs⟩ := (h.on bd (Nat.le_refl _)).u9 (j := j) (by omega)
            refine vg_takeW 0 true (.slice (some ⟨g, 0, none⟩) 8 8) rfl (by kernel_rfl) (by kernel_rfl) (by kernel_rfl) (by kernel_rfl) (want_none rfl) (fun hc v => ex_move rfl (q102.e (j := 12) rfl)) rfl q102.z (by decide) (fun _ => rfl) (q102.k fun _ q103 => ?_);clear q102
            refine vg_takeW 1 true (.int .i64 ((j : Nat) : Int)) rfl (by kernel_rfl) (by kernel_rfl) (by kernel_rfl) (by kernel_rfl) (want_none rfl) (fun hc v => ex_move rfl (q103.e (j := 19) rfl)) rfl q103.z (by decide) (fun _ => rfl) (q103.k fun _ q104 => ?_);clear q103
            refine vg_takeW 2 true (.slice (some ⟨g, 0, none⟩) 8 8) rfl (by kernel_rfl) (by kernel_rfl) (by kernel_rfl) (by kernel_rfl) (want_none rfl) (fun hc v => ex_move rfl (q104.e (j := 12) rfl)) rfl q104.z (by decide) (fun _ => rfl) (q104.k fun _ q105 => ?_);clear q104
            refine vg_takeW 3 true (.int .i64 ((j : Nat) : Int)) rfl (by kernel_rfl) (by kernel_rfl) (by kernel_rfl) (by kernel_rfl) (want_none rfl) (fun hc v => ex_move rfl (q105.e (j := 19) rfl)) rfl q105.z (by decide) (fun _ => rfl) (q105.k fun _ q106 => ?_);clear q105
            refine vg_takeW 4 true (.pointer (some ⟨g, j, none⟩)) rfl (by kernel_rfl) (by kernel_rfl) (by kernel_rfl) (by kernel_rfl) (want_none rfl) (fun hc v => ex_ix rfl (q106.e (j := 221) rfl) (q106.e (j := 222) rfl) (ixU0 g 8 8 j hit _)) rfl q106.z (by decide) (fun _ => rfl) (q106.k fun _ q107 => ?_);clear q106
            refine vg_take 5 true (.int .u32 ((adN t s j).getD j 0)) rfl (by kernel_rfl) (by kernel_rfl) (by kernel_rfl) (by kernel_rfl) (by kernel_rfl) (by kernel_rfl) (want_none rfl) (fun hc v hv => by subst hv; exact ex_ld rfl (q107.e (j := 223) rfl) (ldU cj)) rfl q107.z (by decide) rfl (q107.k fun _ q108 => ?_);clear q107
            refine vg_takeW 6 true (.slice a 8 c) rfl (by kernel_rfl) (by kernel_rfl) (by kernel_rfl) (by kernel_rfl) (want_none rfl) (fun hc v => ex_move rfl (q108.e (j := 0) rfl)) rfl q108.z (by decide) (fun _ => rfl) (q108.k fun _ q109 => ?_);clear q108
            refine vg_takeW 7 true (.int .i64 ((j : Nat) : Int)) rfl (by kernel_rfl) (by kernel_rfl) (by kernel_rfl) (by kernel_rfl) (want_none rfl) (fun hc v => ex_move rfl (q109.e (j := 19) rfl)) rfl q109.z (by decide) (fun _ => rfl) (q109.k fun _ q110 => ?_);clear q109
            refine vg_takeW 8 true (.pointer (some ⟨qs, (os + j), none⟩)) rfl (by kernel_rfl) (by kernel_rfl) (by kernel_rfl) (by kernel_rfl) (want_none rfl) (fun hc v => ex_ix rfl (q110.e (j := 225) rfl) (q110.e (j := 226) rfl) (by rw [hqs]; exact ixU qs os 8 c j hit _)) rfl q110.z (by decide) (fun _ => rfl) (q110.k fun _ q111 => ?_);clear q110
            refine vg_take 9 true (.int .u32 (s.l.getD j 0)) rfl (by kernel_rfl) (by kernel_rfl) (by kernel_rfl) (by kernel_rfl) (by kernel_rfl) (by kernel_rfl) (want_none rfl) (fun hc v hv => by subst hv; exact ex_ld rfl (q111.e (j := 227) rfl) (ldU hcs)) rfl q111.z (by decide) rfl (q111.k fun _ q112 => ?_);clear q111
            refine vg_takeW 10 true (.int .u32 (ad ((adN t s j).getD j 0) (s.l.getD j 0))) rfl (by kernel_rfl) (by kernel_rfl) (by kernel_rfl) (by kernel_rfl) (want_none rfl) (fun hc v => ex_bin rfl (q112.e (j := 224) rfl) (q112.e (j := 228) rfl) (addU _ _ _ _ _)) rfl q112.z (by decide) (fun _ => rfl) (q112.k fun _ q113 => ?_);clear q112
            refine vg_takeW 11 true (.pointer (some ⟨g, j, none⟩)) rfl (by kernel_rfl) (by kernel_rfl) (by kernel_rfl) (by kernel_rfl) (want_none rfl) (fun hc v => ex_ix rfl (q113.e (j := 219) rfl) (q113.e (j := 220) rfl) (ixU0 g 8 8 j hit _)) rfl q113.z (by decide) (fun _ => rfl) (q113.k fun _ q114 => ?_);clear q113
            obtain ⟨d2, hd2⟩ : ∃ z, z = d.setCell ⟨g, j, none⟩ (.int .u32 (ad ((adN t s j).getD j 0) (s.l.getD j 0))) := ⟨_, rfl⟩
            refine vg_store 12 d2 rfl (by kernel_rfl) (by kernel_rfl) (want_none rfl) (ex_st rfl (q114.e (j := 230) rfl) (q114.e (j := 229) rfl) (by rw [hd2]; exact stU cj (Bvd.free _))) rfl ?_
            have Bv2 : BB d2 g 99 ((adN t s (j + 1)).map uV) := by rw [hd2]; exact Bvd.setu _ _
            have be : Below w.heap.size w d2 := by rw [hd2]; exact bd.trans (bel_ge (upd1 _ _ _ _) bd.size (by omega))
            clear hd2
            refine vg_done (by kernel_rfl) ?_
            have q115 := ((((Rp.nil q114.z).cons (q114.a 0 rfl)).cons (q114.a 12 rfl)).cons (q114.a 19 rfl))
            clear q114
            go_upto_region 27 with fail
            refine wp_region_lit ?_
            refine q115.t (.int .i64 ((j : Nat) : Int)) (ex_move rfl (q115.e (j := 19) rfl)) fun _ q116 => ?_;clear q115
            refine q116.t (.int .i64 ((j + 1 : Nat) : Int)) (ex_bin rfl (q116.e (j := 217) rfl) rfl (add1C _ _ j (by omega) _)) fun _ q117 => ?_;clear q116
            refine q117.t (.int .i64 ((j + 1 : Nat) : Int)) (ex_assign rfl (q117.e (j := 218) rfl)) fun _ q118 => ?_;clear q117
            have q119 := ((((Rp.nil q118.z).cons (q118.a 0 rfl)).cons (q118.a 12 rfl)).cons (q118.a 19 rfl))
            clear q118
            refine wpList_nil ?_
            exact ⟨_, rfl, hit, q119, Bv2, be⟩
          · obtain rfl : j = 8 := by omega
            rw [adN_8, St.ad_comm, ht] at Bv
            go_upto_region 26 with fail
            refine wp_region_lit ?_
            refine q100.t (.int .i64 ((8 : Nat) : Int)) (ex_move rfl (q100.e (j := 19) rfl)) fun _ q101 => ?_;clear q100
            refine q101.t (.bool false) (ex_bin rfl (q101.e (j := 215) rfl) rfl (ltF _ _ hit _)) fun _ q102 => ?_;clear q101
            refine wpList_nil ?_
            go_upto_region 29 with fail
            refine wp_cond_false (q102.e (j := 216) rfl) ?_
            go_upto_region 29 with fail
            refine wp_region_lit ?_
            refine q102.t (.slice (some ⟨g, 0, none⟩) 8 8) (ex_move rfl (q102.e (j := 12) rfl)) fun _ q103 => ?_;clear q102
            refine q103.t (.slice (some ⟨g, 0, none⟩) 8 8) (ex_assign rfl (q103.e (j := 231) rfl)) fun _ q104 => ?_;clear q103
            refine wpList_nil ?_
            have sF : SlY yU9 wr (some ⟨g, 0, none⟩) 8 8 (blkF s b).l := Bv.slu (L := (blkF s b).l) (by show (8 : Nat) ≤ maxLen; unfold maxLen; decide)
            go_wp2
            refine bodyPost_ret (results_tmp rfl _ _ _) rfl ⟨g, ?_, sF, br⟩
            rw [getD_of (q104.a 6 rfl)]
            rfl
end Go.Proofs.Ytfafhlahbhopaaa
namespace Go.Proofs.Ytfafhlahbhopaaa
open Go.RowKit Go.Maps
open Classical
theorem slMid (q o n c i m k : Nat) (hk : k = i + m) (h : i + m ≤ c) (hm : 0 < m) (w : World) : (Instr.sliceAt 71 (.slice (some ⟨q, o, none⟩) n c) (some (.int .i64 (i : Int))) (some (.int .i64 (k : Int))) none).run Try.prog w = .ok (.slice (some (adB q o c i)) m (c - i)) w := by
  have e1 : (0 : Int) ≤ (i : Int) := by omega
  have e2 : (i : Int) ≤ (k : Int) := by omega
  have e3 : (k : Int) ≤ (c : Int) := by omega
  have e4 : ¬ c = i := by omega
  have e6 : i ≤ k := by omega
  have e5 : m = k - i := by omega
  unfold adB
  rw [if_neg e4, e5]
  clear hk h hm e5
  go_simp
  first | done | simp [e4, e6]
theorem fill_by (n : Nat) : ∀ x ∈ fill n, (0 : Int) ≤ x ∧ x < 256 := by
  intro x hx
  unfold fill lenB at hx
  rw [List.mem_append, List.mem_append] at hx
  rcases hx with (hx | hx) | hx
  · rw [List.mem_singleton] at hx
    omega
  · have := List.eq_of_mem_replicate hx
    omega
  · rw [List.mem_map] at hx
    obtain ⟨i, _, rfl⟩ := hx
    rw [IntKind.wrap_u8]
    omega
theorem getD_by {l : List Int} (h : ∀ x ∈ l, (0 : Int) ≤ x ∧ x < 256) (i : Nat) : 0 ≤ l.getD i 0 ∧ l.getD i 0 < 256 := by
  rw [List.getD_eq_getElem?_getD]
  cases e : l[i]? with
  | none => simp
  | some x => exact h x (List.mem_of_getElem? e)
theorem lst_by {l : List Int} (h : ∀ x ∈ l, (0 : Int) ≤ x ∧ x < 256) (i k : Nat) : ∀ x ∈ (l.drop i).take k, (0 : Int) ≤ x ∧ x < 256 := fun x hx => h x (List.mem_of_mem_drop (List.mem_of_mem_take hx))
theorem stF_next (F : List Int) (M j : Nat) (hF : F.length = 64 * M) (hj : j < M) : stF (F.take (64 * (j + 1))) = blkF (stF (F.take (64 * j))) ((F.drop (64 * j)).take 64) := by
  rw [show 64 * (j + 1) = 64 * j + 64 by omega, List.take_add]
  refine stF_block _ _ ?_ ?_
  · rw [List.length_take, Nat.min_eq_left (by omega)]
    omega
  · rw [List.length_take, List.length_drop]
    omega
def dn9 (n : Nat) : Value → Nat
  | .int _ z => (n - z.toNat) / 64
  | _ => 0
set_option maxHeartbeats 2000000 in
theorem rsum19 (b : List Int) (a : Option Addr) (c : Nat) (w : World) (h : SlY yB9 w a b.length c b) (hl : b.length ≤ 140737488352232) (hby : ∀ x ∈ b, (0 : Int) ≤ x ∧ x < 256) :
    Calls Try.prog 39 #[.slice a b.length c] w fun e w' => e = .returned (.agg ((sumF b).map bV).toArray) ∧ Below w.heap.size w w' := by
  go_enter Try.func39, Try.ntmps39
  go_upto_region 0 with fail
  refine wp_region_lit ?_
  refine vl_gen (fun T => Rp T 46 [(0, gw true (.slice a b.length c))]) ((Rp.nil rfl).cons rfl) (fun Z0 q0 => ?_)
  obtain ⟨w1, hw1⟩ : ∃ y, y = w.alloc (.cells ((List.replicate 32 (0 : Int)).map bV).toArray 24) := ⟨_, rfl⟩
  refine vw (.pointer (some ⟨w.heap.size, 0, none⟩)) w1 (want_none rfl) (ex_al rfl (by rw [hw1]; exact alH _)) rfl q0.z (by decide) (q0.k fun _ q1 => ?_);clear q0
  have Bw1 : BB w1 w.heap.size 24 ((List.replicate 32 (0 : Int)).map bV) := by rw [hw1]; exact BB.new _ _ _
  have bw1 : Below w.heap.size w w1 := by rw [hw1]; exact (Below.refl _ _).alloc (Nat.le_refl _) _
  have zw1 : w1.heap.size = w.heap.size + 1 := by rw [hw1]; exact World.size_alloc _ _
  clear hw1
  refine wpList_nil ?_
  go_upto_region 1 with fail
  refine wp_region_lit ?_
  obtain ⟨w2, hw2⟩ : ∃ y, y = w1.alloc (.cells (iv.l.map uV).toArray 99) := ⟨_, rfl⟩
  refine vw (.slice (some ⟨w1.heap.size, 0, none⟩) 8 8) w2 (want_none rfl) (ex_bs8 rfl rfl rfl rfl rfl rfl rfl rfl rfl (by rw [hw2]; exact bs8U iv _)) rfl q1.z (by decide) (q1.k fun _ q2 => ?_);clear q1
  have B2 : BB w2 w1.heap.size 99 (iv.l.map uV) := by rw [hw2]; exact BB.new _ _ _
  have b2 : Below w1.heap.size w1 w2 := by rw [hw2]; exact (Below.refl _ _).alloc (Nat.le_refl _) _
  have z2 := b2.size
  clear hw2
  have d2 : Below w.heap.size w w2 := bw1.trans (b2.mono (by omega))
  have s2 : SlY yU9 w2 (some ⟨w1.heap.size, 0, none⟩) 8 8 iv.l := B2.slu (L := iv.l) (by show (8 : Nat) ≤ maxLen; unfold maxLen; decide)
  refine q2.t (.slice (some ⟨w1.heap.size, 0, none⟩) 8 8) (ex_assign rfl (q2.e (j := 9) rfl)) fun _ q3 => ?_;clear q2
  have q4 := ((((Rp.nil q3.z).cons (q3.a 0 rfl)).cons (q3.a 2 rfl)).cons (q3.a 3 rfl))
  clear q3
  refine wpList_nil ?_
  go_upto_region 2 with fail
  refine wp_region_lit ?_
  refine q4.t (.slice a b.length c) (ex_move rfl (q4.e (j := 0) rfl)) fun _ q5 => ?_;clear q4
  refine vcallP (want_none rfl) (ex_call rfl (by simp only [List.map_toArray, List.map_cons, List.map_nil, (q5.e (j := 10) rfl), evc] <;> rfl) rfl) (filled19 b a c w2 (h.on d2 (Nat.le_refl _)) hl) rfl q5.z (by decide) ?_
  rintro e w3 ⟨v3, rfl, o3, b3⟩
  refine ⟨_, rfl, q5.k fun _ q6 => ?_⟩;clear q5
  have z3 := b3.size
  have s3 := s2.later b3
  obtain ⟨F, hF⟩ : ∃ F, F = b ++ fill b.length := ⟨_, rfl⟩
  rw [← hF] at o3
  have hFm : F.length % 64 = 0 := by rw [hF, List.length_append]; exact fill_mod _
  have hFp : 0 < F.length := by rw [hF, List.length_append, fill_len]; omega
  have hFl : F.length ≤ 140737488353232 := by have hzr : zr b.length < 64 := Nat.mod_lt _ (by decide); rw [hF, List.length_append, fill_len]; omega
  obtain ⟨M, hM⟩ : ∃ M, F.length = 64 * M := ⟨F.length / 64, by omega⟩
  have hFb : ∀ x ∈ F, (0 : Int) ≤ x ∧ x < 256 := fun x hx => by
    rw [hF, List.mem_append] at hx
    exact hx.elim (hby x) (fill_by _ x)
  obtain ⟨af, cf, hvf, sF, _⟩ := o3.sl kB9
  subst hvf
  refine q6.t (.slice af F.length cf) (ex_assign rfl (q6.e (j := 11) rfl)) fun _ q7 => ?_;clear q6
  have q8 := ((((Rp.nil q7.z).cons (q7.a 2 rfl)).cons (q7.a 3 rfl)).cons (q7.a 4 rfl))
  clear q7
  refine wpList_nil ?_
  go_upto_region 3 with fail
  refine wp_region_lit ?_
  refine vcallP (want_none rfl) (ex_call (args := #[]) rfl (by simp) rfl) (table19 w3) rfl q8.z (by decide) ?_
  rintro e w4 ⟨v4, rfl, o4, b4⟩
  refine ⟨_, rfl, q8.k fun _ q9 => ?_⟩;clear q8
  have z4 := b4.size
  have s4 := s3.later b4
  have sF := sF.later b4
  obtain ⟨ak, ck, hvk, sK, _⟩ := o4.sl kU9
  subst hvk
  have d4 : Below w.heap.size w w4 := (d2.trans (b3.mono (by omega))).trans (b4.mono (by omega))
  have Bh4 := ((Bw1.later b2).later b3).later b4
  have hkl : kT9.length = 64 := rfl
  rw [hkl] at sK
  obtain ⟨qf, of, ea, hqf, _⟩ := sF.place (by rintro rfl; simp at hFp)
  subst ea
  clear o3 o4 s3 s2 B2 Bw1
  have hcf := sF.cap
  refine q9.t (.slice ak 64 ck) (ex_assign rfl (q9.e (j := 12) rfl)) fun _ q10 => ?_;clear q9
  have q11 := (((((Rp.nil q10.z).cons (q10.a 2 rfl)).cons (q10.a 3 rfl)).cons (q10.a 4 rfl)).cons (q10.a 5 rfl))
  clear q10
  refine wpList_nil ?_
  go_upto_region 4 with fail
  refine wp_region_lit ?_
  refine q11.t (.int .i64 ((64 * 0 : Nat) : Int)) (ex_assign rfl rfl) fun _ q12 => ?_;clear q11
  have q13 := ((((((Rp.nil q12.z).cons (q12.a 2 rfl)).cons (q12.a 3 rfl)).cons (q12.a 4 rfl)).cons (q12.a 5 rfl)).cons (q12.a 6 rfl))
  clear q12
  refine wpList_nil ?_
  go_upto_region 5 with fail
  refine v_loopX (fun T => dn9 F.length (T.getD 6 undef)) M (fun j T wr => ∃ g, Rp T 46 [(6, gw true (.int .i64 ((64 * j : Nat) : Int))), (5, gw true (.slice ak 64 ck)), (4, gw true (.slice (some ⟨qf, of, none⟩) F.length cf)), (3, gw true (.slice (some ⟨g, 0, none⟩) 8 8)), (2, gw true (.pointer (some ⟨w.heap.size, 0, none⟩)))] ∧ Hid (SlY yU9 wr (some ⟨g, 0, none⟩) 8 8 (stF (F.take (64 * j))).l ∧ Below w4.heap.size w4 wr)) (fun j T w hh => by
    obtain ⟨g, hr, hH⟩ := hh
    rw [hr.get rfl]
    simp only [dn9, gw, Int.toNat_natCast]
    omega) ⟨w1.heap.size, q13, (by rw [Nat.mul_zero, List.take_zero]; exact s4), Below.refl _ _⟩ ?_
  clear q13 s4
  intro j T wr hj hh
  obtain ⟨g, q100, HJ⟩ := hh
  obtain ⟨hs, br⟩ := HJ.out
  clear HJ
  have zr4 := br.size
  by_cases hit : j < M
  · go_upto_region 5 with fail
    refine wp_region_lit ?_
    refine q100.t (.int .i64 ((64 * j : Nat) : Int)) (ex_move rfl (q100.e (j := 6) rfl)) fun _ q101 => ?_;clear q100
    refine q101.t (.slice (some ⟨qf, of, none⟩) F.length cf) (ex_move rfl (q101.e (j := 4) rfl)) fun _ q102 => ?_;clear q101
    refine q102.t (.int .i64 ((F.length : Nat) : Int)) (ex_lenG rfl rfl Try.underlying71 (q102.e (j := 14) rfl)) fun _ q103 => ?_;clear q102
    refine q103.t (.bool true) (ex_bin rfl (q103.e (j := 13) rfl) (q103.e (j := 15) rfl) (ltT _ _ (show 64 * j < F.length by omega) _)) fun _ q104 => ?_;clear q103
    refine wpList_nil ?_
    go_upto_region 7 with fail
    refine wp_cond_true (q104.e (j := 16) rfl) ?_
    go_upto_region 7 with fail
    refine wp_region_lit ?_
    refine q104.t (.slice (some ⟨g, 0, none⟩) 8 8) (ex_move rfl (q104.e (j := 3) rfl)) fun _ q105 => ?_;clear q104
    refine q105.t (.slice (some ⟨qf, of, none⟩) F.length cf) (ex_move rfl (q105.e (j := 4) rfl)) fun _ q106 => ?_;clear q105
    refine q106.t (.int .i64 ((64 * j : Nat) : Int)) (ex_move rfl (q106.e (j := 6) rfl)) fun _ q107 => ?_;clear q106
    refine q107.t (.int .i64 ((64 * j : Nat) : Int)) (ex_move rfl (q107.e (j := 6) rfl)) fun _ q108 => ?_;clear q107
    refine q108.t (.int .i64 ((64 * j + 64 : Nat) : Int)) (ex_bin rfl (q108.e (j := 22) rfl) rfl (addC9 _ _ (64 * j) 64 (by omega) _)) fun _ q109 => ?_;clear q108
    refine q109.t (.slice (some (adB qf of cf (64 * j))) 64 (cf - 64 * j)) (ex_sl19 rfl (q109.e (j := 20) rfl) (congrArg some (q109.e (j := 21) rfl)) (congrArg some (q109.e (j := 23) rfl)) rfl (slMid qf of F.length cf (64 * j) 64 (64 * j + 64) rfl (by omega) (by decide) _)) fun _ q110 => ?_;clear q109
    refine q110.t (.slice ak 64 ck) (ex_move rfl (q110.e (j := 5) rfl)) fun _ q111 => ?_;clear q110
    have sB := ((sF.later br).from9 (64 * j) (by omega)).take 64 (by omega)
    have hsl : ((F.drop (64 * j)).take 64).length = 64 := by rw [List.length_take, List.length_drop]; omega
    refine vcallP (want_none rfl) (ex_call rfl (by simp only [List.map_toArray, List.map_cons, List.map_nil, (q111.e (j := 19) rfl), (q111.e (j := 24) rfl), (q111.e (j := 25) rfl), evc] <;> rfl) rfl) (block19 (stF (F.take (64 * j))) (some ⟨g, 0, none⟩) 8 ((F.drop (64 * j)).take 64) (some (adB qf of cf (64 * j))) (cf - 64 * j) ak ck wr hs sB (sK.later br) hsl (getD_by (lst_by hFb _ _))) rfl q111.z (by decide) ?_
    rintro e w5 ⟨g5, rfl, s5, b5⟩
    refine ⟨_, rfl, q111.k fun _ q112 => ?_⟩;clear q111
    rw [← stF_next F M j hM hit] at s5
    have e5 : Below w4.heap.size w4 w5 := br.trans (b5.mono zr4)
    refine q112.t (.slice (some ⟨g5, 0, none⟩) 8 8) (ex_assign rfl (q112.e (j := 26) rfl)) fun _ q113 => ?_;clear q112
    have q114 := ((((((Rp.nil q113.z).cons (q113.a 2 rfl)).cons (q113.a 3 rfl)).cons (q113.a 4 rfl)).cons (q113.a 5 rfl)).cons (q113.a 6 rfl))
    clear q113
    refine wpList_nil ?_
    go_upto_region 6 with fail
    refine wp_region_lit ?_
    refine q114.t (.int .i64 ((64 * j : Nat) : Int)) (ex_move rfl (q114.e (j := 6) rfl)) fun _ q115 => ?_;clear q114
    refine q115.t (.int .i64 ((64 * j + 64 : Nat) : Int)) (ex_bin rfl (q115.e (j := 17) rfl) rfl (addC9 _ _ (64 * j) 64 (by omega) _)) fun _ q116 => ?_;clear q115
    rw [show 64 * j + 64 = 64 * (j + 1) by omega] at q116
    refine q116.t (.int .i64 ((64 * (j + 1) : Nat) : Int)) (ex_assign rfl (q116.e (j := 18) rfl)) fun _ q117 => ?_;clear q116
    have q118 := ((((((Rp.nil q117.z).cons (q117.a 2 rfl)).cons (q117.a 3 rfl)).cons (q117.a 4 rfl)).cons (q117.a 5 rfl)).cons (q117.a 6 rfl))
    clear q117
    refine wpList_nil ?_
    exact ⟨_, rfl, hit, g5, q118, s5, e5⟩
  · obtain rfl : j = M := by omega
    rw [← hM, List.take_length] at hs
    have Bh5 := Bh4.later br
    have d5 : Below w.heap.size w wr := d4.trans (br.mono (by omega))
    obtain ⟨s, hsv⟩ : ∃ s, s = stF F := ⟨_, rfl⟩
    rw [← hsv] at hs
    go_upto_region 5 with fail
    refine wp_region_lit ?_
    refine q100.t (.int .i64 ((64 * j : Nat) : Int)) (ex_move rfl (q100.e (j := 6) rfl)) fun _ q101 => ?_;clear q100
    refine q101.t (.slice (some ⟨qf, of, none⟩) F.length cf) (ex_move rfl (q101.e (j := 4) rfl)) fun _ q102 => ?_;clear q101
    refine q102.t (.int .i64 ((F.length : Nat) : Int)) (ex_lenG rfl rfl Try.underlying71 (q102.e (j := 14) rfl)) fun _ q103 => ?_;clear q102
    refine q103.t (.bool false) (ex_bin rfl (q103.e (j := 13) rfl) (q103.e (j := 15) rfl) (ltF _ _ (show ¬ 64 * j < F.length by omega) _)) fun _ q104 => ?_;clear q103
    refine wpList_nil ?_
    go_upto_region 8 with fail
    refine wp_cond_false (q104.e (j := 16) rfl) ?_
    go_upto_region 8 with fail
    refine wp_region_lit ?_
    have q105 := (((Rp.nil q104.z).cons (q104.a 2 rfl)).cons (q104.a 3 rfl))
    clear q104
    obtain ⟨w6, hw6⟩ : ∃ y, y = wr.alloc (.cells ((List.replicate 32 (0 : Int)).map bV).toArray 24) := ⟨_, rfl⟩
    refine vw (.pointer (some ⟨wr.heap.size, 0, none⟩)) w6 (want_none rfl) (ex_al rfl (by rw [hw6]; exact alH _)) rfl q105.z (by decide) (q105.k fun _ q106 => ?_);clear q105
    have Bw6 : BB w6 wr.heap.size 24 ((List.replicate 32 (0 : Int)).map bV) := by rw [hw6]; exact BB.new _ _ _
    have bw6 : Below wr.heap.size wr w6 := by rw [hw6]; exact (Below.refl _ _).alloc (Nat.le_refl _) _
    have zw6 : w6.heap.size = wr.heap.size + 1 := by rw [hw6]; exact World.size_alloc _ _
    clear hw6
    have hs6 := hs.later bw6
    have Bh6 := Bh5.later bw6
    have d6 : Below w.heap.size w w6 := d5.trans (bw6.mono d5.size)
    have hwr : w.heap.size < wr.heap.size := Bh5.lt
    obtain ⟨k, hk⟩ : ∃ k, k = wr.heap.size := ⟨_, rfl⟩
    rw [← hk] at q106 Bw6 hwr
    refine wpList_nil ?_
    go_upto_region 9 with fail
    refine wp_region_lit ?_
    refine q106.t (.int .i64 ((0 : Nat) : Int)) (ex_assign rfl rfl) fun _ q107 => ?_;clear q106
    have q108 := (((((Rp.nil q107.z).cons (q107.a 2 rfl)).cons (q107.a 3 rfl)).cons (q107.a 7 rfl)).cons (q107.a 8 rfl))
    clear q107
    refine wpList_nil ?_
    go_upto_region 10 with fail
    refine v_loop 8 32 (fun j T wr => Rp T 46 [(8, gw true (.int .i64 ((j : Nat) : Int))), (7, gw true (.pointer (some ⟨k, 0, none⟩))), (3, gw true (.slice (some ⟨g, 0, none⟩) 8 8)), (2, gw true (.pointer (some ⟨w.heap.size, 0, none⟩)))] ∧ Hid (BB wr k 24 ((oS s j).map bV) ∧ BB wr w.heap.size 24 ((List.replicate 32 (0 : Int)).map bV) ∧ Below k w6 wr)) (fun j T w h => h.1.a 8 rfl) ⟨q108, Bw6, Bh6, Below.refl _ _⟩ ?_
    clear q108 Bw6 Bh6 hit hj
    intro j T wr2 hj hh
    obtain ⟨q100, HJ⟩ := hh
    obtain ⟨B3, B2, br2⟩ := HJ.out
    clear HJ
    have zr6 := br2.size
    have hr2 : Below w.heap.size w wr2 := d6.trans (br2.mono (by omega))
    by_cases hit : j < 32
    · have hl := oS_len s j
      have cj := B3.v9 (j := j) (by omega)
      have hl8 : s.l.length = 8 := rfl
      have hbb : Below wr.heap.size wr wr2 := by rw [hk] at br2; exact bw6.trans br2
      obtain ⟨qs, os, hqs, hqsl, hcs⟩ := (hs.later hbb).u9 (j := j / 4) (by omega)
      cases hqs
      go_upto_region 10 with fail
      refine wp_region_lit ?_
      refine q100.t (.int .i64 ((j : Nat) : Int)) (ex_move rfl (q100.e (j := 8) rfl)) fun _ q101 => ?_;clear q100
      refine q101.t (.bool true) (ex_bin rfl (q101.e (j := 27) rfl) rfl (ltT _ _ hit _)) fun _ q102 => ?_;clear q101
      refine wpList_nil ?_
      go_upto_region 12 with fail
      refine wp_cond_true (q102.e (j := 28) rfl) ?_
      go_upto_region 12 with fail
      refine wp_region_lit ?_
      refine q102.t (.int .i64 ((j : Nat) : Int)) (ex_move rfl (q102.e (j := 8) rfl)) fun _ q103 => ?_;clear q102
      refine q103.t (.slice (some ⟨g, 0, none⟩) 8 8) (ex_move rfl (q103.e (j := 3) rfl)) fun _ q104 => ?_;clear q103
      refine q104.t (.int .i64 ((j : Nat) : Int)) (ex_move rfl (q104.e (j := 8) rfl)) fun _ q105 => ?_;clear q104
      refine q105.t (.int .i64 ((j / 4 : Nat) : Int)) (ex_bin rfl (q105.e (j := 33) rfl) rfl (quoC _ _ j 4 (by decide) (by omega) _)) fun _ q106 => ?_;clear q105
      refine q106.t (.pointer (some ⟨g, (j / 4), none⟩)) (ex_ix rfl (q106.e (j := 32) rfl) (q106.e (j := 34) rfl) (ixU0 g 8 8 (j / 4) (by omega) _)) fun _ q107 => ?_;clear q106
      rw [Nat.zero_add] at hcs
      refine q107.t (.int .u32 (s.l.getD (j / 4) 0)) (ex_ld rfl (q107.e (j := 35) rfl) (ldU hcs)) fun _ q108 => ?_;clear q107
      refine q108.t (.int .i64 ((j : Nat) : Int)) (ex_move rfl (q108.e (j := 8) rfl)) fun _ q109 => ?_;clear q108
      refine q109.t (.int .i64 ((j % 4 : Nat) : Int)) (ex_bin rfl (q109.e (j := 37) rfl) rfl (remC _ _ j 4 (by decide) (by omega) _)) fun _ q110 => ?_;clear q109
      refine q110.t (.int .i64 ((8 * (j % 4) : Nat) : Int)) (ex_bin rfl rfl (q110.e (j := 38) rfl) (mulC9 _ _ 8 (j % 4) (by omega) _)) fun _ q111 => ?_;clear q110
      refine q111.t (.int .i64 ((24 - 8 * (j % 4) : Nat) : Int)) (ex_bin rfl rfl (q111.e (j := 39) rfl) (subC9 _ _ 24 (8 * (j % 4)) (by omega) (by omega) _)) fun _ q112 => ?_;clear q111
      refine q112.t (.int .u64 ((24 - 8 * (j % 4) : Nat) : Int)) (ex_cv19 rfl (q112.e (j := 40) rfl) (cvI_U _ (by omega) _)) fun _ q113 => ?_;clear q112
      refine q113.t (.int .u32 (s.l.getD (j / 4) 0 / 2 ^ (24 - 8 * (j % 4)))) (ex_bin rfl (q113.e (j := 36) rfl) (q113.e (j := 41) rfl) (shrUu64 _ _ _ (24 - 8 * (j % 4)) (by omega) _)) fun _ q114 => ?_;clear q113
      refine q114.t (.int .u8 (IntKind.u8.wrap (s.l.getD (j / 4) 0 / 2 ^ (24 - 8 * (j % 4))))) (ex_cv19 rfl (q114.e (j := 42) rfl) (cv32_8 _ _)) fun _ q115 => ?_;clear q114
      refine q115.t (.pointer (some ⟨k, j, none⟩)) (ex_ix rfl (q115.e (j := 7) rfl) (q115.e (j := 31) rfl) (ixA0 k j 32 24 5 Try.underlying24 i1b hit _)) fun _ q116 => ?_;clear q115
      obtain ⟨d9, hd9⟩ : ∃ z, z = wr2.setCell ⟨k, j, none⟩ (.int .u8 (IntKind.u8.wrap (s.l.getD (j / 4) 0 / 2 ^ (24 - 8 * (j % 4))))) := ⟨_, rfl⟩
      refine vs d9 (want_none rfl) (ex_st rfl (q116.e (j := 44) rfl) (q116.e (j := 43) rfl) (by rw [hd9]; exact st8 cj (B3.free _))) rfl ?_
      have B3e : BB d9 k 24 ((oS s (j + 1)).map bV) := by rw [hd9]; exact B3.setv _ _
      have ue : Upd (fun i => i = k) wr2 d9 := by rw [hd9]; exact upd1 _ _ _ _
      have B2e := B2.upd ue (by omega)
      have be : Below k w6 d9 := br2.trans (bel_ge ue (by omega) (by omega))
      clear hd9
      have q117 := (((((Rp.nil q116.z).cons (q116.a 2 rfl)).cons (q116.a 3 rfl)).cons (q116.a 7 rfl)).cons (q116.a 8 rfl))
      clear q116
      refine wpList_nil ?_
      go_upto_region 11 with fail
      refine wp_region_lit ?_
      refine q117.t (.int .i64 ((j : Nat) : Int)) (ex_move rfl (q117.e (j := 8) rfl)) fun _ q118 => ?_;clear q117
      refine q118.t (.int .i64 ((j + 1 : Nat) : Int)) (ex_bin rfl (q118.e (j := 29) rfl) rfl (add1C _ _ j (by omega) _)) fun _ q119 => ?_;clear q118
      refine q119.t (.int .i64 ((j + 1 : Nat) : Int)) (ex_assign rfl (q119.e (j := 30) rfl)) fun _ q120 => ?_;clear q119
      have q121 := (((((Rp.nil q120.z).cons (q120.a 2 rfl)).cons (q120.a 3 rfl)).cons (q120.a 7 rfl)).cons (q120.a 8 rfl))
      clear q120
      refine wpList_nil ?_
      exact ⟨_, rfl, hit, q121, B3e, B2e, be⟩
    · obtain rfl : j = 32 := by omega
      rw [oS_32] at B3
      have hm : ((outB s).map bV).length = 32 := by rw [len_bV]; rfl
      go_upto_region 10 with fail
      refine wp_region_lit ?_
      refine q100.t (.int .i64 ((32 : Nat) : Int)) (ex_move rfl (q100.e (j := 8) rfl)) fun _ q101 => ?_;clear q100
      refine q101.t (.bool false) (ex_bin rfl (q101.e (j := 27) rfl) rfl (ltF _ _ hit _)) fun _ q102 => ?_;clear q101
      refine wpList_nil ?_
      go_upto_region 13 with fail
      refine wp_cond_false (q102.e (j := 28) rfl) ?_
      go_upto_region 13 with fail
      refine wp_region_lit ?_
      refine q102.t (.agg ((outB s).map bV).toArray) (ex_ld rfl (q102.e (j := 7) rfl) (B3.ld 24 Try.underlying24 rfl (by rw [hm]; exact i32h))) fun _ q103 => ?_;clear q102
      obtain ⟨w9, hw9⟩ : ∃ y, y = wr2.setCells w.heap.size 0 ((outB s).map bV) := ⟨_, rfl⟩
      refine vs w9 (want_none rfl) (ex_st rfl (q103.e (j := 2) rfl) (q103.e (j := 45) rfl) (by rw [hw9]; exact B2.st 24 _ (by rw [hm]; rfl) (by rw [List.size_toArray, hm]; exact i32h) (one_b _))) rfl ?_
      have B9 : BB w9 w.heap.size 24 ((outB s).map bV) := by rw [hw9]; exact B2.whole _ (by rw [hm]; rfl)
      have b9 : Below w.heap.size w w9 := by rw [hw9]; exact hr2.trans (bel_ge (upd18 _ _ _ _) hr2.size (Nat.le_refl _))
      clear hw9
      refine wpList_nil ?_
      go_wp2
      exact B9.res rfl (q103.a 2 rfl) Try.underlying24 rfl (by rw [hm]; exact i32h) ⟨by rw [hsv, hF]; rfl, b9⟩
end Go.Proofs.Ytfafhlahbhopaaa
