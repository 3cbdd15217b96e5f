import Derived.Test.YtfafhlahbhopaaaRows
import Derived.Deep.SlicePairs
import Derived.ChangeOld
import Derived.OpenShut
import Derived.ProofKit
import Derived.SizedLaws
import Derived.Deep.RegionLaw
import Derived.Lib.ConvBytes
import Derived.Laws.StructEq
import Derived.Test.YtfafhlahbhopaaaB4
set_option maxRecDepth 100000
set_option linter.unusedVariables false
set_option linter.unusedSimpArgs false
namespace Go.Proofs.Ytfafhlahbhopaaa
open Go.ChangeShapes Go.WideShapes Go.RowKit
open Classical
theorem cellsI20 : Try.prog.cellsOf 3 = 1 := by kernel_rfl
theorem cellsS20 : Try.prog.cellsOf 9 = 1 := by kernel_rfl
theorem cellsO20 : Try.prog.cellsOf 26 = 3 := by kernel_rfl
theorem cellsE20 : Try.prog.cellsOf 28 = 5 := by kernel_rfl
end Go.Proofs.Ytfafhlahbhopaaa
namespace Go.Proofs.Ytfafhlahbhopaaa
open Go.ChangeShapes Go.WideShapes Go.ChangeAt Go.RowKit Go.Maps
open Classical
theorem weights_in20 {H : Type} {P : Program} {e : TypeId} : ∀ {ds : List (DataW H)} {d : DataW H}, d ∈ ds → ∀ m, m ∈ d.weights P e → m ∈ DataW.weightsAll P e ds
  | x :: r, d, hd, m, hm => by
    simp only [DataW.weightsAll, List.mem_append]
    rcases List.mem_cons.1 hd with rfl | hd
    · exact .inl hm
    · exact .inr (weights_in20 hd m hm)
  | [], _, hd, _, _ => by cases hd
theorem rows_w20 {α : Type} [Inhabited α] {Y : Lay α} (K : Y.Ok) (F : α → Prop) (hT : Try.prog.cellsOf Y.T = Y.k) (hby : Try.prog.bytesOf Y.T = Y.by_) {H : Type} {enc : TypeId × Value → H} {W : World} {v : Value} {d : DataW H} {p : List MemPlace} {fuel : Nat}
    (hop : ∀ {m : Nat} {cs : List Value} {D : DataW H} {q : List MemPlace}, DataW.trod enc Try.prog W 0 (fun _ => true) true m Y.T cs = some (D, q) → (∀ k, k ∈ D.weights Try.prog Y.T → k ≤ reachBytes) → ∃ e : α, F e ∧ cs = Y.cs e)
    (h : DataW.trod enc Try.prog W 0 (fun _ => true) true fuel Y.ST [v] = some (d, p)) (hw : ∀ m, m ∈ d.weights Try.prog Y.ST → m ≤ reachBytes) :
    ∃ a len cap, v = .slice a len cap ∧ ∃ P : List α, SlY Y W a len cap P ∧ (∀ e ∈ P, F e) ∧ len * Y.by_ ≤ 140737488351232 := by
  rcases Go.Deep.open_slice K.und h with ⟨hcs, hx⟩ | ⟨y, n, c, m, k, D, Pl, hcs, hb, hl, hm, hmm, hx, hall⟩
  · have e := (List.cons_eq_cons.1 hcs).1
    exact ⟨none, 0, 0, e, [], ⟨rfl, Nat.le_refl _, by unfold maxLen; omega, fun _ => ⟨rfl, rfl⟩, fun x hx => .inl rfl⟩, by simp, by omega⟩
  · have e := (List.cons_eq_cons.1 hcs).1
    refine ⟨some y, n, c, e, ?_⟩
    have hlm : n ≤ m := by rw [hmm]; split <;> omega
    have hd := congrArg Prod.fst hx
    dsimp only at hd
    have hsz : n * Y.by_ ≤ 140737488351232 := by
      have := hw _ (by
        rw [hd]
        simp only [DataW.weights, K.und, hby]
        exact List.mem_cons_self)
      simp only [List.length_map, List.length_range, reachBytes] at this
      rw [Nat.add_mul] at this
      omega
    have each : ∀ i, i < n → ∃ q : α, F q ∧ (∀ j, j < Y.k → W.cell? ((y.add (i * Y.k)).add j) = (Y.cs q)[j]?) := by
      intro i hi
      obtain ⟨cs', h1, h2⟩ := hall i (by omega)
      rw [hT] at h1
      obtain ⟨q, hf, rfl⟩ := hop h2 (fun k hk => hw k (by
        rw [hd]
        simp only [DataW.weights, K.und]
        exact List.mem_cons_of_mem _ (List.mem_append_left _ (weights_in20 (List.mem_map_of_mem (List.mem_range.2 hi)) k hk))))
      obtain ⟨_, _, hcell⟩ := World.cells?_some h1
      exact ⟨q, hf, hcell⟩
    obtain ⟨q, hq⟩ := Go.Deep.choose_lt each
    refine ⟨(List.range n).map q, ⟨by simp, hl, hm, (fun e => by cases e), fun x hx => ?_⟩, ?_, hsz⟩
    · cases hx
      by_cases hn0 : n = 0
      · subst hn0
        exact .inl rfl
      · obtain ⟨b, o, s⟩ := y
        have z0 := (hq 0 (by omega)).2 0 K.kp
        have z1 := z0.trans (List.getElem?_eq_getElem (by rw [K.len]; exact K.kp))
        have hs := World.cell?_spot z1
        obtain rfl : s = none := by
          rw [Nat.zero_mul] at hs
          simpa [Addr.add] using hs
        refine .inr ⟨b, o, rfl, ?_, fun i x hx j u hu => ?_⟩
        · rw [Addr.add_lit, Addr.add_lit] at z1
          exact World.block_lt_of_cell? _ _ z1
        · have hi : i < n := by
            have := (List.getElem?_eq_some_iff.1 hx).1
            simpa using this
          have e : q i = x := by
            simp [hi] at hx
            exact hx
          subst e
          have hj : j < Y.k := by have := (List.getElem?_eq_some_iff.1 hu).1; rwa [K.len] at this
          have := (hq i hi).2 j hj
          rw [Addr.add_lit, Addr.add_lit] at this
          exact this.trans hu
    · intro z hz
      obtain ⟨i, hi, rfl⟩ := List.mem_map.1 hz
      exact (hq i (List.mem_range.1 hi)).1
theorem bytesE20 : Try.prog.bytesOf 28 = 48 := by kernel_rfl
theorem op_w20 {H : Type} {enc : TypeId × Value → H} {W : World} {n : Nat} {cs : List Value} {x : DataW H × List MemPlace} (h : DataW.trod enc Try.prog W 0 (fun _ => true) true n 26 cs = some x) (hw : ∀ k, k ∈ x.1.weights Try.prog 26 → k ≤ reachBytes) :
    ∃ p : Opn, p.v.size ≤ 140737488351232 ∧ cs = [.int .i64 p.k, .int .i64 p.s, .string p.v] := by
  obtain ⟨xs, k, hk, hxy, hlen, hxl, hf⟩ := DataW.trod_struct Try.underlying26 h
  rw [cellsO20] at hlen
  have hxl : xs.length = 3 := hxl
  match xs, hxl, cs, hlen with
  | [y0, y1, y2], _, [v0, v1, v2], _ =>
    have hd : x.1 = .agg ([y0, y1, y2].map Prod.fst) := congrArg Prod.fst hxy
    have g0 := hf 0 _ rfl
    have g1 := hf 1 _ rfl
    have g2 := hf 2 _ rfl
    simp [cellsI20, cellsS20] at g0 g1 g2
    obtain ⟨K, hK, hx0, hw0⟩ := DataW.trod_int Try.underlying3 g0
    obtain ⟨N, hN, hx2, hw2⟩ := DataW.trod_int Try.underlying3 g1
    obtain ⟨t, hS, hx4, hw4⟩ := DataW.trod_string Try.underlying9 g2
    have hwt : t.data.toList.length ≤ reachBytes := hw _ (by
      rw [hd]
      simp only [DataW.weights, Try.underlying26]
      refine DataW.weights_mem_each (j := 2) (t := 9) (d := y2.1) rfl rfl _ ?_
      rw [hx4]
      simp [DataW.weights])
    refine ⟨⟨K, N, t⟩, ?_, ?_⟩
    · show t.data.size ≤ _
      rw [← Array.length_toList]
      exact hwt
    · rw [(List.cons_eq_cons.1 hK).1, (List.cons_eq_cons.1 hN).1, (List.cons_eq_cons.1 hS).1]
theorem enc_w20 {H : Type} {enc : TypeId × Value → H} {W : World} {n : Nat} {cs : List Value} {x : DataW H × List MemPlace} (h : DataW.trod enc Try.prog W 0 (fun _ => true) true n 28 cs = some x) (hw : ∀ k, k ∈ x.1.weights Try.prog 28 → k ≤ reachBytes) :
    ∃ p : En, p.o.v.size ≤ 140737488351232 ∧ cs = p.cs := by
  obtain ⟨xs, k, hk, hxy, hlen, hxl, hf⟩ := DataW.trod_struct Try.underlying28 h
  rw [cellsE20] at hlen
  have hxl : xs.length = 3 := hxl
  match xs, hxl, cs, hlen with
  | [y0, y1, y2], _, [v0, v1, v2, v3, v4], _ =>
    have hd : x.1 = .agg ([y0, y1, y2].map Prod.fst) := congrArg Prod.fst hxy
    have g0 := hf 0 _ rfl
    have g1 := hf 1 _ rfl
    have g2 := hf 2 _ rfl
    simp [cellsI20, cellsO20] at g0 g1 g2
    obtain ⟨K, hK, hx0, hw0⟩ := DataW.trod_int Try.underlying3 g0
    obtain ⟨N, hN, hx2, hw2⟩ := DataW.trod_int Try.underlying3 g1
    obtain ⟨o, ho, e⟩ := op_w20 g2 (fun k hk => hw k (by
      rw [hd]
      simp only [DataW.weights, Try.underlying28]
      exact DataW.weights_mem_each (j := 2) (t := 26) (d := y2.1) rfl rfl _ hk))
    refine ⟨⟨K, N, o⟩, ho, ?_⟩
    have e0 := (List.cons_eq_cons.1 hK).1
    have e1 := (List.cons_eq_cons.1 hN).1
    simp at e
    obtain ⟨e2, e3, e4⟩ := e
    subst e0 e1 e2 e3 e4
    rfl
def CameW (W : World) (a : Option Addr) (n c : Nat) : Prop := ∃ P : List En, SlY yE W a n c P ∧ (∀ x ∈ P, x.o.v.size ≤ 140737488351232) ∧ n ≤ 2932031007317
theorem open_entsW {H : Type} {enc : TypeId × Value → H} {W : World} {base : Nat} {v : Value} {d : DataW H} {p : List MemPlace} (hv : Value.okWide Try.prog W .any base 22 v) (h : DataW.Trod enc Try.prog W 0 (fun _ => true) true 22 v d p)
    (hw : ∀ m, m ∈ d.weights Try.prog 22 → m ≤ reachBytes) : ∃ a n c, v = .slice a n c ∧ CameW W a n c := by
  haveI : Inhabited En := ⟨⟨0, 0, ⟨0, 0, ByteArray.empty⟩⟩⟩
  obtain ⟨a, n, c, rfl⟩ := okWide_slice Try.underlying22 hv
  obtain ⟨fuel, h⟩ := h
  simp only [Value.cells] at h
  obtain ⟨a2, n2, c2, e, P, s, f, hb⟩ := rows_w20 kE (fun q : En => q.o.v.size ≤ 140737488351232) cellsE20 bytesE20 (fun {m cs D q} h hw => enc_w20 h hw) h hw
  cases e
  have hb : n * 48 ≤ 140737488351232 := hb
  exact ⟨a, n, c, rfl, P, s, f, by omega⟩
end Go.Proofs.Ytfafhlahbhopaaa
namespace Go.Proofs.Ytfafhlahbhopaaa
open Go.RowKit Go.Maps
open Classical
theorem len2 {α : Type} : ∀ l : List α, l.length = 2 → ∃ a b, l = [a, b]
  | [], h => by cases h
  | [a], h => by simp at h
  | [a, b], _ => ⟨a, b, rfl⟩
  | a :: b :: c :: r, h => by simp at h
theorem eqHd {h k : List Int} (hl : h.length = 32) (kl : k.length = 32) (d : Nat) (w : World) : (Op.equalIn (d + 2) 24 (.agg (h.map bV).toArray) (.agg (k.map bV).toArray)).run Try.prog w = .ok (decide (h = k)) w := by
  have hi0 := i1b
  rw [Option.map_eq_some_iff] at hi0
  obtain ⟨i, hi, _⟩ := hi0
  have hc : Try.prog.cellsOf 5 = 1 := by kernel_rfl
  have := run_equalIn_array (P := Try.prog) w (d + 1) (h.map bV).toArray (k.map bV).toArray Try.underlying24 hi
  rw [hc, items_b hl kl d w _ (fun i hi => List.mem_range.1 hi), all_eq hl kl] at this
  exact this
theorem part0 (a b : Hs) (w : World) : (part 24 (pcs a b).toArray 0).run Try.prog w = .ok a.val w := by
  have e1 : (isAgg 24).run Try.prog w = .ok true w := by kernel_rfl
  have e2 : (sizeOf 24).run Try.prog w = .ok 32 w := by kernel_rfl
  have e4 : List.take 32 (pcs a b) = a.cs := by rw [pcs, List.take_left' a.len]
  unfold part
  rw [Sem.run_bind, e1, Result.andThen_ok]
  simp [e2, e4]
  first | done | rfl
theorem part32 (a b : Hs) (w : World) : (part 24 (pcs a b).toArray 32).run Try.prog w = .ok b.val w := by
  have e1 : (isAgg 24).run Try.prog w = .ok true w := by kernel_rfl
  have e2 : (sizeOf 24).run Try.prog w = .ok 32 w := by kernel_rfl
  have e4 : List.take 32 (List.drop 32 (pcs a b)) = b.cs := by rw [pcs, List.drop_left' a.len, List.take_of_length_le (by rw [b.len]; omega)]
  unfold part
  rw [Sem.run_bind, e1, Result.andThen_ok]
  simp [e2, e4]
  first | done | rfl
theorem eqP (a b c d : Hs) (w : World) : (Op.equal 95 (pval a b) (pval c d)).run Try.prog w = .ok (decide (a.v = c.v) && decide (b.v = d.v)) w := by
  have hu : Try.prog.underlying 95 = some (.struct (Try.prog.fieldsOf 95)) := by kernel_rfl
  have hp : Try.prog.stoodInHeld 95 = false := by kernel_rfl
  have h := run_equalIn_struct (P := Try.prog) w 9999 95 (pcs a b).toArray (pcs c d).toArray hu hp
  have hf : (Try.prog.fieldsOf 95).toList.map (fun f => (f.type, f.offset, decide (f.name ≠ "_"))) = [(24, 0, true), (24, 32, true)] := by kernel_rfl
  generalize (Try.prog.fieldsOf 95).toList = fs at h hf
  obtain ⟨f, g, rfl⟩ := len2 _ (show fs.length = 2 by have := congrArg List.length hf; rw [List.length_map] at this; exact this)
  simp only [List.map_cons, List.map_nil, List.cons.injEq, Prod.mk.injEq, decide_eq_true_eq, and_true] at hf
  obtain ⟨⟨f1, f2, f3⟩, g1, g2, g3⟩ := hf
  refine h.trans ?_
  have q1 : (Op.equalIn 9999 24 a.val c.val).run Try.prog w = .ok (decide (a.v = c.v)) w := eqHd a.p c.p 9997 w
  have q2 : (Op.equalIn 9999 24 b.val d.val).run Try.prog w = .ok (decide (b.v = d.v)) w := eqHd b.p d.p 9997 w
  rw [Op.eqFields, if_pos f3, f1, f2, Sem.run_bind, part0, Result.andThen_ok, Sem.run_bind, part0, Result.andThen_ok, Sem.run_bind, q1, Result.andThen_ok]
  by_cases e1 : a.v = c.v
  · rw [decide_eq_true e1, if_neg (by simp), Op.eqFields, if_pos g3, g1, g2, Sem.run_bind, part32, Result.andThen_ok, Sem.run_bind, part32, Result.andThen_ok, Sem.run_bind, q2, Result.andThen_ok]
    by_cases e2 : b.v = d.v
    · rw [decide_eq_true e2, if_neg (by simp)]; rfl
    · rw [decide_eq_false e2, if_pos (by simp)]; rfl
  · rw [decide_eq_false e1, if_pos (by simp)]; rfl
theorem gdP (x y : Operand) (A B : Array Value) (w : World) : (eqGuard .neq 95 x y (.agg A) (.agg B)).run Try.prog w = .ok () w := by
  have e : (Try.prog.eqGuardType Try.prog.depth 95) = false := by kernel_rfl
  unfold eqGuard
  simp [e]
theorem neP (x y : Operand) (a b c d : Hs) (w : World) : (do eqGuard .neq 95 x y (pval a b) (pval c d); binOp .neq 95 (pval a b) (pval c d) : Sem Value).run Try.prog w = .ok (.bool (!(decide (a.v = c.v) && decide (b.v = d.v)))) w := by
  rw [Sem.run_bind, show (eqGuard .neq 95 x y (pval a b) (pval c d)).run Try.prog w = .ok () w from gdP x y _ _ w, Result.andThen_ok]
  show (do pure (.bool (!(← Op.equal 95 (pval a b) (pval c d)))) : Sem Value).run Try.prog w = _
  rw [Sem.run_bind, eqP]
  rfl
theorem slFromE20 (q o n c k : Nat) (h1 : k ≤ n) (h2 : n ≤ c) (w : World) : (Instr.sliceAt 22 (.slice (some ⟨q, o, none⟩) n c) (some (.int .i64 (k : Int))) none none).run Try.prog w = .ok (.slice (some (if c = k then ⟨q, o, none⟩ else ⟨q, o + k * 5, none⟩)) (n - k) (c - k)) w := by
  have e1 : (0 : Int) ≤ (k : Int) := by omega
  have e2 : (k : Int) ≤ (n : Int) := by omega
  have e3 : (n : Int) ≤ (c : Int) := by omega
  by_cases h : c = k
  · subst h
    rw [if_pos rfl]
    go_simp
    first | done | simp
  · rw [if_neg h]
    go_simp
    first | done | simp [h]
theorem ex_bdP {o : Oper} {ρ : Operand → Value} {s : TypeId} {a b : Operand} {A B V : Value} {w : World} (ho : o.op = .build s #[(0, a), (1, b)]) (ha : ρ a = A) (hb : ρ b = B) (hr : (Instr.build s #[(0, A), (1, B)]).run Try.prog w = .ok V w) : (execOp ρ o).run Try.prog w = .ok (.value V) w := ex_buildP18 ho (by simp only [List.map_toArray, List.map_cons, List.map_nil, ha, hb]) hr
set_option maxHeartbeats 2000000 in
theorem one20 (a b c d : Hs) (w : World) :
    Calls Try.prog 61 #[pval a b, pval c d] w fun e w' => e = .returned (.bool ((!(decide (a.v = c.v) && decide (b.v = d.v))) && decide ((nd a b).v = (nd c d).v))) ∧ Below w.heap.size w w' := by
  go_enter Try.func61, Try.ntmps61
  go_upto_region 0 with fail
  refine wp_region_lit ?_
  refine vl_gen (fun T => Rp T 21 [(1, gw true (pval c d)), (0, gw true (pval a b))]) (((Rp.nil rfl).cons rfl).cons rfl) (fun Z0 q0 => ?_)
  obtain ⟨w1, hw1⟩ : ∃ y, y = w.alloc (.cells (pcs a b).toArray 95) := ⟨_, rfl⟩
  refine vw (.pointer (some ⟨w.heap.size, 0, none⟩)) w1 (want_none rfl) (ex_box18 rfl (q0.e (j := 0) rfl) (by rw [hw1]; exact bxP _ _ _)) rfl q0.z (by decide) (q0.k fun _ q1 => ?_);clear q0
  have Bw1 : BB w1 w.heap.size 95 (pcs a b) := by rw [hw1]; exact BB.new _ _ _
  have bw1 : Below w.heap.size w w1 := by rw [hw1]; exact (Below.refl _ _).alloc (Nat.le_refl _) _
  have zw1 : w1.heap.size = w.heap.size + 1 := by rw [hw1]; exact World.size_alloc _ _
  clear hw1
  obtain ⟨w2, hw2⟩ : ∃ y, y = w1.alloc (.cells (pcs c d).toArray 95) := ⟨_, rfl⟩
  refine vw (.pointer (some ⟨w1.heap.size, 0, none⟩)) w2 (want_none rfl) (ex_box18 rfl (q1.e (j := 1) rfl) (by rw [hw2]; exact bxP _ _ _)) rfl q1.z (by decide) (q1.k fun _ q2 => ?_);clear q1
  have Bw2 : BB w2 w1.heap.size 95 (pcs c d) := by rw [hw2]; exact BB.new _ _ _
  have bw2 : Below w1.heap.size w1 w2 := by rw [hw2]; exact (Below.refl _ _).alloc (Nat.le_refl _) _
  have zw2 : w2.heap.size = w1.heap.size + 1 := by rw [hw2]; exact World.size_alloc _ _
  clear hw2
  refine q2.t (.bool false) (ex_assign rfl rfl) fun _ q3 => ?_;clear q2
  refine wpList_nil ?_
  go_upto_region 1 with fail
  have A2 := Bw1.later bw2
  have d2 : Below w.heap.size w w2 := bw1.trans (bw2.mono (by omega))
  refine vq_start (C := fun v => Below w2.heap.size w2 v) (by kernel_rfl) (by kernel_rfl) ((Below.refl _ _).drew) ?_
  refine q3.q (pval a b) (fun v hv => ex_ld rfl (q3.e (j := 2) rfl) (A2.later hv).ldP) fun _ q4 => ?_;clear q3
  refine q4.q (pval c d) (fun v hv => ex_ld rfl (q4.e (j := 3) rfl) (Bw2.later hv).ldP) fun _ q5 => ?_;clear q4
  refine q5.q (.bool (!(decide (a.v = c.v) && decide (b.v = d.v)))) (fun v hv => ex_bin rfl (q5.e (j := 5) rfl) (q5.e (j := 6) rfl) (neP _ _ _ _ _ _ _)) fun _ q6 => ?_;clear q5
  refine q6.q (.bool (!(decide (a.v = c.v) && decide (b.v = d.v)))) (fun v hv => ex_move rfl (q6.e (j := 7) rfl)) fun _ q7 => ?_;clear q6
  refine vq ((true && ((!(decide (a.v = c.v) && decide (b.v = d.v))) == true))) (.pointer (some ⟨w.heap.size, 0, none⟩)) (want_g rfl rfl (q7.a 8 rfl)) (fun hc v hv => ex_fa rfl (q7.e (j := 2) rfl) (faP _ 0 0 (by simp) _)) rfl q7.z (by decide) (q7.k fun _ q8 => ?_);clear q7
  refine vq ((true && ((!(decide (a.v = c.v) && decide (b.v = d.v))) == true))) (a.val) (want_g rfl rfl (q8.a 8 rfl)) (fun hc v hv => ex_ld rfl (ev (q8.a 9 rfl) hc) (A2.later hv).ldA) rfl q8.z (by decide) (q8.k fun _ q9 => ?_);clear q8
  refine vq ((true && ((!(decide (a.v = c.v) && decide (b.v = d.v))) == true))) (.pointer (some ⟨w.heap.size, 32, none⟩)) (want_g rfl rfl (q9.a 8 rfl)) (fun hc v hv => ex_fa rfl (q9.e (j := 2) rfl) (faP _ 1 32 (by simp) _)) rfl q9.z (by decide) (q9.k fun _ q10 => ?_);clear q9
  refine vq ((true && ((!(decide (a.v = c.v) && decide (b.v = d.v))) == true))) (b.val) (want_g rfl rfl (q10.a 8 rfl)) (fun hc v hv => ex_ld rfl (ev (q10.a 11 rfl) hc) (A2.later hv).ldB) rfl q10.z (by decide) (q10.k fun _ q11 => ?_);clear q10
  refine vq_call18 ((true && ((!(decide (a.v = c.v) && decide (b.v = d.v))) == true))) ((nd a b).val) (want_g rfl rfl (q11.a 8 rfl)) (fun hc v hv => ex_call rfl (by simp only [List.map_toArray, List.map_cons, List.map_nil, (ev (q11.a 10 rfl) hc), (ev (q11.a 12 rfl) hc), evc] <;> rfl) rfl) (fun hc v hv => bel18 hv (node20 a b v) hv.size) rfl q11.z (by decide) (q11.k fun _ q12 => ?_);clear q11
  refine vq ((true && ((!(decide (a.v = c.v) && decide (b.v = d.v))) == true))) (.pointer (some ⟨w1.heap.size, 0, none⟩)) (want_g rfl rfl (q12.a 8 rfl)) (fun hc v hv => ex_fa rfl (q12.e (j := 3) rfl) (faP _ 0 0 (by simp) _)) rfl q12.z (by decide) (q12.k fun _ q13 => ?_);clear q12
  refine vq ((true && ((!(decide (a.v = c.v) && decide (b.v = d.v))) == true))) (c.val) (want_g rfl rfl (q13.a 8 rfl)) (fun hc v hv => ex_ld rfl (ev (q13.a 14 rfl) hc) (Bw2.later hv).ldA) rfl q13.z (by decide) (q13.k fun _ q14 => ?_);clear q13
  refine vq ((true && ((!(decide (a.v = c.v) && decide (b.v = d.v))) == true))) (.pointer (some ⟨w1.heap.size, 32, none⟩)) (want_g rfl rfl (q14.a 8 rfl)) (fun hc v hv => ex_fa rfl (q14.e (j := 3) rfl) (faP _ 1 32 (by simp) _)) rfl q14.z (by decide) (q14.k fun _ q15 => ?_);clear q14
  refine vq ((true && ((!(decide (a.v = c.v) && decide (b.v = d.v))) == true))) (d.val) (want_g rfl rfl (q15.a 8 rfl)) (fun hc v hv => ex_ld rfl (ev (q15.a 16 rfl) hc) (Bw2.later hv).ldB) rfl q15.z (by decide) (q15.k fun _ q16 => ?_);clear q15
  refine vq_call18 ((true && ((!(decide (a.v = c.v) && decide (b.v = d.v))) == true))) ((nd c d).val) (want_g rfl rfl (q16.a 8 rfl)) (fun hc v hv => ex_call rfl (by simp only [List.map_toArray, List.map_cons, List.map_nil, (ev (q16.a 15 rfl) hc), (ev (q16.a 17 rfl) hc), evc] <;> rfl) rfl) (fun hc v hv => bel18 hv (node20 c d v) hv.size) rfl q16.z (by decide) (q16.k fun _ q17 => ?_);clear q16
  refine vq ((true && ((!(decide (a.v = c.v) && decide (b.v = d.v))) == true))) (.bool (decide ((nd a b).v = (nd c d).v))) (want_g rfl rfl (q17.a 8 rfl)) (fun hc v hv => ex_bin rfl (ev (q17.a 13 rfl) hc) (ev (q17.a 18 rfl) hc) (eqHZ _ _ _ _ _)) rfl q17.z (by decide) (q17.k fun _ q18 => ?_);clear q17
  refine q18.q (.bool ((!(decide (a.v = c.v) && decide (b.v = d.v))) && decide ((nd a b).v = (nd c d).v))) (fun v hv => ex_and rfl (q18.a 8 rfl) (q18.a 19 rfl) rfl) fun _ q19 => ?_;clear q18
  refine q19.q (.bool ((!(decide (a.v = c.v) && decide (b.v = d.v))) && decide ((nd a b).v = (nd c d).v))) (fun v hv => ex_assign rfl (q19.e (j := 20) rfl)) fun _ q20 => ?_;clear q19
  refine vq_nil (fun r1 hr1 => ?_)
  go_wp2
  refine bodyPost_ret (results_tmp rfl _ _ _) rfl ?_
  rw [getD_of (q20.a 4 rfl)]
  exact ⟨rfl, d2.trans (hr1.mono d2.size)⟩
set_option maxHeartbeats 2000000 in
theorem halves20 (l : List En) (a : Option Addr) (n c : Nat) (w : World) (h : SlY yE w a n c l) (h2 : 2 ≤ n) (hn : n ≤ 1000000) (hv : ∀ x ∈ l, x.o.v.size ≤ 140737488352232) :
    Calls Try.prog 62 #[.slice a n c] w fun e w' => e = .returned (pval (hd ((l.map lf).take (lft n))) (hd ((l.map lf).drop (lft n)))) ∧ Below w.heap.size w w' := by
  go_enter Try.func62, Try.ntmps62
  go_upto_region 0 with fail
  refine wp_region_lit ?_
  refine vl_gen (fun T => Rp T 16 [(0, gw true (.slice a n c))]) ((Rp.nil rfl).cons rfl) (fun Z0 q0 => ?_)
  have hln := h.len
  have hcap := h.cap
  obtain ⟨q, o, rfl, hq, hl⟩ := h.place (by rintro rfl; simp at hln; omega)
  obtain ⟨w1, hw1⟩ : ∃ y, y = w.alloc (.cells (pz).toArray 95) := ⟨_, rfl⟩
  refine vw (.pointer (some ⟨w.heap.size, 0, none⟩)) w1 (want_none rfl) (ex_al rfl (by rw [hw1]; exact alP _)) rfl q0.z (by decide) (q0.k fun _ q1 => ?_);clear q0
  have Bw1 : BB w1 w.heap.size 95 (pz) := by rw [hw1]; exact BB.new _ _ _
  have bw1 : Below w.heap.size w w1 := by rw [hw1]; exact (Below.refl _ _).alloc (Nat.le_refl _) _
  have zw1 : w1.heap.size = w.heap.size + 1 := by rw [hw1]; exact World.size_alloc _ _
  clear hw1
  refine wpList_nil ?_
  go_upto_region 1 with fail
  refine wp_region_lit ?_
  refine q1.t (.slice (some ⟨q, o, none⟩) n c) (ex_move rfl (q1.e (j := 0) rfl)) fun _ q2 => ?_;clear q1
  refine q2.t (.int .i64 ((n : Nat) : Int)) (ex_lenG rfl rfl Try.underlying22 (q2.e (j := 4) rfl)) fun _ q3 => ?_;clear q2
  refine vcallP (want_none rfl) (ex_call rfl (by simp only [List.map_toArray, List.map_cons, List.map_nil, (q3.e (j := 5) rfl), evc] <;> rfl) rfl) (split20 n h2 hn w1) rfl q3.z (by decide) ?_
  rintro e w9 ⟨rfl, hw9⟩
  refine ⟨_, rfl, q3.k fun _ q4 => ?_⟩;clear q3
  have hw9 := hw9.symm
  subst hw9
  refine q4.t (.int .i64 ((lft n : Nat) : Int)) (ex_assign rfl (q4.e (j := 6) rfl)) fun _ q5 => ?_;clear q4
  refine wpList_nil ?_
  go_upto_region 2 with fail
  have hb := lft_b (n := n) (by omega)
  refine vg_start (fun k => k == 9) (fun _ => True) (by kernel_rfl) ?_
  have hy0 : Below w1.heap.size w1 w1.drew := (Below.refl _ _).drew
  have hzy0 : w1.drew.heap.size = w1.heap.size := rfl
  generalize w1.drew = y0 at *
  have hS := (h.later bw1).later hy0
  have sT := hS.take (lft n) (by omega)
  have sF := hS.from20 (lft n) (by omega)
  refine vg_takeW 0 true (.slice (some ⟨q, o, none⟩) n c) rfl (by kernel_rfl) (by kernel_rfl) (by kernel_rfl) (by kernel_rfl) (want_none rfl) (fun hc v => ex_move rfl (q5.e (j := 0) rfl)) rfl q5.z (by decide) (fun _ => trivial) (q5.k fun _ q6 => ?_);clear q5
  refine vg_takeW 1 true (.int .i64 ((lft n : Nat) : Int)) rfl (by kernel_rfl) (by kernel_rfl) (by kernel_rfl) (by kernel_rfl) (want_none rfl) (fun hc v => ex_move rfl (q6.e (j := 3) rfl)) rfl q6.z (by decide) (fun _ => trivial) (q6.k fun _ q7 => ?_);clear q6
  refine vg_takeW 2 true (.slice (some ⟨q, o, none⟩) (lft n) c) rfl (by kernel_rfl) (by kernel_rfl) (by kernel_rfl) (by kernel_rfl) (want_none rfl) (fun hc v => ex_sl19 rfl (q7.e (j := 7) rfl) rfl (congrArg some (q7.e (j := 8) rfl)) rfl (slToE20 q o n c (lft n) (by omega) hcap _)) rfl q7.z (by decide) (fun _ => trivial) (q7.k fun _ q8 => ?_);clear q7
  refine vg_takeW 4 true (.slice (some ⟨q, o, none⟩) n c) rfl (by kernel_rfl) (by kernel_rfl) (by kernel_rfl) (by kernel_rfl) (want_none rfl) (fun hc v => ex_move rfl (q8.e (j := 0) rfl)) rfl q8.z (by decide) (fun _ => trivial) (q8.k fun _ q9 => ?_);clear q8
  refine vg_takeW 5 true (.int .i64 ((lft n : Nat) : Int)) rfl (by kernel_rfl) (by kernel_rfl) (by kernel_rfl) (by kernel_rfl) (want_none rfl) (fun hc v => ex_move rfl (q9.e (j := 3) rfl)) rfl q9.z (by decide) (fun _ => trivial) (q9.k fun _ q10 => ?_);clear q9
  refine vg_takeW 6 true (.slice (some (if c = lft n then ⟨q, o, none⟩ else ⟨q, o + (lft n) * 5, none⟩)) (n - lft n) (c - lft n)) rfl (by kernel_rfl) (by kernel_rfl) (by kernel_rfl) (by kernel_rfl) (want_none rfl) (fun hc v => ex_sl19 rfl (q10.e (j := 11) rfl) (congrArg some (q10.e (j := 12) rfl)) rfl rfl (slFromE20 q o n c (lft n) (by omega) hcap _)) rfl q10.z (by decide) (fun _ => trivial) (q10.k fun _ q11 => ?_);clear q10
  refine vg_call 3 rfl (by kernel_rfl) (want_none rfl) (ex_call rfl (by simp only [List.map_toArray, List.map_cons, List.map_nil, (q11.e (j := 9) rfl), evc] <;> rfl) rfl) (head20 _ _ _ _ y0 sT (by omega) (fun x hx => hv x (List.mem_of_mem_take hx))) rfl q11.z (by decide) ?_
  rintro e d1 ⟨rfl, b1⟩
  have z1 := b1.size
  have sF1 := sF.later b1
  have Bh1 := (Bw1.later hy0).later b1
  refine ⟨_, rfl, trivial, q11.k fun _ q12 => ?_⟩;clear q11
  refine vg_call 7 rfl (by kernel_rfl) (want_none rfl) (ex_call rfl (by simp only [List.map_toArray, List.map_cons, List.map_nil, (q12.e (j := 13) rfl), evc] <;> rfl) rfl) (head20 _ _ _ _ d1 sF1 (by omega) (fun x hx => hv x (List.mem_of_mem_drop hx))) rfl q12.z (by decide) ?_
  rintro e d2 ⟨rfl, b2⟩
  have z2 := b2.size
  have Bh2 := Bh1.later b2
  have d6 : Below w.heap.size w d2 := ((bw1.trans (hy0.mono (by omega))).trans (b1.mono (by omega))).trans (b2.mono (by omega))
  refine ⟨_, rfl, trivial, q12.k fun _ q13 => ?_⟩;clear q12
  refine vg_takeW 8 true (pval (hd ((l.take (lft n)).map lf)) (hd ((l.drop (lft n)).map lf))) rfl (by kernel_rfl) (by kernel_rfl) (by kernel_rfl) (by kernel_rfl) (want_none rfl) (fun hc v => ex_bdP rfl (q13.e (j := 10) rfl) (q13.e (j := 14) rfl) (bdP _ _ _)) rfl q13.z (by decide) (fun _ => trivial) (q13.k fun _ q14 => ?_);clear q13
  obtain ⟨d7, hd7⟩ : ∃ y, y = d2.setCells w.heap.size 0 (pcs (hd ((l.take (lft n)).map lf)) (hd ((l.drop (lft n)).map lf))) := ⟨_, rfl⟩
  refine vg_store 9 d7 rfl (by kernel_rfl) (by kernel_rfl) (want_none rfl) (ex_st rfl (q14.e (j := 2) rfl) (q14.e (j := 15) rfl) (by rw [hd7]; exact Bh2.stP rfl _ _)) rfl ?_
  have Bd7 : BB d7 w.heap.size 95 (pcs (hd ((l.take (lft n)).map lf)) (hd ((l.drop (lft n)).map lf))) := by rw [hd7]; exact Bh2.whole _ (by rw [pcs_len]; rfl)
  have ud7 : Upd (fun k => k = w.heap.size) d2 d7 := by rw [hd7]; exact upd18 _ _ _ _
  clear hd7
  refine vg_done (by kernel_rfl) ?_
  go_wp2
  exact Bd7.res rfl (q14.a 2 rfl) Try.underlying95 rfl (by rw [pcs_len]; exact i64p) ⟨by rw [List.map_take, List.map_drop]; rfl, d6.trans (bel_ge ud7 d6.size (Nat.le_refl _))⟩
end Go.Proofs.Ytfafhlahbhopaaa
namespace Go.Proofs.Ytfafhlahbhopaaa
open Go.RowKit Go.Maps
open Classical
theorem neEnT (a b : Operand) {x y : En} (h : ¬ x = y) (w : World) : (do eqGuard .neq 28 a b x.val20 y.val20; binOp .neq 28 x.val20 y.val20 : Sem Value).run Try.prog w = .ok (.bool true) w := by
  have := neEn20 a b x y w
  rw [decide_eq_false h] at this
  exact this
theorem eqHt (x y : Operand) {h k : Hs} (e : h.v = k.v) (w : World) : (do eqGuard .eql 24 x y h.val k.val; binOp .eql 24 h.val k.val : Sem Value).run Try.prog w = .ok (.bool true) w := by
  have := eqHZ x y h k w
  rw [decide_eq_true e] at this
  exact this
theorem ex_min20 {o : Oper} {ρ : Operand → Value} {i j : Nat} {n m : Nat} {w : World} (ho : o.op = .call { callee := .builtin .min, args := #[.tmp i, .tmp j], argTypes := #[3, 3] }) (ht : o.type = 3) (hx : ρ (.tmp i) = .int .i64 (n : Int)) (hy : ρ (.tmp j) = .int .i64 (m : Int)) : (execOp ρ o).run Try.prog w = .ok (.value (.int .i64 ((min n m : Nat) : Int))) w := by
  unfold execOp
  simp only [ho]
  rw [Sem.run_bind]
  simp only [resolve, List.map_toArray, List.map_cons, List.map_nil, hx, hy, ht]
  by_cases h : n ≤ m
  · have h2 : ¬ (m : Int) < (n : Int) := by omega
    rw [Nat.min_eq_left h]
    go_simp
    first | done | (simp; omega)
  · have h2 : (m : Int) < (n : Int) := by omega
    rw [Nat.min_eq_right (by omega)]
    go_simp
    first | done | (simp; omega)
set_option maxHeartbeats 2000000 in
theorem clash_step (m : Nat) (ih : ∀ (A B : List En) (a : Option Addr) (n c : Nat) (a2 : Option Addr) (c2 : Nat) (w : World), SlY yE w a n c A → SlY yE w a2 n c2 B → n < m → 1 ≤ n → n ≤ 1000000 → hd (A.map lf) = hd (B.map lf) → ¬ A = B → (∀ x ∈ A, x.o.v.size ≤ 140737488352232) → (∀ x ∈ B, x.o.v.size ≤ 140737488352232) → Calls Try.prog 34 #[.slice a n c, .slice a2 n c2] w fun e w' => e = .returned (.bool true) ∧ Below w.heap.size w w') (A B : List En) (a : Option Addr) (n c : Nat) (a2 : Option Addr) (c2 : Nat) (w : World) (hA : SlY yE w a n c A) (hB : SlY yE w a2 n c2 B) (hm : n ≤ m) (hn0 : 1 ≤ n) (hn2 : n ≤ 1000000) (hhd : hd (A.map lf) = hd (B.map lf)) (hne : ¬ A = B) (hvA : ∀ x ∈ A, x.o.v.size ≤ 140737488352232) (hvB : ∀ x ∈ B, x.o.v.size ≤ 140737488352232) :
    Calls Try.prog 34 #[.slice a n c, .slice a2 n c2] w fun e w' => e = .returned (.bool true) ∧ Below w.heap.size w w' := by
  go_enter Try.func34, Try.ntmps34
  go_upto_region 0 with fail
  refine wp_region_lit ?_
  refine vl_gen (fun T => Rp T 56 [(1, gw true (.slice a2 n c2)), (0, gw true (.slice a n c))]) (((Rp.nil rfl).cons rfl).cons rfl) (fun Z0 q0 => ?_)
  have lA := hA.len
  have lB := hB.len
  have capA := hA.cap
  have capB := hB.cap
  obtain ⟨qa, oa, rfl, hqla, hla⟩ := hA.place (by rintro rfl; simp at lA; omega)
  obtain ⟨qb, ob, rfl, hqlb, hlb⟩ := hB.place (by rintro rfl; simp at lB; omega)
  refine q0.t (.bool false) (ex_assign rfl rfl) fun _ q1 => ?_;clear q0
  refine wpList_nil ?_
  go_upto_region 1 with fail
  refine wp_region_lit ?_
  refine q1.t (.slice (some ⟨qa, oa, none⟩) n c) (ex_move rfl (q1.e (j := 0) rfl)) fun _ q2 => ?_;clear q1
  refine q2.t (.int .i64 ((n : Nat) : Int)) (ex_lenG rfl rfl Try.underlying22 (q2.e (j := 6) rfl)) fun _ q3 => ?_;clear q2
  by_cases hn1 : n = 1
  · refine q3.t (.bool true) (ex_bin (Y := .int .i64 (1 : Int)) rfl (q3.e (j := 7) rfl) rfl (eqT20 _ _ (by omega) _)) fun _ q4 => ?_;clear q3
    refine wpList_nil ?_
    go_upto_region 2 with fail
    refine wp_cond_true (q4.e (j := 8) rfl) ?_
    go_upto_region 2 with fail
    obtain ⟨x, rfl⟩ : ∃ x, A = [x] := List.length_eq_one_iff.1 (by omega)
    obtain ⟨y, rfl⟩ : ∃ y, B = [y] := List.length_eq_one_iff.1 (by omega)
    have hxy : ¬ x = y := fun e => hne (by rw [e])
    have hlf : lf x = lf y := hhd
    have hlv : (lf x).v = (lf y).v := by rw [hlf]
    have HL := hide hlv
    clear hlf hlv hhd hne
    refine vq_start (C := fun v => Below w.heap.size w v) (by kernel_rfl) (by kernel_rfl) ((Below.refl _ _).drew) ?_
    refine q4.q (.slice (some ⟨qa, oa, none⟩) n c) (fun v hv => ex_move rfl (q4.e (j := 0) rfl)) fun _ q5 => ?_;clear q4
    refine q5.q (.pointer (some ⟨qa, oa + 0 * 5, none⟩)) (fun v hv => ex_ix (Y := .int .i64 ((0 : Nat) : Int)) rfl (q5.e (j := 9) rfl) rfl (ixE20 qa oa n c 0 (by omega) _)) fun _ q6 => ?_;clear q5
    refine q6.q (x.val20) (fun v hv => ex_ld rfl (q6.e (j := 10) rfl) (ldEl20 (hla.upd (S := fun _ => False) (Upd.of_below hv) hqla id) (j := 0) rfl)) fun _ q7 => ?_;clear q6
    refine q7.q (.slice (some ⟨qb, ob, none⟩) n c2) (fun v hv => ex_move rfl (q7.e (j := 1) rfl)) fun _ q8 => ?_;clear q7
    refine q8.q (.pointer (some ⟨qb, ob + 0 * 5, none⟩)) (fun v hv => ex_ix (Y := .int .i64 ((0 : Nat) : Int)) rfl (q8.e (j := 12) rfl) rfl (ixE20 qb ob n c2 0 (by omega) _)) fun _ q9 => ?_;clear q8
    refine q9.q (y.val20) (fun v hv => ex_ld rfl (q9.e (j := 13) rfl) (ldEl20 (hlb.upd (S := fun _ => False) (Upd.of_below hv) hqlb id) (j := 0) rfl)) fun _ q10 => ?_;clear q9
    refine q10.q (.bool true) (fun v hv => ex_bin rfl (q10.e (j := 11) rfl) (q10.e (j := 14) rfl) (neEnT _ _ hxy _)) fun _ q11 => ?_;clear q10
    refine q11.q (.bool true) (fun v hv => ex_move rfl (q11.e (j := 15) rfl)) fun _ q12 => ?_;clear q11
    refine vq ((true && (true == true))) (.slice (some ⟨qa, oa, none⟩) n c) (want_g rfl rfl (q12.a 16 rfl)) (fun hc v hv => ex_move rfl (q12.e (j := 0) rfl)) rfl q12.z (by decide) (q12.k fun _ q13 => ?_);clear q12
    refine vq ((true && (true == true))) (.pointer (some ⟨qa, oa + 0 * 5, none⟩)) (want_g rfl rfl (q13.a 16 rfl)) (fun hc v hv => ex_ix (Y := .int .i64 ((0 : Nat) : Int)) rfl (q13.e (j := 17) rfl) rfl (ixE20 qa oa n c 0 (by omega) _)) rfl q13.z (by decide) (q13.k fun _ q14 => ?_);clear q13
    refine vq ((true && (true == true))) (x.val20) (want_g rfl rfl (q14.a 16 rfl)) (fun hc v hv => ex_ld rfl (q14.e (j := 18) rfl) (ldEl20 (hla.upd (S := fun _ => False) (Upd.of_below hv) hqla id) (j := 0) rfl)) rfl q14.z (by decide) (q14.k fun _ q15 => ?_);clear q14
    refine vq_call18 ((true && (true == true))) ((lf x).val) (want_g rfl rfl (q15.a 16 rfl)) (fun hc v hv => ex_call rfl (by simp only [List.map_toArray, List.map_cons, List.map_nil, (q15.e (j := 19) rfl), evc] <;> rfl) rfl) (fun hc v hv => bel18 hv (leaf20 x v (hvA x (by simp))) hv.size) rfl q15.z (by decide) (q15.k fun _ q16 => ?_);clear q15
    refine vq ((true && (true == true))) (.slice (some ⟨qb, ob, none⟩) n c2) (want_g rfl rfl (q16.a 16 rfl)) (fun hc v hv => ex_move rfl (q16.e (j := 1) rfl)) rfl q16.z (by decide) (q16.k fun _ q17 => ?_);clear q16
    refine vq ((true && (true == true))) (.pointer (some ⟨qb, ob + 0 * 5, none⟩)) (want_g rfl rfl (q17.a 16 rfl)) (fun hc v hv => ex_ix (Y := .int .i64 ((0 : Nat) : Int)) rfl (q17.e (j := 21) rfl) rfl (ixE20 qb ob n c2 0 (by omega) _)) rfl q17.z (by decide) (q17.k fun _ q18 => ?_);clear q17
    refine vq ((true && (true == true))) (y.val20) (want_g rfl rfl (q18.a 16 rfl)) (fun hc v hv => ex_ld rfl (q18.e (j := 22) rfl) (ldEl20 (hlb.upd (S := fun _ => False) (Upd.of_below hv) hqlb id) (j := 0) rfl)) rfl q18.z (by decide) (q18.k fun _ q19 => ?_);clear q18
    refine vq_call18 ((true && (true == true))) ((lf y).val) (want_g rfl rfl (q19.a 16 rfl)) (fun hc v hv => ex_call rfl (by simp only [List.map_toArray, List.map_cons, List.map_nil, (q19.e (j := 23) rfl), evc] <;> rfl) rfl) (fun hc v hv => bel18 hv (leaf20 y v (hvB y (by simp))) hv.size) rfl q19.z (by decide) (q19.k fun _ q20 => ?_);clear q19
    refine vq ((true && (true == true))) (.bool true) (want_g rfl rfl (q20.a 16 rfl)) (fun hc v hv => ex_bin rfl (q20.e (j := 20) rfl) (q20.e (j := 24) rfl) (eqHt _ _ HL.out _)) rfl q20.z (by decide) (q20.k fun _ q21 => ?_);clear q20
    refine q21.q (.bool true) (fun v hv => ex_and (c := true) (b := true) (z := true) rfl (q21.a 16 rfl) (q21.a 25 rfl) rfl) fun _ q22 => ?_;clear q21
    refine q22.q (.bool true) (fun v hv => ex_assign rfl (q22.e (j := 26) rfl)) fun _ q23 => ?_;clear q22
    refine vq_nil (fun r1 hr1 => ?_)
    go_wp2
    refine bodyPost_ret (results_tmp rfl _ _ _) rfl ?_
    rw [getD_of (q23.a 4 rfl)]
    exact ⟨rfl, hr1⟩
  · refine q3.t (.bool false) (ex_bin (Y := .int .i64 (1 : Int)) rfl (q3.e (j := 7) rfl) rfl (eqF20 _ _ (by omega) _)) fun _ q4 => ?_;clear q3
    refine wpList_nil ?_
    go_upto_region 3 with fail
    refine wp_cond_false (q4.e (j := 8) rfl) ?_
    go_upto_region 3 with fail
    refine wp_region_lit ?_
    have hb := lft_b (n := n) (by omega)
    have eA := hd_2 (A.map lf) (by rw [List.length_map]; omega)
    have eB := hd_2 (B.map lf) (by rw [List.length_map]; omega)
    rw [List.length_map, lA] at eA
    rw [List.length_map, lB] at eB
    have hnd : (nd (hd ((A.map lf).take (lft n))) (hd ((A.map lf).drop (lft n)))).v = (nd (hd ((B.map lf).take (lft n))) (hd ((B.map lf).drop (lft n)))).v := by rw [← eA, ← eB, hhd]
    have HND := hide hnd
    clear hnd eA eB hhd
    refine q4.t (.slice (some ⟨qa, oa, none⟩) n c) (ex_move rfl (q4.e (j := 0) rfl)) fun _ q5 => ?_;clear q4
    refine vcallP (want_none rfl) (ex_call rfl (by simp only [List.map_toArray, List.map_cons, List.map_nil, (q5.e (j := 27) rfl), evc] <;> rfl) rfl) (halves20 A _ n c w hA (by omega) hn2 hvA) rfl q5.z (by decide) ?_
    rintro e w1 ⟨rfl, b1⟩
    refine ⟨_, rfl, q5.k fun _ q6 => ?_⟩;clear q5
    have z1 := b1.size
    have A1 := hA.later b1
    have B1 := hB.later b1
    refine q6.t (.slice (some ⟨qb, ob, none⟩) n c2) (ex_move rfl (q6.e (j := 1) rfl)) fun _ q7 => ?_;clear q6
    refine vcallP (want_none rfl) (ex_call rfl (by simp only [List.map_toArray, List.map_cons, List.map_nil, (q7.e (j := 29) rfl), evc] <;> rfl) rfl) (halves20 B _ n c2 w1 B1 (by omega) hn2 hvB) rfl q7.z (by decide) ?_
    rintro e w2 ⟨rfl, b2⟩
    refine ⟨_, rfl, q7.k fun _ q8 => ?_⟩;clear q7
    have z2 := b2.size
    have A2 := A1.later b2
    have B2 := B1.later b2
    refine vcallP (want_none rfl) (ex_call rfl (by simp only [List.map_toArray, List.map_cons, List.map_nil, (q8.e (j := 28) rfl), (q8.e (j := 30) rfl), evc] <;> rfl) rfl) (one20 (hd ((A.map lf).take (lft n))) (hd ((A.map lf).drop (lft n))) (hd ((B.map lf).take (lft n))) (hd ((B.map lf).drop (lft n))) w2) rfl q8.z (by decide) ?_
    rintro e w3 ⟨rfl, b3⟩
    refine ⟨_, rfl, q8.k fun _ q9 => ?_⟩;clear q8
    have z3 := b3.size
    have A3 := A2.later b3
    have B3 := B2.later b3
    have d3 : Below w.heap.size w w3 := (b1.trans (b2.mono (by omega))).trans (b3.mono (by omega))
    rw [decide_eq_true HND.out] at q9
    clear A1 B1 A2 B2
    refine wpList_nil ?_
    by_cases hpq : (hd ((A.map lf).take (lft n))).v = (hd ((B.map lf).take (lft n))).v ∧ (hd ((A.map lf).drop (lft n))).v = (hd ((B.map lf).drop (lft n))).v
    · rw [decide_eq_true hpq.1, decide_eq_true hpq.2] at q9
      have t1 : hd ((A.map lf).take (lft n)) = hd ((B.map lf).take (lft n)) := Hs.ext20 hpq.1
      have t2 : hd ((A.map lf).drop (lft n)) = hd ((B.map lf).drop (lft n)) := Hs.ext20 hpq.2
      rw [← List.map_take, ← List.map_take] at t1
      rw [← List.map_drop, ← List.map_drop] at t2
      have T1 := hide t1
      have T2 := hide t2
      clear t1 t2 hpq HND
      go_upto_region 5 with fail
      refine wp_cond_false (q9.e (j := 31) rfl) ?_
      go_upto_region 5 with fail
      refine wp_region_lit ?_
      refine q9.t (.slice (some ⟨qa, oa, none⟩) n c) (ex_move rfl (q9.e (j := 0) rfl)) fun _ q10 => ?_;clear q9
      refine q10.t (.int .i64 ((n : Nat) : Int)) (ex_lenG rfl rfl Try.underlying22 (q10.e (j := 32) rfl)) fun _ q11 => ?_;clear q10
      refine vcallP (want_none rfl) (ex_call rfl (by simp only [List.map_toArray, List.map_cons, List.map_nil, (q11.e (j := 33) rfl), evc] <;> rfl) rfl) (split20 n (by omega) hn2 w3) rfl q11.z (by decide) ?_
      rintro e w9 ⟨rfl, hw9⟩
      refine ⟨_, rfl, q11.k fun _ q12 => ?_⟩;clear q11
      have hw9 := hw9.symm
      subst hw9
      refine q12.t (.int .i64 ((lft n : Nat) : Int)) (ex_assign rfl (q12.e (j := 34) rfl)) fun _ q13 => ?_;clear q12
      refine wpList_nil ?_
      go_upto_region 6 with fail
      refine vq_start (C := fun v => Below w3.heap.size w3 v) (by kernel_rfl) (by kernel_rfl) ((Below.refl _ _).drew) ?_
      refine q13.q (.slice (some ⟨qa, oa, none⟩) n c) (fun v hv => ex_move rfl (q13.e (j := 0) rfl)) fun _ q14 => ?_;clear q13
      refine q14.q (.int .i64 ((lft n : Nat) : Int)) (fun v hv => ex_move rfl (q14.e (j := 5) rfl)) fun _ q15 => ?_;clear q14
      refine q15.q (.slice (some ⟨qa, oa, none⟩) (lft n) c) (fun v hv => ex_sl19 rfl (q15.e (j := 35) rfl) rfl (congrArg some (q15.e (j := 36) rfl)) rfl (slToE20 qa oa n c (lft n) (by omega) capA _)) fun _ q16 => ?_;clear q15
      refine q16.q (.slice (some ⟨qb, ob, none⟩) n c2) (fun v hv => ex_move rfl (q16.e (j := 1) rfl)) fun _ q17 => ?_;clear q16
      refine q17.q (.int .i64 ((lft n : Nat) : Int)) (fun v hv => ex_move rfl (q17.e (j := 5) rfl)) fun _ q18 => ?_;clear q17
      refine q18.q (.slice (some ⟨qb, ob, none⟩) (lft n) c2) (fun v hv => ex_sl19 rfl (q18.e (j := 38) rfl) rfl (congrArg some (q18.e (j := 39) rfl)) rfl (slToE20 qb ob n c2 (lft n) (by omega) capB _)) fun _ q19 => ?_;clear q18
      refine vq_call18 (true) (.bool (!decide (A.take (lft n) = B.take (lft n)))) (want_none rfl) (fun hc v hv => ex_call rfl (by simp only [List.map_toArray, List.map_cons, List.map_nil, (q19.e (j := 37) rfl), (q19.e (j := 40) rfl), evc] <;> rfl) rfl) (fun hc v hv => bel18 hv (unlike20 _ _ _ _ _ _ _ v ((A3.later hv).take (lft n) (by omega)) ((B3.later hv).take (lft n) (by omega)) (by omega)) hv.size) rfl q19.z (by decide) (q19.k fun _ q20 => ?_);clear q19
      refine vq_nil (fun r1 hr1 => ?_)
      have d4 : Below w.heap.size w r1 := d3.trans (hr1.mono d3.size)
      have A4 := A3.later hr1
      have B4 := B3.later hr1
      by_cases ht : A.take (lft n) = B.take (lft n)
      · rw [decide_eq_true ht] at q20
        have hdr : ¬ A.drop (lft n) = B.drop (lft n) := fun e => hne (by rw [← List.take_append_drop (lft n) A, ← List.take_append_drop (lft n) B, ht, e])
        have HD := hide hdr
        clear hdr ht
        go_upto_region 8 with fail
        refine wp_cond_false (q20.e (j := 41) rfl) ?_
        go_upto_region 8 with fail
        refine vq_start (C := fun v => Below r1.heap.size r1 v) (by kernel_rfl) (by kernel_rfl) ((Below.refl _ _).drew) ?_
        refine q20.q (.slice (some ⟨qa, oa, none⟩) n c) (fun v hv => ex_move rfl (q20.e (j := 0) rfl)) fun _ q21 => ?_;clear q20
        refine q21.q (.int .i64 ((lft n : Nat) : Int)) (fun v hv => ex_move rfl (q21.e (j := 5) rfl)) fun _ q22 => ?_;clear q21
        refine q22.q (.slice (some (if c = lft n then ⟨qa, oa, none⟩ else ⟨qa, oa + (lft n) * 5, none⟩)) (n - lft n) (c - lft n)) (fun v hv => ex_sl19 rfl (q22.e (j := 49) rfl) (congrArg some (q22.e (j := 50) rfl)) rfl rfl (slFromE20 qa oa n c (lft n) (by omega) capA _)) fun _ q23 => ?_;clear q22
        refine q23.q (.slice (some ⟨qb, ob, none⟩) n c2) (fun v hv => ex_move rfl (q23.e (j := 1) rfl)) fun _ q24 => ?_;clear q23
        refine q24.q (.int .i64 ((lft n : Nat) : Int)) (fun v hv => ex_move rfl (q24.e (j := 5) rfl)) fun _ q25 => ?_;clear q24
        refine q25.q (.slice (some (if c2 = lft n then ⟨qb, ob, none⟩ else ⟨qb, ob + (lft n) * 5, none⟩)) (n - lft n) (c2 - lft n)) (fun v hv => ex_sl19 rfl (q25.e (j := 52) rfl) (congrArg some (q25.e (j := 53) rfl)) rfl rfl (slFromE20 qb ob n c2 (lft n) (by omega) capB _)) fun _ q26 => ?_;clear q25
        refine vq_call18 (true) (.bool true) (want_none rfl) (fun hc v hv => ex_call rfl (by simp only [List.map_toArray, List.map_cons, List.map_nil, (q26.e (j := 51) rfl), (q26.e (j := 54) rfl), evc] <;> rfl) rfl) (fun hc v hv => bel18 hv (ih _ _ _ _ _ _ _ v ((A4.later hv).from20 (lft n) (by omega)) ((B4.later hv).from20 (lft n) (by omega)) (by omega) (by omega) (by omega) T2.out HD.out (fun x hx => hvA x (List.mem_of_mem_drop hx)) (fun x hx => hvB x (List.mem_of_mem_drop hx))) hv.size) rfl q26.z (by decide) (q26.k fun _ q27 => ?_);clear q26
        refine q27.q (.bool true) (fun v hv => ex_assign rfl (q27.e (j := 55) rfl)) fun _ q28 => ?_;clear q27
        refine vq_nil (fun r2 hr2 => ?_)
        go_wp2
        refine bodyPost_ret (results_tmp rfl _ _ _) rfl ?_
        rw [getD_of (q28.a 4 rfl)]
        exact ⟨rfl, d4.trans (hr2.mono d4.size)⟩
      · rw [decide_eq_false ht] at q20
        have HD := hide ht
        clear ht
        go_upto_region 7 with fail
        refine wp_cond_true (q20.e (j := 41) rfl) ?_
        go_upto_region 7 with fail
        refine vq_start (C := fun v => Below r1.heap.size r1 v) (by kernel_rfl) (by kernel_rfl) ((Below.refl _ _).drew) ?_
        refine q20.q (.slice (some ⟨qa, oa, none⟩) n c) (fun v hv => ex_move rfl (q20.e (j := 0) rfl)) fun _ q21 => ?_;clear q20
        refine q21.q (.int .i64 ((lft n : Nat) : Int)) (fun v hv => ex_move rfl (q21.e (j := 5) rfl)) fun _ q22 => ?_;clear q21
        refine q22.q (.slice (some ⟨qa, oa, none⟩) (lft n) c) (fun v hv => ex_sl19 rfl (q22.e (j := 42) rfl) rfl (congrArg some (q22.e (j := 43) rfl)) rfl (slToE20 qa oa n c (lft n) (by omega) capA _)) fun _ q23 => ?_;clear q22
        refine q23.q (.slice (some ⟨qb, ob, none⟩) n c2) (fun v hv => ex_move rfl (q23.e (j := 1) rfl)) fun _ q24 => ?_;clear q23
        refine q24.q (.int .i64 ((lft n : Nat) : Int)) (fun v hv => ex_move rfl (q24.e (j := 5) rfl)) fun _ q25 => ?_;clear q24
        refine q25.q (.slice (some ⟨qb, ob, none⟩) (lft n) c2) (fun v hv => ex_sl19 rfl (q25.e (j := 45) rfl) rfl (congrArg some (q25.e (j := 46) rfl)) rfl (slToE20 qb ob n c2 (lft n) (by omega) capB _)) fun _ q26 => ?_;clear q25
        refine vq_call18 (true) (.bool true) (want_none rfl) (fun hc v hv => ex_call rfl (by simp only [List.map_toArray, List.map_cons, List.map_nil, (q26.e (j := 44) rfl), (q26.e (j := 47) rfl), evc] <;> rfl) rfl) (fun hc v hv => bel18 hv (ih _ _ _ _ _ _ _ v ((A4.later hv).take (lft n) (by omega)) ((B4.later hv).take (lft n) (by omega)) (by omega) (by omega) (by omega) T1.out HD.out (fun x hx => hvA x (List.mem_of_mem_take hx)) (fun x hx => hvB x (List.mem_of_mem_take hx))) hv.size) rfl q26.z (by decide) (q26.k fun _ q27 => ?_);clear q26
        refine q27.q (.bool true) (fun v hv => ex_assign rfl (q27.e (j := 48) rfl)) fun _ q28 => ?_;clear q27
        refine vq_nil (fun r2 hr2 => ?_)
        go_wp2
        refine bodyPost_ret (results_tmp rfl _ _ _) rfl ?_
        rw [getD_of (q28.a 4 rfl)]
        exact ⟨rfl, d4.trans (hr2.mono d4.size)⟩
    · have hbb : (!(decide ((hd ((A.map lf).take (lft n))).v = (hd ((B.map lf).take (lft n))).v) && decide ((hd ((A.map lf).drop (lft n))).v = (hd ((B.map lf).drop (lft n))).v)) && true) = true := by by_cases e1 : (hd ((A.map lf).take (lft n))).v = (hd ((B.map lf).take (lft n))).v <;> by_cases e2 : (hd ((A.map lf).drop (lft n))).v = (hd ((B.map lf).drop (lft n))).v <;> simp [e1, e2] <;> exact hpq ⟨e1, e2⟩
      rw [hbb] at q9
      clear hbb hpq
      go_upto_region 4 with fail
      refine wp_cond_true (q9.e (j := 31) rfl) ?_
      go_upto_region 4 with fail
      refine wp_region_lit ?_
      refine q9.t (.bool true) (ex_assign rfl rfl) fun _ q10 => ?_;clear q9
      refine wpList_nil ?_
      go_wp2
      refine bodyPost_ret (results_tmp rfl _ _ _) rfl ?_
      rw [getD_of (q10.a 4 rfl)]
      exact ⟨rfl, d3⟩
theorem clash20 (A B : List En) (a : Option Addr) (n c : Nat) (a2 : Option Addr) (c2 : Nat) (w : World) (hA : SlY yE w a n c A) (hB : SlY yE w a2 n c2 B) (hn0 : 1 ≤ n) (hn2 : n ≤ 1000000) (hhd : hd (A.map lf) = hd (B.map lf)) (hne : ¬ A = B) (hvA : ∀ x ∈ A, x.o.v.size ≤ 140737488352232) (hvB : ∀ x ∈ B, x.o.v.size ≤ 140737488352232) :
    Calls Try.prog 34 #[.slice a n c, .slice a2 n c2] w fun e w' => e = .returned (.bool true) ∧ Below w.heap.size w w' := by
  have H : ∀ m, ∀ (A B : List En) (a : Option Addr) (n c : Nat) (a2 : Option Addr) (c2 : Nat) (w : World), SlY yE w a n c A → SlY yE w a2 n c2 B → n < m → 1 ≤ n → n ≤ 1000000 → hd (A.map lf) = hd (B.map lf) → ¬ A = B → (∀ x ∈ A, x.o.v.size ≤ 140737488352232) → (∀ x ∈ B, x.o.v.size ≤ 140737488352232) → Calls Try.prog 34 #[.slice a n c, .slice a2 n c2] w fun e w' => e = .returned (.bool true) ∧ Below w.heap.size w w' := by
    intro m
    induction m with
    | zero => intro A B a n c a2 c2 w _ _ h; omega
    | succ m ih => exact fun A B a n c a2 c2 w hA hB hm h1 h2 hh hne v1 v2 => clash_step m ih A B a n c a2 c2 w hA hB (by omega) h1 h2 hh hne v1 v2
  exact H (n + 1) A B a n c a2 c2 w hA hB (by omega) hn0 hn2 hhd hne hvA hvB
end Go.Proofs.Ytfafhlahbhopaaa
namespace Go.Proofs.Ytfafhlahbhopaaa
open Go.RowKit Go.Maps
open Classical
set_option maxHeartbeats 2000000 in
theorem same20 (A0 B0 : List En) (a : Option Addr) (n c : Nat) (a2 : Option Addr) (n2 c2 : Nat) (w : World) (hA0 : SlY yE w a n c A0) (hB0 : SlY yE w a2 n2 c2 B0) (hvA0 : ∀ x ∈ A0, x.o.v.size ≤ 140737488352232) (hvB0 : ∀ x ∈ B0, x.o.v.size ≤ 140737488352232) :
    Calls Try.prog 9 #[.slice a n c, .slice a2 n2 c2] w fun e w' => e = .returned (.bool true) ∧ Below w.heap.size w w' := by
  go_enter Try.func9, Try.ntmps9
  go_upto_region 0 with fail
  refine wp_region_lit ?_
  refine vl_gen (fun T => Rp T 44 [(1, gw true (.slice a2 n2 c2)), (0, gw true (.slice a n c))]) (((Rp.nil rfl).cons rfl).cons rfl) (fun Z0 q0 => ?_)
  refine q0.t (.bool false) (ex_assign rfl rfl) fun _ q1 => ?_;clear q0
  refine wpList_nil ?_
  go_upto_region 1 with fail
  refine wp_region_lit ?_
  refine q1.t (.slice a n c) (ex_move rfl (q1.e (j := 0) rfl)) fun _ q2 => ?_;clear q1
  refine vcallP (want_none rfl) (ex_call rfl (by simp only [List.map_toArray, List.map_cons, List.map_nil, (q2.e (j := 6) rfl), evc] <;> rfl) rfl) (few20 A0 a n c w hA0) rfl q2.z (by decide) ?_
  rintro e w9 ⟨rfl, hw9⟩
  refine ⟨_, rfl, q2.k fun _ q3 => ?_⟩;clear q2
  have hw9 := hw9.symm
  subst hw9
  refine q3.t (.slice a (min n 200) c) (ex_assign rfl (q3.e (j := 7) rfl)) fun _ q4 => ?_;clear q3
  refine wpList_nil ?_
  go_upto_region 2 with fail
  refine wp_region_lit ?_
  refine q4.t (.slice a2 n2 c2) (ex_move rfl (q4.e (j := 1) rfl)) fun _ q5 => ?_;clear q4
  refine vcallP (want_none rfl) (ex_call rfl (by simp only [List.map_toArray, List.map_cons, List.map_nil, (q5.e (j := 8) rfl), evc] <;> rfl) rfl) (few20 B0 a2 n2 c2 w hB0) rfl q5.z (by decide) ?_
  rintro e w9 ⟨rfl, hw9⟩
  refine ⟨_, rfl, q5.k fun _ q6 => ?_⟩;clear q5
  have hw9 := hw9.symm
  subst hw9
  refine q6.t (.slice a2 (min n2 200) c2) (ex_assign rfl (q6.e (j := 9) rfl)) fun _ q7 => ?_;clear q6
  obtain ⟨k1, hk1⟩ : ∃ k, k = min n 200 := ⟨_, rfl⟩
  obtain ⟨k2, hk2⟩ : ∃ k, k = min n2 200 := ⟨_, rfl⟩
  rw [← hk1, ← hk2] at q7
  have hA1 : SlY yE w a k1 c (A0.take k1) := hA0.take k1 (by omega)
  have hB1 : SlY yE w a2 k2 c2 (B0.take k2) := hB0.take k2 (by omega)
  have hk200 : k1 ≤ 200 ∧ k2 ≤ 200 := by omega
  clear hk1 hk2
  refine wpList_nil ?_
  go_upto_region 3 with fail
  refine wp_region_lit ?_
  refine q7.t (.slice a k1 c) (ex_move rfl (q7.e (j := 0) rfl)) fun _ q8 => ?_;clear q7
  refine q8.t (.int .i64 ((k1 : Nat) : Int)) (ex_lenG rfl rfl Try.underlying22 (q8.e (j := 10) rfl)) fun _ q9 => ?_;clear q8
  refine q9.t (.slice a2 k2 c2) (ex_move rfl (q9.e (j := 1) rfl)) fun _ q10 => ?_;clear q9
  refine q10.t (.int .i64 ((k2 : Nat) : Int)) (ex_lenG rfl rfl Try.underlying22 (q10.e (j := 12) rfl)) fun _ q11 => ?_;clear q10
  refine q11.t (.int .i64 ((min k1 k2 : Nat) : Int)) (ex_min20 rfl rfl (q11.e (j := 11) rfl) (q11.e (j := 13) rfl)) fun _ q12 => ?_;clear q11
  refine q12.t (.int .i64 ((min k1 k2 : Nat) : Int)) (ex_assign rfl (q12.e (j := 14) rfl)) fun _ q13 => ?_;clear q12
  obtain ⟨m, hm⟩ : ∃ m, m = min k1 k2 := ⟨_, rfl⟩
  rw [← hm] at q13
  have hA : SlY yE w a m c ((A0.take k1).take m) := hA1.take m (by omega)
  have hB : SlY yE w a2 m c2 ((B0.take k2).take m) := hB1.take m (by omega)
  have hvA : ∀ x ∈ (A0.take k1).take m, x.o.v.size ≤ 140737488352232 := fun x hx => hvA0 x (List.mem_of_mem_take (List.mem_of_mem_take hx))
  have hvB : ∀ x ∈ (B0.take k2).take m, x.o.v.size ≤ 140737488352232 := fun x hx => hvB0 x (List.mem_of_mem_take (List.mem_of_mem_take hx))
  have hm1 : m ≤ k1 := by omega
  have hm2 : m ≤ k2 := by omega
  clear hm
  generalize (A0.take k1).take m = A at *
  generalize (B0.take k2).take m = B at *
  clear hvA0 hvB0 hA0 hB0
  refine wpList_nil ?_
  go_upto_region 4 with fail
  refine wp_region_lit ?_
  refine q13.t (.slice a k1 c) (ex_move rfl (q13.e (j := 0) rfl)) fun _ q14 => ?_;clear q13
  refine q14.t (.int .i64 ((m : Nat) : Int)) (ex_move rfl (q14.e (j := 5) rfl)) fun _ q15 => ?_;clear q14
  refine q15.t (.slice a m c) (ex_sl19 rfl (q15.e (j := 15) rfl) rfl (congrArg some (q15.e (j := 16) rfl)) rfl (slToS20 hA1 m hm1 _)) fun _ q16 => ?_;clear q15
  refine q16.t (.slice a m c) (ex_assign rfl (q16.e (j := 17) rfl)) fun _ q17 => ?_;clear q16
  refine wpList_nil ?_
  go_upto_region 5 with fail
  refine wp_region_lit ?_
  refine q17.t (.slice a2 k2 c2) (ex_move rfl (q17.e (j := 1) rfl)) fun _ q18 => ?_;clear q17
  refine q18.t (.int .i64 ((m : Nat) : Int)) (ex_move rfl (q18.e (j := 5) rfl)) fun _ q19 => ?_;clear q18
  refine q19.t (.slice a2 m c2) (ex_sl19 rfl (q19.e (j := 18) rfl) rfl (congrArg some (q19.e (j := 19) rfl)) rfl (slToS20 hB1 m hm2 _)) fun _ q20 => ?_;clear q19
  refine q20.t (.slice a2 m c2) (ex_assign rfl (q20.e (j := 20) rfl)) fun _ q21 => ?_;clear q20
  have q22 := (((Rp.nil q21.z).cons (q21.a 0 rfl)).cons (q21.a 1 rfl))
  clear q21
  clear hA1 hB1
  have lA := hA.len
  have lB := hB.len
  refine wpList_nil ?_
  go_upto_region 6 with fail
  refine wp_region_lit ?_
  refine q22.t (.slice a m c) (ex_move rfl (q22.e (j := 0) rfl)) fun _ q23 => ?_;clear q22
  refine vcallP (want_none rfl) (ex_call rfl (by simp only [List.map_toArray, List.map_cons, List.map_nil, (q23.e (j := 21) rfl), evc] <;> rfl) rfl) (head20 A a m c w hA (by omega) hvA) rfl q23.z (by decide) ?_
  rintro e w1 ⟨rfl, b1⟩
  refine ⟨_, rfl, q23.k fun _ q24 => ?_⟩;clear q23
  have z1 := b1.size
  have hB2 := hB.later b1
  refine q24.t (.slice a2 m c2) (ex_move rfl (q24.e (j := 1) rfl)) fun _ q25 => ?_;clear q24
  refine vcallP (want_none rfl) (ex_call rfl (by simp only [List.map_toArray, List.map_cons, List.map_nil, (q25.e (j := 23) rfl), evc] <;> rfl) rfl) (head20 B a2 m c2 w1 hB2 (by omega) hvB) rfl q25.z (by decide) ?_
  rintro e w2 ⟨rfl, b2⟩
  refine ⟨_, rfl, q25.k fun _ q26 => ?_⟩;clear q25
  have z2 := b2.size
  have d2 : Below w.heap.size w w2 := b1.trans (b2.mono (by omega))
  have A2 := (hA.later b1).later b2
  have B2 := hB2.later b2
  refine q26.t (.bool (!decide ((hd (A.map lf)).v = (hd (B.map lf)).v))) (ex_bin rfl (q26.e (j := 22) rfl) (q26.e (j := 24) rfl) (neHZ _ _ _ _ _)) fun _ q27 => ?_;clear q26
  refine wpList_nil ?_
  by_cases hh : (hd (A.map lf)).v = (hd (B.map lf)).v
  · rw [decide_eq_true hh] at q27
    have hhd : hd (A.map lf) = hd (B.map lf) := Hs.ext20 hh
    have HH := hide hhd
    clear hhd hh
    go_upto_region 8 with fail
    refine wp_cond_false (q27.e (j := 25) rfl) ?_
    go_upto_region 8 with fail
    refine wp_region_lit ?_
    refine vcallP (want_none rfl) (ex_call (args := #[]) rfl (by simp) rfl) (works20 w2) rfl q27.z (by decide) ?_
    rintro e w3 ⟨rfl, b3⟩
    refine ⟨_, rfl, q27.k fun _ q28 => ?_⟩;clear q27
    have z3 := b3.size
    have d3 : Below w.heap.size w w3 := d2.trans (b3.mono (by omega))
    have A3 := A2.later b3
    have B3 := B2.later b3
    refine q28.t (.bool true) (ex_move rfl (q28.e (j := 32) rfl)) fun _ q29 => ?_;clear q28
    refine vl ((true && (true == true))) (.slice a m c) (want_g rfl rfl (q29.a 33 rfl)) (fun hc => ex_move rfl (q29.e (j := 0) rfl)) rfl q29.z (by decide) (q29.k fun _ q30 => ?_);clear q29
    refine vl ((true && (true == true))) (.slice a2 m c2) (want_g rfl rfl (q30.a 33 rfl)) (fun hc => ex_move rfl (q30.e (j := 1) rfl)) rfl q30.z (by decide) (q30.k fun _ q31 => ?_);clear q30
    refine vcallP (show Region.wanted _ _ = ((true && (true == true))) from want_g rfl rfl (q31.a 33 rfl)) (ex_call rfl (by simp only [List.map_toArray, List.map_cons, List.map_nil, (q31.e (j := 34) rfl), (q31.e (j := 35) rfl), evc] <;> rfl) rfl) (unlike20 A B a m c a2 c2 w3 A3 B3 (by omega)) rfl q31.z (by decide) ?_
    rintro e w4 ⟨rfl, b4⟩
    refine ⟨_, rfl, q31.k fun _ q32 => ?_⟩;clear q31
    have z4 := b4.size
    have d4 : Below w.heap.size w w4 := d3.trans (b4.mono (by omega))
    have A4 := A3.later b4
    have B4 := B3.later b4
    by_cases hAB : A = B
    · rw [decide_eq_true hAB] at q32
      clear hAB
      refine vl ((true && (true == true))) (.bool true) (want_g rfl rfl (q32.a 33 rfl)) (fun hc => ex_not (b := false) rfl (q32.e (j := 36) rfl)) rfl q32.z (by decide) (q32.k fun _ q33 => ?_);clear q32
      refine vl ((true && (true == true))) (.bool true) (want_g rfl rfl (q33.a 33 rfl)) (fun hc => ex_move rfl (q33.e (j := 37) rfl)) rfl q33.z (by decide) (q33.k fun _ q34 => ?_);clear q33
      refine vl (((true && (true == true)) && (true == false))) (.bool false) (want_g rfl rfl (q34.a 38 rfl)) (fun hc => by cases hc) rfl q34.z (by decide) (q34.k fun _ q35 => ?_);clear q34
      refine vl (((true && (true == true)) && (true == false))) (.bool false) (want_g rfl rfl (q35.a 38 rfl)) (fun hc => by cases hc) rfl q35.z (by decide) (q35.k fun _ q36 => ?_);clear q35
      refine vl (((true && (true == true)) && (true == false))) (.bool false) (want_g rfl rfl (q36.a 38 rfl)) (fun hc => by cases hc) rfl q36.z (by decide) (q36.k fun _ q37 => ?_);clear q36
      refine vl ((true && (true == true))) (.bool true) (want_g rfl rfl (q37.a 33 rfl)) (fun hc => ex_or (c := (true && (true == true))) (b := true) (z := false) rfl (q37.a 38 rfl) (q37.a 41 rfl) rfl) rfl q37.z (by decide) (q37.k fun _ q38 => ?_);clear q37
      refine q38.t (.bool true) (ex_and (c := true) (b := true) (z := true) rfl (q38.a 33 rfl) (q38.a 42 rfl) rfl) fun _ q39 => ?_;clear q38
      refine q39.t (.bool true) (ex_assign rfl (q39.e (j := 43) rfl)) fun _ q40 => ?_;clear q39
      refine wpList_nil ?_
      go_wp2
      refine bodyPost_ret (results_tmp rfl _ _ _) rfl ?_
      rw [getD_of (q40.a 4 rfl)]
      exact ⟨rfl, d4⟩
    · rw [decide_eq_false hAB] at q32
      have m1 : 1 ≤ m := by
        rcases Nat.eq_zero_or_pos m with e | e
        · exact absurd (show A = B by rw [List.eq_nil_of_length_eq_zero (lA.trans e), List.eq_nil_of_length_eq_zero (lB.trans e)]) hAB
        · exact e
      have HN := hide hAB
      clear hAB
      refine vl ((true && (true == true))) (.bool false) (want_g rfl rfl (q32.a 33 rfl)) (fun hc => ex_not (b := true) rfl (q32.e (j := 36) rfl)) rfl q32.z (by decide) (q32.k fun _ q33 => ?_);clear q32
      refine vl ((true && (true == true))) (.bool false) (want_g rfl rfl (q33.a 33 rfl)) (fun hc => ex_move rfl (q33.e (j := 37) rfl)) rfl q33.z (by decide) (q33.k fun _ q34 => ?_);clear q33
      refine vl (((true && (true == true)) && (false == false))) (.slice a m c) (want_g rfl rfl (q34.a 38 rfl)) (fun hc => ex_move rfl (q34.e (j := 0) rfl)) rfl q34.z (by decide) (q34.k fun _ q35 => ?_);clear q34
      refine vl (((true && (true == true)) && (false == false))) (.slice a2 m c2) (want_g rfl rfl (q35.a 38 rfl)) (fun hc => ex_move rfl (q35.e (j := 1) rfl)) rfl q35.z (by decide) (q35.k fun _ q36 => ?_);clear q35
      refine vcallP (show Region.wanted _ _ = (((true && (true == true)) && (false == false))) from want_g rfl rfl (q36.a 38 rfl)) (ex_call rfl (by simp only [List.map_toArray, List.map_cons, List.map_nil, (q36.e (j := 39) rfl), (q36.e (j := 40) rfl), evc] <;> rfl) rfl) (clash20 A B a m c a2 c2 w4 A4 B4 m1 (by omega) HH.out HN.out hvA hvB) rfl q36.z (by decide) ?_
      rintro e w5 ⟨rfl, b5⟩
      refine ⟨_, rfl, q36.k fun _ q37 => ?_⟩;clear q36
      have d5 : Below w.heap.size w w5 := d4.trans (b5.mono d4.size)
      refine vl ((true && (true == true))) (.bool true) (want_g rfl rfl (q37.a 33 rfl)) (fun hc => ex_or (c := (true && (true == true))) (b := false) (z := true) rfl (q37.a 38 rfl) (q37.a 41 rfl) rfl) rfl q37.z (by decide) (q37.k fun _ q38 => ?_);clear q37
      refine q38.t (.bool true) (ex_and (c := true) (b := true) (z := true) rfl (q38.a 33 rfl) (q38.a 42 rfl) rfl) fun _ q39 => ?_;clear q38
      refine q39.t (.bool true) (ex_assign rfl (q39.e (j := 43) rfl)) fun _ q40 => ?_;clear q39
      refine wpList_nil ?_
      go_wp2
      refine bodyPost_ret (results_tmp rfl _ _ _) rfl ?_
      rw [getD_of (q40.a 4 rfl)]
      exact ⟨rfl, d5⟩
  · rw [decide_eq_false hh] at q27
    have hAB : ¬ A = B := fun e => hh (by rw [e])
    have HN := hide hAB
    clear hAB hh
    go_upto_region 7 with fail
    refine wp_cond_true (q27.e (j := 25) rfl) ?_
    go_upto_region 7 with fail
    refine wp_region_lit ?_
    refine q27.t (.slice a m c) (ex_move rfl (q27.e (j := 0) rfl)) fun _ q28 => ?_;clear q27
    refine q28.t (.slice a2 m c2) (ex_move rfl (q28.e (j := 1) rfl)) fun _ q29 => ?_;clear q28
    refine vcallP (want_none rfl) (ex_call rfl (by simp only [List.map_toArray, List.map_cons, List.map_nil, (q29.e (j := 26) rfl), (q29.e (j := 27) rfl), evc] <;> rfl) rfl) (unlike20 A B a m c a2 c2 w2 A2 B2 (by omega)) rfl q29.z (by decide) ?_
    rintro e w3 ⟨rfl, b3⟩
    refine ⟨_, rfl, q29.k fun _ q30 => ?_⟩;clear q29
    have z3 := b3.size
    have d3 : Below w.heap.size w w3 := d2.trans (b3.mono (by omega))
    rw [decide_eq_false HN.out] at q30
    refine q30.t (.bool true) (ex_move rfl (q30.e (j := 28) rfl)) fun _ q31 => ?_;clear q30
    refine vcallP (show Region.wanted _ _ = ((true && (true == true))) from want_g rfl rfl (q31.a 29 rfl)) (ex_call (args := #[]) rfl (by simp) rfl) (works20 w3) rfl q31.z (by decide) ?_
    rintro e w4 ⟨rfl, b4⟩
    refine ⟨_, rfl, q31.k fun _ q32 => ?_⟩;clear q31
    refine q32.t (.bool true) (ex_and (c := true) (b := true) (z := true) rfl (q32.a 29 rfl) (q32.a 30 rfl) rfl) fun _ q33 => ?_;clear q32
    refine q33.t (.bool true) (ex_assign rfl (q33.e (j := 31) rfl)) fun _ q34 => ?_;clear q33
    refine wpList_nil ?_
    go_wp2
    refine bodyPost_ret (results_tmp rfl _ _ _) rfl ?_
    rw [getD_of (q34.a 4 rfl)]
    exact ⟨rfl, d3.trans (b4.mono d3.size)⟩
end Go.Proofs.Ytfafhlahbhopaaa
namespace Go.Proofs.Ytfafhlahbhopaaa
open Go.ChangeShapes Go.WideShapes Go.ChangeAt Go.RowKit Go.Maps
open Classical
theorem same_cameW (a : Option Addr) (n c : Nat) (a2 : Option Addr) (n2 c2 : Nat) (W : World) (h : CameW W a n c) (h2 : CameW W a2 n2 c2) :
    Calls Try.prog 9 #[.slice a n c, .slice a2 n2 c2] W fun e w' => e = .returned (.bool true) ∧ Below W.heap.size W w' := by
  obtain ⟨l, s, f, _⟩ := h
  obtain ⟨o, s2, f2, _⟩ := h2
  exact same20 l o a n c a2 n2 c2 W s s2 (fun x hx => Nat.le_trans (f x hx) (by decide)) (fun x hx => Nat.le_trans (f2 x hx) (by decide))
end Go.Proofs.Ytfafhlahbhopaaa
