import Derived.Test.YtidfcflcjkbeeaaGKz
import Derived.Test.YtidfcflcjkbeeaaK26
namespace Go.Proofs.Ytidfcflcjkbeeaa
open Go.RowKit Go.Maps
open Classical
set_option linter.unusedVariables false
set_option linter.unusedSimpArgs false

theorem ldG0 {w : World} {q o : Nat} {a : Option Addr} {n c : Nat} (h : w.cell? ⟨q, o, none⟩ = some (.slice a n c)) : (Instr.loadAt 63 (.pointer (some ⟨q, o, none⟩))).run Try.prog w = .ok (.slice a n c) w := by go_simp
theorem ldG2 {w : World} {q o : Nat} {a : Option Addr} {n c : Nat} (h : w.cell? ⟨q, o, none⟩ = some (.slice a n c)) : (Instr.loadAt 65 (.pointer (some ⟨q, o, none⟩))).run Try.prog w = .ok (.slice a n c) w := by go_simp
theorem ldG4 {w : World} {q o : Nat} {a : Option Addr} {n c : Nat} (h : w.cell? ⟨q, o, none⟩ = some (.slice a n c)) : (Instr.loadAt 66 (.pointer (some ⟨q, o, none⟩))).run Try.prog w = .ok (.slice a n c) w := by go_simp
theorem Lent.upd18 {S : Nat → Prop} {B : Nat} {w w' : World} {a : Option Addr} {n c : Nat} {L : List Kl} (h : Lent B w a n c L) (u : Upd S w w') (hS : ∀ k, S k → k < B) : Lent B w' a n c L := by
  obtain ⟨g, e, h1, h2, h3, h4⟩ := h.mrk
  have hn : ¬ S g := fun hs => by have := hS g hs; omega
  exact ⟨h.sl.upd u (fun x hx _ => by rw [e] at hx; cases hx; exact hn), g, e, h1, Nat.lt_of_lt_of_le h2 u.size, h3, (u.cell (p := ⟨g, n * 10, none⟩) h2 hn).trans h4⟩
end Go.Proofs.Ytidfcflcjkbeeaa

namespace Go.Proofs.Ytidfcflcjkbeeaa
open Go.RowKit Go.Maps
open Classical
set_option linter.unusedVariables false
set_option linter.unusedSimpArgs false

/-! Entries: in lists, as keys. -/
structure En18 where
  c : Int
  n : Int
  o : Opn
def En18.cs (x : En18) : List Value := [.int .i64 x.c, .int .i64 x.n, .int .i64 x.o.k, .int .i64 x.o.s, .string x.o.v]
def En18.val (x : En18) : Value := .agg #[.int .i64 x.c, .int .i64 x.n, .int .i64 x.o.k, .int .i64 x.o.s, .string x.o.v]
structure En18.fits (x : En18) : Prop where
  cw : (Lit.int .i64 x.c).wf = true
  nw : (Lit.int .i64 x.n).wf = true
  ow : x.o.fits
def zE18 : En18 := ⟨0, 0, ⟨0, 0, ByteArray.empty⟩⟩
def yE18 : Lay En18 := ⟨82, 83, 5, 48, En18.cs, zE18⟩
theorem kE18 : yE18.Ok := ⟨by decide, fun x => rfl, fun x u h => by
    simp [yE18, En18.cs] at h
    rcases h with rfl | rfl | rfl | rfl | rfl <;> rfl, Try.underlying83, ⟨.agg #[.int .i64 0, .int .i64 0, .int .i64 0, .int .i64 0, .string ByteArray.empty], by kernel_rfl, rfl⟩⟩
def Kl.en (x : Kl) : En18 := ⟨x.c, x.n, x.o⟩
theorem Kl.fits.en {x : Kl} (h : x.fits) : x.en.fits := ⟨h.cw, h.nw, h.ow⟩
theorem info5e : (Try.prog.info? 82).map (·.size) = some 5 := by kernel_rfl
theorem ixE18 (q o n c j : Nat) (hj : j < n) (w : World) : (Instr.indexAt 83 (.slice (some ⟨q, o, none⟩) n c) (.int .i64 (j : Int))).run Try.prog w = .ok (.pointer (some ⟨q, o + j * 5, none⟩)) w := by
  have h1 : (j : Int) < (n : Int) := by omega
  go_simp
/-- The cells of an entry. -/
structure EAt (w : World) (q o : Nat) (x : En18) : Prop where
  lt : q < w.heap.size
  cl : ∀ (j : Nat) (u : Value), x.cs[j]? = some u → w.cell? ⟨q, o + j, none⟩ = some u
theorem SlY.en8 {w : World} {a : Option Addr} {n c : Nat} {L : List En18} (h : SlY yE18 w a n c L) {j : Nat} {x : En18} (hx : L[j]? = some x) : ∃ q o, a = some ⟨q, o, none⟩ ∧ EAt w q (o + j * 5) x := by
  obtain ⟨q, o, ea, hq, hl⟩ := h.place (by rintro rfl; simp at hx)
  exact ⟨q, o, ea, hq, fun i u hu => hl j x hx i u hu⟩
theorem EAt.later {w w' : World} {q o : Nat} {x : En18} (h : EAt w q o x) (hb : Below w.heap.size w w') : EAt w' q o x :=
  ⟨Nat.lt_of_lt_of_le h.lt hb.size, fun j u hu => (hb.cell (p := ⟨q, o + j, none⟩) h.lt).trans (h.cl j u hu)⟩
theorem EAt.ld {w : World} {q o : Nat} {x : En18} (h : EAt w q o x) : (Instr.loadAt 82 (.pointer (some ⟨q, o, none⟩))).run Try.prog w = .ok x.val w :=
  run_loadAt_mid (P := Try.prog) w q o 82 x.cs _ h.cl Try.underlying82 rfl info5e
theorem BB.ldE {w : World} {q : Nat} {T : TypeId} {x : En18} (h : BB w q T x.cs) : (Instr.loadAt 82 (.pointer (some ⟨q, 0, none⟩))).run Try.prog w = .ok x.val w := h.ld 82 Try.underlying82 rfl info5e
theorem oneE (x : En18) : x.cs.toArray.all (·.oneCell') = true := by
  rw [Array.all_eq_true_iff_forall_mem]
  intro u hu
  simp only [En18.cs, List.mem_toArray, List.mem_cons, List.not_mem_nil, or_false] at hu
  rcases hu with rfl | rfl | rfl | rfl | rfl <;> rfl
theorem BB.stE {w : World} {q : Nat} {T : TypeId} {x y : En18} (h : BB w q T y.cs) : (Instr.storeAt 82 (.pointer (some ⟨q, 0, none⟩)) x.val).run Try.prog w = .ok () (w.setCells q 0 x.cs) := h.st 82 x.cs rfl info5e (oneE x)
theorem alE18 (w : World) : (Instr.alloc 82 true (.tuple #[])).run Try.prog w = .ok (.pointer (some ⟨w.heap.size, 0, none⟩)) (w.alloc (.cells zE18.cs.toArray 82)) := by kernel_rfl
theorem bdM18 (w : World) : (Instr.build 82 #[(0, .int .i64 (-77)), (1, .int .i64 (-88))]).run Try.prog w = .ok (⟨-77, -88, ⟨0, 0, ⟨#[]⟩⟩⟩ : En18).val w := by unfold En18.val; go_simp
theorem bsE18 (x : En18) (w : World) : (Instr.buildSlice 83 1 #[(0, x.val)]).run Try.prog w = .ok (.slice (some ⟨w.heap.size, 0, none⟩) 1 1) (w.alloc (.cells x.cs.toArray 82)) := by unfold En18.val En18.cs; go_simp
theorem slToE (q o n c k : Nat) (h1 : k ≤ n) (h2 : k ≤ c) (w : World) : (Instr.sliceAt 83 (.slice (some ⟨q, o, none⟩) n c) none (some (.int .i64 (k : Int))) none).run Try.prog w = .ok (.slice (some ⟨q, o, none⟩) k c) w := by
  have h3 : (k : Int) ≤ (c : Int) := by omega
  go_simp
theorem neqEn18 (a b : Operand) (x : En18) (w : World) : (do eqGuard .neq 82 a b x.val x.val; binOp .neq 82 x.val x.val : Sem Value).run Try.prog w = .ok (.bool false) w := by
  rw [Sem.run_bind]
  have e : (eqGuard .neq 82 a b x.val x.val).run Try.prog w = .ok () w := by unfold En18.val; go_simp
  rw [e, Result.andThen_ok]
  unfold En18.val
  go_simp
instance : DecidableEq Opn := fun x y => match x, y with
  | ⟨a, b, c⟩, ⟨d, e, f⟩ => if h : a = d ∧ b = e ∧ c = f then isTrue (by rw [h.1, h.2.1, h.2.2]) else isFalse (fun e => by cases e; exact h ⟨rfl, rfl, rfl⟩)
instance : DecidableEq En18 := fun x y => match x, y with
  | ⟨a, b, c⟩, ⟨d, e, f⟩ => if h : a = d ∧ b = e ∧ c = f then isTrue (by rw [h.1, h.2.1, h.2.2]) else isFalse (fun e => by cases e; exact h ⟨rfl, rfl, rfl⟩)
theorem eqlEn18 (a b : Operand) (x y : En18) (w : World) : (do eqGuard .eql 82 a b x.val y.val; binOp .eql 82 x.val y.val : Sem Value).run Try.prog w = .ok (.bool (decide (x = y))) w := by
  rw [Sem.run_bind]
  have e : (eqGuard .eql 82 a b x.val y.val).run Try.prog w = .ok () w := by unfold En18.val; go_simp
  rw [e, Result.andThen_ok]
  obtain ⟨c, n, k, s, v⟩ := x
  obtain ⟨c', n', k', s', v'⟩ := y
  have h : (decide ((⟨c, n, ⟨k, s, v⟩⟩ : En18) = ⟨c', n', ⟨k', s', v'⟩⟩)) = (decide (c = c') && (decide (n = n') && (decide (k = k') && (decide (s = s') && decide (v = v'))))) := by
    simp [Bool.decide_and]
  rw [h]
  unfold En18.val
  go_simp
  by_cases e1 : c = c' <;> by_cases e2 : n = n' <;> by_cases e3 : k = k' <;> by_cases e4 : s = s' <;> by_cases e5 : v = v' <;> simp [e1, e2, e3, e4, e5, bytes_inj]
/-! An entry as a key. -/
def zEn : KeyT En18 := ⟨82, En18.val, En18.fits⟩
set_option maxRecDepth 100000 in
theorem rowEn : 82 < Try.prog.types.size := of_decide_eq_true (by kernel_rfl)
theorem cellsEn : Try.prog.cellsOf 82 = 5 := by kernel_rfl
theorem cellsOp : Try.prog.cellsOf 46 = 3 := by kernel_rfl
set_option maxRecDepth 100000 in
theorem lawEn : WideMaps.KeyLaw Try.prog 82 := deep_law_laid laidOutK (m := 3) (by omega) rowEn (by kernel_rfl) (by kernel_rfl)
theorem formedEn (k : En18) : (zEn.enc k).formed Try.prog 82 = true := by
  simp [zEn, En18.val, Value.formed, Try.underlying82, cellsEn]
set_option maxRecDepth 100000 in
theorem keyLitsOp (d : Nat) (k s : Int) (v : ByteArray) (hk : (Lit.int .i64 k).wf = true) (hs : (Lit.int .i64 s).wf = true) (hv : v.size ≤ maxLen) : Try.prog.keyLits (d + 2) 46 [.int .i64 k, .int .i64 s, .string v] = some [.int .i64 k, .int .i64 s, .string v.data.toList] := by
  simp [Program.keyLits, Try.underlying46, cellsOp, Try.underlying3, Try.underlying9, cellsI, cellsS, hk, hs, hv]
set_option maxRecDepth 100000 in
set_option maxHeartbeats 2000000 in
theorem keyOfEn (k : En18) (hk : zEn.ok k) : ∃ x : Lit, keyOf Try.prog 82 (zEn.enc k) = some x ∧ WideAt.IsKeyLit x := by
  have hl : ∃ l, Try.prog.keyLits (Try.prog.types.size + 1) 82 (zEn.enc k).cells.toList = some l := by
    obtain ⟨m, hm⟩ : ∃ m, Try.prog.types.size = m + 2 := ⟨Try.prog.types.size - 2, (Nat.sub_add_cancel (Nat.le_trans (by decide) (Nat.le_of_lt rowEn))).symm⟩
    rw [hm]
    have h3 := keyLitsOp m _ _ _ hk.ow.kw hk.ow.sw hk.ow.vl
    have h1 : Try.prog.keyLits (m + 2) 3 [.int .i64 k.c] = some [.int .i64 k.c] := by simp [Program.keyLits, Try.underlying3, hk.cw]
    have h2 : Try.prog.keyLits (m + 2) 3 [.int .i64 k.n] = some [.int .i64 k.n] := by simp [Program.keyLits, Try.underlying3, hk.nw]
    unfold Program.keyLits
    simp [Try.underlying82, zEn, En18.val, Value.cells, cellsEn, cellsOp, cellsI, h1, h2, h3]
  obtain ⟨l, hl⟩ := hl
  have kt : Try.prog.keyType 82 = true := by kernel_rfl
  simp only [keyOf, Try.underlying82, kt, formedEn, Bool.and_self, if_true, hl, Option.map_some]
  exact ⟨_, rfl, trivial⟩
theorem kEn : zEn.Ok := ⟨Keyed.of_law lawEn, keyOfEn, fun k k' x hk hk' h h' => by
  have e := lawEn.inj h h'
  obtain ⟨c, n, a, b, v⟩ := k
  obtain ⟨c', n', a', b', v'⟩ := k'
  simpa [zEn, En18.val, and_assoc] using e⟩

end Go.Proofs.Ytidfcflcjkbeeaa

namespace Go.Proofs.Ytidfcflcjkbeeaa
open Go.RowKit Go.Maps
open Classical
set_option linter.unusedVariables false
set_option linter.unusedSimpArgs false

def zNE : Lay (SV En18) := yS En18 83 66
theorem kzNE : zNE.Ok := kS Try.underlying66 (by kernel_rfl)
def mkE8 : En18 := ⟨-77, -88, ⟨0, 0, ⟨#[]⟩⟩⟩
def gE18 (x y : Value) : List Value := [nilS, nilS, nilS, nilS, x, y, nilS, nilS, nilS, nilS]
theorem ldE1 {w : World} {q o : Nat} {a : Option Addr} {n c : Nat} (h : w.cell? ⟨q, o, none⟩ = some (.slice a n c)) : (Instr.loadAt 83 (.pointer (some ⟨q, o, none⟩))).run Try.prog w = .ok (.slice a n c) w := by go_simp
theorem stNE {w : World} {q o : Nat} {u : Value} {a : Option Addr} {n c : Nat} (h : w.cell? ⟨q, o, none⟩ = some u) (hf : w.frozen? ⟨q, o, none⟩ = false) : (Instr.storeAt 66 (.pointer (some ⟨q, o, none⟩)) (.slice a n c)).run Try.prog w = .ok () (w.setCell ⟨q, o, none⟩ (.slice a n c)) := by go_simp
theorem bsNE (a : Option Addr) (n c : Nat) (w : World) : (Instr.buildSlice 66 1 #[(0, .slice a n c)]).run Try.prog w = .ok (.slice (some ⟨w.heap.size, 0, none⟩) 1 1) (w.alloc (.cells #[.slice a n c] 83)) := by go_simp
theorem ixNE (q o n c j : Nat) (hj : j < n) (w : World) : (Instr.indexAt 66 (.slice (some ⟨q, o, none⟩) n c) (.int .i64 (j : Int))).run Try.prog w = .ok (.pointer (some ⟨q, o + j, none⟩)) w := by
  have h1 : (j : Int) < (n : Int) := by omega
  go_simp
set_option maxRecDepth 100000 in
set_option maxHeartbeats 2000000 in
theorem copyEntries18 (O : List En18) (a : Option Addr) (c : Nat) (w : World) (h : SlY yE18 w a O.length c O) (hb : O.length * 48 ≤ 140737488355328) :
    Calls Try.prog 29 #[.slice a O.length c] w fun e w' => ∃ v, e = .returned v ∧ OwnY yE18 w.heap.size w' v O ∧ Below w.heap.size w w' := by
  go_enter Try.func29, Try.ntmps29
  go_upto_region 0 with fail
  refine wp_region_lit ?_
  refine vl_gen (fun T => Rp T 5 [(0, gw true (.slice a O.length c))]) ((Rp.nil rfl).cons rfl) (fun Z0 q0 => ?_)
  refine q0.t (.slice none 0 0) (ex_assign rfl rfl) fun _ q1 => ?_;clear q0
  refine wpList_nil ?_
  go_upto_region 1 with fail
  refine wp_region_lit ?_
  refine q1.t (.slice a O.length c) (ex_move rfl (q1.e (j := 0) rfl)) fun _ q2 => ?_;clear q1
  obtain ⟨v1, w1, ha1, o1, g1, _⟩ := run_appY kE18 w 83 w.heap.size [] (.slice none 0 0) a O.length c O h (OwnY.nil _ _ _) (Nat.le_refl _) (by unfold maxLen; simp; omega) (by show (([] : List En18).length + O.length) * 48 ≤ _; simp; omega)
  rw [List.nil_append] at o1
  have b1 : Below w.heap.size w w1 := (Below.refl _ _).grown g1 (Nat.le_refl _) (fun k hk => by cases hk)
  refine vw (v1) w1 (want_none rfl) (ex_app18 rfl rfl (q2.e (j := 3) rfl) ha1) rfl q2.z (by decide) (q2.k fun _ q3 => ?_);clear q2
  refine q3.t (v1) (ex_assign rfl (q3.e (j := 4) rfl)) fun _ q4 => ?_;clear q3
  refine wpList_nil ?_
  go_wp2
  refine bodyPost_ret (results_tmp rfl _ _ _) rfl ⟨v1, ?_, o1, b1⟩
  rw [getD_of (q4.a 2 rfl)]
  rfl
set_option maxRecDepth 100000 in
set_option maxHeartbeats 2000000 in
theorem sameEntries18 (L : List En18) (a a2 : Option Addr) (c c2 : Nat) (w : World) (h : SlY yE18 w a L.length c L) (h2 : SlY yE18 w a2 L.length c2 L) (hbn : L.length ≤ 140737488355328) :
    Calls Try.prog 35 #[.slice a L.length c, .slice a2 L.length c2] w fun e w' => e = .returned (.bool true) ∧ Below w.heap.size w w' := by
  go_enter Try.func35, Try.ntmps35
  go_upto_region 0 with fail
  refine wp_region_lit ?_
  refine vl_gen (fun T => Rp T 26 [(1, gw true (.slice a2 L.length c2)), (0, gw true (.slice a L.length c))]) (((Rp.nil rfl).cons rfl).cons rfl) (fun Z0 q0 => ?_)
  refine q0.t (.bool false) (ex_assign rfl rfl) fun _ q1 => ?_;clear q0
  refine wpList_nil ?_
  go_upto_region 1 with fail
  refine wp_region_lit ?_
  refine q1.t (.slice a L.length c) (ex_move rfl (q1.e (j := 0) rfl)) fun _ q2 => ?_;clear q1
  refine q2.t (.int .i64 (L.length : Int)) (ex_lenG rfl rfl Try.underlying83 (q2.e (j := 6) rfl)) fun _ q3 => ?_;clear q2
  refine q3.t (.slice a2 L.length c2) (ex_move rfl (q3.e (j := 1) rfl)) fun _ q4 => ?_;clear q3
  refine q4.t (.int .i64 (L.length : Int)) (ex_lenG rfl rfl Try.underlying83 (q4.e (j := 8) rfl)) fun _ q5 => ?_;clear q4
  refine q5.t (.bool false) (ex_bin rfl (q5.e (j := 7) rfl) (q5.e (j := 9) rfl) (neqNn _ _ _ _)) fun _ q6 => ?_;clear q5
  refine wpList_nil ?_
  go_upto_region 3 with fail
  refine wp_cond_false (q6.e (j := 10) rfl) ?_
  go_upto_region 3 with fail
  refine wp_region_lit ?_
  refine q6.t (.int .i64 ((0 : Nat) : Int)) (ex_assign rfl rfl) fun _ q7 => ?_;clear q6
  have q8 := ((((Rp.nil q7.z).cons (q7.a 0 rfl)).cons (q7.a 1 rfl)).cons (q7.a 5 rfl))
  clear q7
  refine wpList_nil ?_
  go_upto_region 4 with fail
  refine v_loop 5 L.length (fun j T wr => Rp T 26 [(5, gw true (.int .i64 (j : Int))), (1, gw true (.slice a2 L.length c2)), (0, gw true (.slice a L.length c))] ∧ Hid (Below w.heap.size w wr)) (fun j T w h => h.1.a 5 rfl) ⟨q8, Below.refl _ _⟩ ?_
  clear q8
  intro j T wr hj hh
  obtain ⟨q100, HJ⟩ := hh
  have br := HJ.out
  clear HJ
  by_cases hit : j < L.length
  · obtain ⟨x, hx⟩ : ∃ x, L[j]? = some x := ⟨_, List.getElem?_eq_getElem hit⟩
    obtain ⟨qa, oa, hqa, hca⟩ := (h.on br (Nat.le_refl _)).en8 hx
    obtain ⟨qb, ob, hqb, hcb⟩ := (h2.on br (Nat.le_refl _)).en8 hx
    go_upto_region 4 with fail
    refine wp_region_lit ?_
    refine q100.t (.int .i64 (j : Int)) (ex_move rfl (q100.e (j := 5) rfl)) fun _ q101 => ?_;clear q100
    refine q101.t (.slice a L.length c) (ex_move rfl (q101.e (j := 0) rfl)) fun _ q102 => ?_;clear q101
    refine q102.t (.int .i64 (L.length : Int)) (ex_lenG rfl rfl Try.underlying83 (q102.e (j := 12) rfl)) fun _ q103 => ?_;clear q102
    refine q103.t (.bool true) (ex_bin rfl (q103.e (j := 11) rfl) (q103.e (j := 13) rfl) (ltT _ _ hit _)) fun _ q104 => ?_;clear q103
    refine wpList_nil ?_
    go_upto_region 6 with fail
    refine wp_cond_true (q104.e (j := 14) rfl) ?_
    go_upto_region 6 with fail
    refine vq_start (C := fun v => Below wr.heap.size wr v) (by kernel_rfl) (by kernel_rfl) (Below.refl _ _).drew ?_
    refine q104.q (.slice a L.length c) (fun v hv => ex_move rfl (q104.e (j := 0) rfl)) fun _ q105 => ?_;clear q104
    refine q105.q (.int .i64 (j : Int)) (fun v hv => ex_move rfl (q105.e (j := 5) rfl)) fun _ q106 => ?_;clear q105
    refine q106.q (.pointer (some ⟨qa, oa + j * 5, none⟩)) (fun v hv => ex_ix rfl (q106.e (j := 17) rfl) (q106.e (j := 18) rfl) (by rw [hqa]; exact ixE18 qa oa L.length c j hit _)) fun _ q107 => ?_;clear q106
    refine q107.q (x.val) (fun v hv => ex_ld rfl (q107.e (j := 19) rfl) (hca.later hv).ld) fun _ q108 => ?_;clear q107
    refine q108.q (.slice a2 L.length c2) (fun v hv => ex_move rfl (q108.e (j := 1) rfl)) fun _ q109 => ?_;clear q108
    refine q109.q (.int .i64 (j : Int)) (fun v hv => ex_move rfl (q109.e (j := 5) rfl)) fun _ q110 => ?_;clear q109
    refine q110.q (.pointer (some ⟨qb, ob + j * 5, none⟩)) (fun v hv => ex_ix rfl (q110.e (j := 21) rfl) (q110.e (j := 22) rfl) (by rw [hqb]; exact ixE18 qb ob L.length c2 j hit _)) fun _ q111 => ?_;clear q110
    refine q111.q (x.val) (fun v hv => ex_ld rfl (q111.e (j := 23) rfl) (hcb.later hv).ld) fun _ q112 => ?_;clear q111
    refine q112.q (.bool false) (fun v hv => ex_bin rfl (q112.e (j := 20) rfl) (q112.e (j := 24) rfl) (neqEn18 _ _ x _)) fun _ q113 => ?_;clear q112
    refine vq_nil (fun r1 hr1 => ?_)
    have q114 := (((((Rp.nil q113.z).cons (q113.a 0 rfl)).cons (q113.a 1 rfl)).cons (q113.a 5 rfl)).cons (q113.a 25 rfl))
    clear q113
    go_upto_region 5 with fail
    refine wp_cond_false (q114.e (j := 25) rfl) ?_
    go_upto_region 5 with fail
    refine wp_region_lit ?_
    refine q114.t (.int .i64 (j : Int)) (ex_move rfl (q114.e (j := 5) rfl)) fun _ q115 => ?_;clear q114
    refine q115.t (.int .i64 ((j + 1 : Nat) : Int)) (ex_bin rfl (q115.e (j := 15) rfl) rfl (add1C _ _ j (by omega) _)) fun _ q116 => ?_;clear q115
    refine q116.t (.int .i64 ((j + 1 : Nat) : Int)) (ex_assign rfl (q116.e (j := 16) rfl)) fun _ q117 => ?_;clear q116
    have q118 := ((((Rp.nil q117.z).cons (q117.a 0 rfl)).cons (q117.a 1 rfl)).cons (q117.a 5 rfl))
    clear q117
    refine wpList_nil ?_
    exact ⟨_, rfl, hit, q118, br.trans (hr1.mono br.size)⟩
  · obtain rfl : j = L.length := by omega
    go_upto_region 4 with fail
    refine wp_region_lit ?_
    refine q100.t (.int .i64 (L.length : Int)) (ex_move rfl (q100.e (j := 5) rfl)) fun _ q101 => ?_;clear q100
    refine q101.t (.slice a L.length c) (ex_move rfl (q101.e (j := 0) rfl)) fun _ q102 => ?_;clear q101
    refine q102.t (.int .i64 (L.length : Int)) (ex_lenG rfl rfl Try.underlying83 (q102.e (j := 12) rfl)) fun _ q103 => ?_;clear q102
    refine q103.t (.bool false) (ex_bin rfl (q103.e (j := 11) rfl) (q103.e (j := 13) rfl) (ltF _ _ hit _)) fun _ q104 => ?_;clear q103
    refine wpList_nil ?_
    go_upto_region 8 with fail
    refine wp_cond_false (q104.e (j := 14) rfl) ?_
    go_upto_region 8 with fail
    refine wp_region_lit ?_
    refine q104.t (.bool true) (ex_assign rfl rfl) fun _ q105 => ?_;clear q104
    refine wpList_nil ?_
    go_wp2
    refine bodyPost_ret (results_tmp rfl _ _ _) rfl ⟨?_, br⟩
    rw [getD_of (q105.a 4 rfl)]
    rfl
end Go.Proofs.Ytidfcflcjkbeeaa

namespace Go.Proofs.Ytidfcflcjkbeeaa
open Go.RowKit Go.Maps
open Classical
set_option linter.unusedVariables false
set_option linter.unusedSimpArgs false

/-- The place of a call that has this entry. -/
def plE (l : List Kl) (e : En18) : Option Nat := l.findIdx? fun x => decide (x.en = e)
/-- The places of a row of entries. -/
def orE (l : List Kl) (S : List En18) : List Int := S.filterMap fun e => (plE l e).map fun (p : Nat) => (p : Int)
def odR (l : List Kl) (S : List En18) : List Int × Int := if kchk l ≠ 0 then ([], 180) else if okO l.length [] (orE l S) && !lckK l (dO l.length (orE l S)) then (orE l S, 0) else ([], 182)
theorem plE_lt {l : List Kl} {e : En18} {p : Nat} (h : plE l e = some p) : p < l.length := by
  unfold plE at h
  exact (List.findIdx?_eq_some_iff_getElem.1 h).1
theorem plE_snoc (l : List Kl) (x : Kl) (e : En18) : plE (l ++ [x]) e = (plE l e).or (if x.en = e then some l.length else none) := by
  unfold plE
  rw [List.findIdx?_append]
  by_cases h : x.en = e <;> simp [List.findIdx?_cons, h]
def unq (l : List Kl) : Prop := l.Pairwise fun x y => ¬ (x.c = y.c ∧ x.n = y.n)
theorem unq_of {l : List Kl} (h : kchk l = 0) : unq l := (kcA_ok [] l h).2.1
theorem plE_new {l : List Kl} (hu : unq l) {j : Nat} {x : Kl} (hx : l[j]? = some x) : plE (l.take j) x.en = none := by
  unfold plE
  rw [List.findIdx?_eq_none_iff]
  intro y hy
  obtain ⟨i, hi, rfl⟩ := List.mem_iff_getElem.1 hy
  obtain ⟨hj, rfl⟩ := List.getElem?_eq_some_iff.1 hx
  have hi2 : i < j := by rw [List.length_take] at hi; omega
  have := List.pairwise_iff_getElem.1 hu i j (by omega) hj hi2
  rw [List.getElem_take]
  simp only [decide_eq_false_iff_not]
  intro e
  exact this ⟨congrArg En18.c e, congrArg En18.n e⟩
theorem plE_at {l : List Kl} (hu : unq l) {j : Nat} {x : Kl} (hx : l[j]? = some x) (e : En18) : plE (l.take (j + 1)) e = if x.en = e then some j else plE (l.take j) e := by
  obtain ⟨hj, rfl⟩ := List.getElem?_eq_some_iff.1 hx
  rw [List.take_succ_eq_append_getElem hj, plE_snoc]
  split
  · rename_i h
    rw [← h, plE_new hu (List.getElem?_eq_getElem hj)]
    simp
    omega
  · simp
theorem orE_at {l : List Kl} {S : List En18} {j : Nat} {e : En18} (h : S[j]? = some e) : orE l (S.take (j + 1)) = orE l (S.take j) ++ ((plE l e).map fun (p : Nat) => (p : Int)).toList := by
  obtain ⟨hj, rfl⟩ := List.getElem?_eq_some_iff.1 h
  unfold orE
  rw [List.take_succ_eq_append_getElem hj, List.filterMap_append]
  congr 1
  all_goals (cases plE l S[j] <;> simp)
theorem orE_len (l : List Kl) (S : List En18) : (orE l S).length ≤ S.length := List.length_filterMap_le _ _
def mpE (l : List Kl) (e : En18) : Option Value := (plE l e).map fun (p : Nat) => .int .i64 (p : Int)
theorem ex_mmN18 {o : Oper} {ρ : Operand → Value} {s : TypeId} {x : Operand} {X V : Value} {w w' : World} (ho : o.op = .makeMap s (some x)) (hx : ρ x = X) (hr : (Instr.makeMap s (some X)).run Try.prog w = .ok V w') : (execOp ρ o).run Try.prog w = .ok (.value V) w' := by
  unfold execOp
  simp only [ho]
  simp [hx, hr]
theorem MapG.keep8 {κ : Type} {Z : KeyT κ} {w w' : World} {b n B : Nat} {f : κ → Option Value} (h : MapG Z w b n f) (hb : Below B w w') (hB : b < B) : MapG Z w' b n f := h.block (hb.block b hB)
end Go.Proofs.Ytidfcflcjkbeeaa

namespace Go.Proofs.Ytidfcflcjkbeeaa
open Go.ChangeShapes Go.WideShapes Go.ChangeAt Go.RowKit Go.Maps
open Classical
set_option linter.unusedVariables false
set_option linter.unusedSimpArgs false

theorem okO_snoc (n : Nat) (p : Int) : ∀ (r ahead : List Int), okO n ahead (r ++ [p]) = (okO n ahead r && !(decide (p < 0) || (decide ((n : Int) ≤ p) || hasI (ahead ++ r) p)))
  | [], ahead => by
    rw [List.nil_append, List.append_nil]
    unfold okO okO
    by_cases h1 : p < 0 <;> by_cases h2 : (n : Int) ≤ p <;> by_cases h3 : hasI ahead p = true <;> simp [h1, h2, h3]
  | q :: r, ahead => by
    rw [List.cons_append, okO, okO]
    split
    · rfl
    · rw [okO_snoc n p r, List.append_assoc]; rfl
theorem okO_pre (n : Nat) (t : List Int) : ∀ (r ahead : List Int), okO n ahead (r ++ t) = true → okO n ahead r = true
  | [], ahead, h => by simp [okO]
  | q :: r, ahead, h => by
    rw [List.cons_append, okO] at h
    rw [okO]
    split at h
    · cases h
    · rename_i hc; rw [if_neg hc]; exact okO_pre n t r _ h
theorem okO_bad {n : Nat} {r t : List Int} {p : Int} (h : hasI r p = true) : okO n [] (r ++ p :: t) = false := by
  cases e : okO n [] (r ++ p :: t) with
  | false => rfl
  | true =>
    have e2 : r ++ p :: t = (r ++ [p]) ++ t := by simp
    rw [e2] at e
    have := okO_pre n t _ _ e
    rw [okO_snoc] at this
    simp [h] at this
theorem orE_parts (l : List Kl) (S : List En18) (i : Nat) {y : En18} (hy : S[i]? = some y) {p : Nat} (hp : plE l y = some p) : orE l S = orE l (S.take i) ++ (p : Int) :: orE l (S.drop (i + 1)) := by
  obtain ⟨hi, rfl⟩ := List.getElem?_eq_some_iff.1 hy
  have e : S = S.take i ++ S[i] :: S.drop (i + 1) := by rw [← List.drop_eq_getElem_cons hi, List.take_append_drop]
  have e2 : orE l S = orE l (S.take i ++ S[i] :: S.drop (i + 1)) := congrArg (orE l) e
  rw [e2]
  unfold orE
  rw [List.filterMap_append, List.filterMap_cons, hp]
  rfl
theorem plE_whole {l : List Kl} (hu : unq l) {j : Nat} {x : Kl} (hx : l[j]? = some x) : plE l x.en = some j := by
  have hj := (List.getElem?_eq_some_iff.1 hx).1
  have h0 := plE_at hu hx x.en
  rw [if_pos rfl] at h0
  unfold plE at h0 ⊢
  have e : l = l.take (j + 1) ++ l.drop (j + 1) := (List.take_append_drop _ _).symm
  rw [e, List.findIdx?_append, h0]
  rfl
def plT (l : List Kl) (j : Nat) (y : En18) : List Int := ((plE (l.take j) y).map fun (p : Nat) => (p : Int)).toList
theorem KAt.later8 {w w' : World} {q o : Nat} {x : Kl} (h : KAt w q o x) (hb : Below w.heap.size w w') : KAt w' q o x :=
  ⟨Nat.lt_of_lt_of_le h.lt hb.size, (hb.cell (p := ⟨q, o, none⟩) h.lt).trans h.c0, (hb.cell (p := ⟨q, o + 1, none⟩) h.lt).trans h.c1, (hb.cell (p := ⟨q, o + 2, none⟩) h.lt).trans h.c2, (hb.cell (p := ⟨q, o + 3, none⟩) h.lt).trans h.c3, (hb.cell (p := ⟨q, o + 4, none⟩) h.lt).trans h.c4, (hb.cell (p := ⟨q, o + 5, none⟩) h.lt).trans h.c5, (hb.cell (p := ⟨q, o + 6, none⟩) h.lt).trans h.c6, (hb.cell (p := ⟨q, o + 7, none⟩) h.lt).trans h.c7, (hb.cell (p := ⟨q, o + 8, none⟩) h.lt).trans h.c8, (hb.cell (p := ⟨q, o + 9, none⟩) h.lt).trans h.c9⟩
theorem KAt.ldO8 {w : World} {q o : Nat} {x : Kl} (h : KAt w q o x) : (Instr.loadAt 46 (.pointer (some ⟨q, o + 2, none⟩))).run Try.prog w = .ok (.agg #[.int .i64 x.o.k, .int .i64 x.o.s, .string x.o.v]) w :=
  run_loadAt_mid (P := Try.prog) w q (o + 2) 46 [.int .i64 x.o.k, .int .i64 x.o.s, .string x.o.v] _ (fun j v hv => by
    match j, hv with
    | 0, hv => cases hv; exact h.c2
    | 1, hv => cases hv; exact h.c3
    | 2, hv => cases hv; exact h.c4
    | j + 3, hv => simp at hv) Try.underlying46 rfl info3o
theorem faK2o (q o : Nat) (w : World) : (Instr.fieldAt 50 (.pointer (some ⟨q, o, none⟩)) 2).run Try.prog w = .ok (.pointer (some ⟨q, o + 2, none⟩)) w := by go_simp
set_option maxRecDepth 100000 in
theorem open_enc18 {H : Type} {enc : TypeId × Value → H} {W : World} {base : Nat} {sp : Nat → Bool} {held : Bool} {n : Nat} {cs : List Value} {x : DataW H × List MemPlace} (h : DataW.trod enc Try.prog W base sp held n 82 cs = some x) :
    ∃ p : En18, p.fits ∧ cs = p.cs := by
  obtain ⟨xs, k, hk, hxy, hlen, hxl, hf⟩ := DataW.trod_struct Try.underlying82 h
  rw [cellsEn] at hlen
  have hxl : xs.length = 3 := hxl
  match xs, hxl, cs, hlen with
  | [y0, y1, y2], _, [v0, v1, v2, v3, v4], _ =>
    have g0 := hf 0 _ rfl
    have g1 := hf 1 _ rfl
    have g2 := hf 2 _ rfl
    simp [intCells, opCells] at g0 g1 g2
    obtain ⟨K, hK, hx0, hw0⟩ := DataW.trod_int Try.underlying3 g0
    obtain ⟨N, hN, hx2, hw2⟩ := DataW.trod_int Try.underlying3 g1
    obtain ⟨o, ho, e⟩ := open_opc g2
    refine ⟨⟨K, N, o⟩, ⟨hw0, hw2, ho⟩, ?_⟩
    have e0 := (List.cons_eq_cons.1 hK).1
    have e1 := (List.cons_eq_cons.1 hN).1
    simp at e
    obtain ⟨e2, e3, e4⟩ := e
    subst e0 e1 e2 e3 e4
    rfl
theorem enBytes18 : Try.prog.bytesOf 82 = 48 := by kernel_rfl
/-- Entries that came in. -/
def CameE (W : World) (a : Option Addr) (n c : Nat) : Prop := ∃ P : List En18, SlY yE18 W a n c P ∧ (∀ x ∈ P, x.fits) ∧ n * 48 ≤ 140737488351232
set_option maxRecDepth 100000 in
theorem open_ents18 {H : Type} {enc : TypeId × Value → H} {W : World} {base : Nat} {v : Value} {d : DataW H} {p : List MemPlace} (hv : Value.okWide Try.prog W .any base 83 v) (h : DataW.Trod enc Try.prog W 0 (fun _ => true) true 83 v d p)
    (hs : ∀ el sp, d = .slice el sp → (el.length + sp.length) * Try.prog.bytesOf 82 ≤ reachBytes) : ∃ a len cap, v = .slice a len cap ∧ CameE W a len cap := by
  haveI : Inhabited En18 := ⟨zE18⟩
  obtain ⟨a, n, c, rfl, P, h1, h2, el, sp, e1, _, e3⟩ := open_rows18 kE18 En18.fits cellsEn (fun h => open_enc18 h) hv h
  refine ⟨a, n, c, rfl, P, h1, h2, ?_⟩
  rcases e3 with e3 | e3
  · omega
  · have := hs el sp e3
    rw [enBytes18, e1, Nat.add_mul] at this
    simp only [reachBytes] at this
    omega
end Go.Proofs.Ytidfcflcjkbeeaa
