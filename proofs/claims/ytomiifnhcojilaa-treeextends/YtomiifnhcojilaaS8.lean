import Derived.Test.YtomiifnhcojilaaS7
import Derived.ChangeKeysEq
import Derived.Laws.BytesArg
import Derived.Lib.SlBytesConst
namespace Go.Proofs.Ytomiifnhcojilaa
open Go.RowKit Go.Maps
open Classical
set_option linter.unusedVariables false
set_option linter.unusedSimpArgs false

def txt (s : ByteArray) : List Int := s.data.toList.map fun b => (b.toNat : Int)
def dgS : ByteArray := ⟨#[48, 49, 50, 51, 52, 53, 54, 55, 56, 57, 97, 98, 99, 100, 101, 102]⟩
def dgN (i : Nat) : Int := (txt dgS).getD i 0
def prN (n : Nat) : List Int := [dgN (n / 16), dgN (n % 16)]
def prF (h : List Int) : List Int := h.flatMap fun b => prN b.toNat
theorem prF_at {h : List Int} {j : Nat} {x : Int} (e : h[j]? = some x) : prF (h.take (j + 1)) = prF (h.take j) ++ prN x.toNat := by
  obtain ⟨hj, rfl⟩ := List.getElem?_eq_some_iff.1 e
  unfold prF
  rw [List.take_succ_eq_append_getElem hj, List.flatMap_append, List.flatMap_cons, List.flatMap_nil, List.append_nil]
theorem prF_len (h : List Int) : (prF h).length = 2 * h.length := by
  induction h with
  | nil => rfl
  | cons x r ih => rw [prF, List.flatMap_cons, List.length_append, List.length_cons, ← prF, ih]; simp [prN]; omega
/-- A hash's bytes. -/
structure Hb (h : List Int) : Prop where
  len : h.length = 32
  in_ : ∀ x ∈ h, 0 ≤ x ∧ x < 256
theorem Hb.at_ {h : List Int} (k : Hb h) {j : Nat} (hj : j < 32) : ∃ n : Nat, n < 256 ∧ h[j]? = some (n : Int) ∧ h.getD j 0 = (n : Int) := by
  have hj2 : j < h.length := by rw [k.len]; exact hj
  have := k.in_ h[j] (List.getElem_mem hj2)
  refine ⟨h[j].toNat, by omega, ?_, ?_⟩
  · rw [List.getElem?_eq_getElem hj2, Int.toNat_of_nonneg this.1]
  · rw [List.getD_eq_getElem?_getD, List.getElem?_eq_getElem hj2, Int.toNat_of_nonneg this.1]
    rfl
theorem part_b (h : List Int) (i : Nat) (hi : i < h.length) (w : World) : (part 5 (h.map bV).toArray i).run Try.prog w = .ok (.int .u8 (h.getD i 0)) w := by
  have e1 : (isAgg 5).run Try.prog w = .ok false w := by kernel_rfl
  have e2 : (h.map bV).toArray[i]? = some (.int .u8 (h.getD i 0)) := by
    rw [List.getElem?_toArray, List.getElem?_map, List.getD_eq_getElem?_getD, List.getElem?_eq_getElem hi]
    rfl
  unfold part
  rw [Sem.run_bind, e1, Result.andThen_ok]
  simp [e2]
theorem items_b {h k : List Int} (hl : h.length = 32) (kl : k.length = 32) (d : Nat) (w : World) : ∀ is : List Nat, (∀ i ∈ is, i < 32) → (Op.eqItems (d + 1) 5 1 (h.map bV).toArray (k.map bV).toArray is).run Try.prog w = .ok (is.all fun i => h.getD i 0 == k.getD i 0) w
  | [], _ => rfl
  | i :: is, hi => by
    have h0 : i < 32 := hi i (by simp)
    rw [Op.eqItems, Nat.mul_one, Sem.run_bind, part_b h i (by omega), Result.andThen_ok, Sem.run_bind, part_b k i (by omega), Result.andThen_ok, Sem.run_bind, run_equalIn_int w d 5 .u8 .u8 _ _ Try.underlying5, Result.andThen_ok, List.all_cons]
    cases he : h.getD i 0 == k.getD i 0 with
    | false => rfl
    | true =>
      rw [if_neg (by simp), items_b hl kl d w is (fun j hj => hi j (by simp [hj])), Bool.true_and]
theorem all_eq {h k : List Int} (hl : h.length = 32) (kl : k.length = 32) : ((List.range 32).all fun i => h.getD i 0 == k.getD i 0) = decide (h = k) := by
  rw [Bool.eq_iff_iff, List.all_eq_true, decide_eq_true_eq]
  constructor
  · intro e
    apply List.ext_getElem (by omega)
    intro i h1 h2
    have := e i (List.mem_range.2 (by omega))
    rw [List.getD_eq_getElem?_getD, List.getD_eq_getElem?_getD, List.getElem?_eq_getElem h1, List.getElem?_eq_getElem h2] at this
    simpa using this
  · rintro rfl i _
    simp
theorem eqH {h k : List Int} (hl : h.length = 32) (kl : k.length = 32) (w : World) : (Op.equal 24 (.agg (h.map bV).toArray) (.agg (k.map bV).toArray)).run Try.prog w = .ok (decide (h = k)) w := by
  have hi0 := i1b
  rw [Option.map_eq_some_iff] at hi0
  obtain ⟨i, hi, _⟩ := hi0
  have hc : Try.prog.cellsOf 5 = 1 := by kernel_rfl
  have := run_equalIn_array (P := Try.prog) w 9999 (h.map bV).toArray (k.map bV).toArray Try.underlying24 hi
  rw [hc, items_b hl kl 9998 w _ (fun i hi => List.mem_range.1 hi), all_eq hl kl] at this
  exact this
theorem gdH (x y : Operand) (op : BinOp) (A B : Array Value) (w : World) (h : op = .eql ∨ op = .neq) : (eqGuard op 24 x y (.agg A) (.agg B)).run Try.prog w = .ok () w := by
  have e : (Try.prog.eqGuardType Try.prog.depth 24) = false := by kernel_rfl
  rcases h with rfl | rfl
  · unfold eqGuard
    simp [e]
  · unfold eqGuard
    simp [e]
theorem eqlH (x y : Operand) {h k : List Int} (hl : h.length = 32) (kl : k.length = 32) (w : World) : (do eqGuard .eql 24 x y (.agg (h.map bV).toArray) (.agg (k.map bV).toArray); binOp .eql 24 (.agg (h.map bV).toArray) (.agg (k.map bV).toArray) : Sem Value).run Try.prog w = .ok (.bool (decide (h = k))) w := by
  rw [Sem.run_bind, gdH x y .eql _ _ w (.inl rfl), Result.andThen_ok]
  show (do pure (.bool (← Op.equal 24 (.agg (h.map bV).toArray) (.agg (k.map bV).toArray))) : Sem Value).run Try.prog w = _
  rw [Sem.run_bind, eqH hl kl]
  rfl
theorem neqH (x y : Operand) {h k : List Int} (hl : h.length = 32) (kl : k.length = 32) (w : World) : (do eqGuard .neq 24 x y (.agg (h.map bV).toArray) (.agg (k.map bV).toArray); binOp .neq 24 (.agg (h.map bV).toArray) (.agg (k.map bV).toArray) : Sem Value).run Try.prog w = .ok (.bool (!decide (h = k))) w := by
  rw [Sem.run_bind, gdH x y .neq _ _ w (.inr rfl), Result.andThen_ok]
  show (do pure (.bool (!(← Op.equal 24 (.agg (h.map bV).toArray) (.agg (k.map bV).toArray)))) : Sem Value).run Try.prog w = _
  rw [Sem.run_bind, eqH hl kl]
  rfl
theorem idxH (h : List Int) (hl : h.length = 32) (j : Nat) (hj : j < 32) (w : World) : (Instr.index 24 (.agg (h.map bV).toArray) (.int .i64 (j : Int))).run Try.prog w = .ok (.int .u8 (h.getD j 0)) w := by
  have h1 : (j : Int) < 32 := by omega
  have hs : (sizeOf 5).run Try.prog w = .ok 1 w := by kernel_rfl
  have hp := part_b h j (by omega) w
  unfold Instr.index
  rw [Sem.run_bind]
  simp only [asIntOf, Sem.run_pure, Result.andThen_ok, Sem.run_bind, run_underlying Try.underlying24]
  rw [if_pos ⟨by omega, by simpa using h1⟩]
  simp only [Sem.run_bind, hs, Result.andThen_ok, Int.toNat_natCast, Nat.mul_one]
  exact hp
theorem idxS (s : ByteArray) (k : IntKind) (i : Nat) (hi : i < (txt s).length) (w : World) : (Instr.index 9 (.string s) (.int k (i : Int))).run Try.prog w = .ok (.int .u8 ((txt s).getD i 0)) w := by
  have hi2 : i < s.data.toList.length := by simpa [txt] using hi
  have hi3 : i < s.size := by rw [Array.length_toList] at hi2; exact hi2
  have e : s[i]? = some s[i] := getElem?_pos s i hi3
  have e2 : (txt s).getD i 0 = ((s[i].toNat : Nat) : Int) := by
    rw [txt, List.getD_eq_getElem?_getD, List.getElem?_map, List.getElem?_eq_getElem hi2]
    rfl
  unfold Instr.index
  rw [Sem.run_bind]
  simp only [asIntOf, Sem.run_pure, Result.andThen_ok, Sem.run_bind, run_underlying Try.underlying9]
  rw [if_pos (by omega), Int.toNat_natCast, e, e2]
  rfl
theorem dg_len : (txt dgS).length = 16 := rfl
theorem idxD (i : Nat) (hi : i < 16) (w : World) : (Instr.index 9 (.string dgS) (.int .u8 (i : Int))).run Try.prog w = .ok (.int .u8 (dgN i)) w := idxS dgS .u8 i (by rw [dg_len]; exact hi) w
theorem shr8 (x y : Operand) (n : Nat) (w : World) : (do eqGuard .shr 5 x y (.int .u8 (n : Int)) (.int .u64 4); binOp .shr 5 (.int .u8 (n : Int)) (.int .u64 4) : Sem Value).run Try.prog w = .ok (.int .u8 ((n / 16 : Nat) : Int)) w := by
  have h2 := shift_shr .u8 .u64 (n : Int) 4 (by omega) (by show (4 : Int) ≤ ((_ : Nat) : Int); simp [IntKind.bits])
  rw [Sem.run_bind]
  have e : (eqGuard .shr 5 x y (.int .u8 (n : Int)) (.int .u64 4)).run Try.prog w = .ok () w := by go_simp
  rw [e, Result.andThen_ok]
  show (Op.shift .shr .u8 (n : Int) .u64 4).run Try.prog w = _
  rw [h2]
  rfl
theorem and8 (x y : Operand) (n : Nat) (hn : n < 256) (w : World) : (do eqGuard .and 5 x y (.int .u8 (n : Int)) (.int .u8 15); binOp .and 5 (.int .u8 (n : Int)) (.int .u8 15) : Sem Value).run Try.prog w = .ok (.int .u8 ((n % 16 : Nat) : Int)) w := by
  have h2 : bits .and .u8 (n : Int) 15 = ((n % 16 : Nat) : Int) := by
    have := bits_mask .u8 8 (Nat.le_refl _) (fun n h0 h1 => wraps_u8 n h0 h1) 4 (by decide) (n : Int) (by omega) (by show (n : Int) < 256; omega)
    exact this
  go_simp
  first | done | simpa using h2
theorem quo8 (x y : Operand) (n : Nat) (hn : n < 256) (w : World) : (do eqGuard .quo 5 x y (.int .u8 (n : Int)) (.int .u8 16); binOp .quo 5 (.int .u8 (n : Int)) (.int .u8 16) : Sem Value).run Try.prog w = .ok (.int .u8 ((n / 16 : Nat) : Int)) w := by
  have h1 : (n : Int).tdiv 16 = ((n / 16 : Nat) : Int) := by rw [Int.tdiv_eq_ediv_of_nonneg (by omega)]; rfl
  have h2 : IntKind.u8.wrap ((n : Int) / 16) = (n : Int) / 16 := by rw [IntKind.wrap_u8]; omega
  go_simp
theorem rem8 (x y : Operand) (n : Nat) (w : World) : (do eqGuard .rem 5 x y (.int .u8 (n : Int)) (.int .u8 16); binOp .rem 5 (.int .u8 (n : Int)) (.int .u8 16) : Sem Value).run Try.prog w = .ok (.int .u8 ((n % 16 : Nat) : Int)) w := by
  have h1 : (n : Int).tmod 16 = ((n % 16 : Nat) : Int) := by rw [Int.tmod_eq_emod_of_nonneg (by omega)]; rfl
  go_simp
theorem bs2B (x y : Int) (w : World) : (Instr.buildSlice 73 2 #[(0, .int .u8 x), (1, .int .u8 y)]).run Try.prog w = .ok (.slice (some ⟨w.heap.size, 0, none⟩) 2 2) (w.alloc (.cells (([x, y] : List Int).map bV).toArray 5)) := by
  simp only [List.map_cons, List.map_nil, bV]
  go_simp
theorem ex_mk19 {o : Oper} {ρ : Operand → Value} {s : TypeId} {x y : Operand} {X Y V : Value} {w w' : World} (ho : o.op = .makeSlice s x y) (hx : ρ x = X) (hy : ρ y = Y) (hr : (Instr.makeSlice s X Y).run Try.prog w = .ok V w') : (execOp ρ o).run Try.prog w = .ok (.value V) w' := by
  unfold execOp
  simp only [ho, hx, hy, Sem.run_bind, hr, Result.andThen_ok]
  rfl
theorem mk64 (w : World) : ∃ w', (Instr.makeSlice 73 (.int .i64 0) (.int .i64 64)).run Try.prog w = .ok (.slice (some ⟨w.heap.size, 0, none⟩) 0 64) w' ∧ OwnY yB9 w.heap.size w' (.slice (some ⟨w.heap.size, 0, none⟩) 0 64) [] ∧ Below w.heap.size w w' := by
  obtain ⟨zv, hinfo, hzc⟩ := kB9.info
  obtain ⟨i0, hi, hz0, hz1, hz2⟩ := info_parts hinfo
  have hr := run_make (P := Try.prog) w yB9.ST yB9.T i0 zv kB9.und hi hz0 .i64 .i64 0 64 (Int.le_refl _) (by omega) (room_int (n := 64) hz2 (by decide)) (by omega)
  rw [hz1] at hr
  exact ⟨_, hr, World.ownsRow_made w _ 64 (Nat.le_refl _) (by unfold maxLen; omega) (size_madeCells _ _), (Below.refl _ _).alloc (Nat.le_refl _) _⟩
theorem cv_str {w : World} {a : Option Addr} {n c : Nat} {l : List Int} (h : SlY yB9 w a n c l) (hne : l ≠ []) : (Go.convert 73 9 (.slice a n c)).run Try.prog w = .ok (.string (strOfNums l)) w := by
  obtain ⟨q, o, rfl, _, _⟩ := h.place hne
  refine run_convert_bytes_arg w 73 5 Try.underlying73 Try.underlying5 q o n c l h.len (fun i hi => ?_) 9 Try.underlying9
  obtain ⟨q', o', e, _, hc⟩ := h.b9 (j := i) (by rw [h.len]; exact hi)
  obtain ⟨rfl, rfl⟩ : q = q' ∧ o = o' := by simpa using e
  exact hc
theorem eqlS (x y : Operand) (s t : ByteArray) (w : World) : (do eqGuard .eql 9 x y (.string s) (.string t); binOp .eql 9 (.string s) (.string t) : Sem Value).run Try.prog w = .ok (.bool (s.toList == t.toList)) w := by go_simp
theorem bxH (h : List Int) (w : World) : (Instr.box 24 (.agg (h.map bV).toArray)).run Try.prog w = .ok (.pointer (some ⟨w.heap.size, 0, none⟩)) (w.alloc (.cells (h.map bV).toArray 24)) := rfl
theorem bs3B (x y z : Int) (w : World) : (Instr.buildSlice 73 3 #[(0, .int .u8 x), (1, .int .u8 y), (2, .int .u8 z)]).run Try.prog w = .ok (.slice (some ⟨w.heap.size, 0, none⟩) 3 3) (w.alloc (.cells (([x, y, z] : List Int).map bV).toArray 5)) := by
  simp only [List.map_cons, List.map_nil, bV]
  go_simp
theorem slM (w : World) (L : List Int) (e : TypeId) (fr : Nat × Nat) (hm : L.length ≤ maxLen) : SlY yB9 (w.alloc (.cells (L.map bV).toArray e fr)) (some ⟨w.heap.size, 0, none⟩) L.length L.length L := by
  refine ⟨rfl, Nat.le_refl _, hm, (fun e => by cases e), fun x hx => .inr ⟨w.heap.size, 0, (Option.some.inj hx).symm, by rw [World.size_alloc]; omega, fun i x hx j v hv => ?_⟩⟩
  obtain ⟨hi, rfl⟩ := List.getElem?_eq_some_iff.1 hx
  have hj : j = 0 := by
    cases j with
    | zero => rfl
    | succ j => simp [yB9] at hv
  subst hj
  obtain rfl : Value.int .u8 L[i] = v := by simpa [yB9] using hv
  have hb := World.alloc_heap_new w (.cells (L.map bV).toArray e fr)
  unfold World.cell?
  simp only [hb]
  simp [yB9, List.getElem?_eq_getElem hi, bV]
theorem ex_bs3 {o : Oper} {ρ : Operand → Value} {s : TypeId} {x y z : Operand} {X Y Z V : Value} {w w' : World} (ho : o.op = .buildSlice s 3 #[(0, x), (1, y), (2, z)]) (hx : ρ x = X) (hy : ρ y = Y) (hz : ρ z = Z) (hr : (Instr.buildSlice s 3 #[(0, X), (1, Y), (2, Z)]).run Try.prog w = .ok V w') : (execOp ρ o).run Try.prog w = .ok (.value V) w' := by
  unfold execOp
  simp only [ho, List.map_toArray, List.map_cons, List.map_nil, hx, hy, hz, Sem.run_bind, hr, Result.andThen_ok]
  rfl
def abT : ByteArray := ⟨#[98, 97, 55, 56, 49, 54, 98, 102, 56, 102, 48, 49, 99, 102, 101, 97, 52, 49, 52, 49, 52, 48, 100, 101, 53, 100, 97, 101, 50, 50, 50, 51, 98, 48, 48, 51, 54, 49, 97, 51, 57, 54, 49, 55, 55, 97, 57, 99, 98, 52, 49, 48, 102, 102, 54, 49, 102, 50, 48, 48, 49, 53, 97, 100]⟩
theorem ab_txt : ((strOfNums (prF abS)).toList == abT.toList) = true := by kernel_rfl
theorem ab_hb : Hb abS := ⟨rfl, by decide⟩
end Go.Proofs.Ytomiifnhcojilaa
