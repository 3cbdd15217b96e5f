import Derived.Test.YtomiifnhcojilaaS8
namespace Go.Proofs.Ytomiifnhcojilaa
open Go.RowKit Go.Maps
open Classical
set_option linter.unusedVariables false
set_option linter.unusedSimpArgs false

/-- What a digit stands for; -1: none. -/
def vl9 (c : Int) : Int := if 48 ≤ c ∧ c ≤ 57 then c - 48 else if 97 ≤ c ∧ c ≤ 102 then c - 87 else -1
theorem vl9_lt (c : Int) : vl9 c < 16 := by unfold vl9; split <;> (try split) <;> omega
theorem vl9_ge (c : Int) : -1 ≤ vl9 c := by unfold vl9; split <;> (try split) <;> omega
def hS9 (t : List Int) : Nat → List Int
  | 0 => List.replicate 32 0
  | i + 1 => (hS9 t i).set (i / 2) (((hS9 t i).getD (i / 2) 0 * 16 + vl9 (t.getD i 0)) % 256)
theorem hS9_len (t : List Int) : ∀ i, (hS9 t i).length = 32
  | 0 => by simp [hS9]
  | i + 1 => by rw [hS9, List.length_set, hS9_len t i]
def z32 : List Int := List.replicate 32 0
/-- What a reading of a text answers. -/
def PS (t : List Int) (r : List Int × Int × Int) : Prop :=
  (∃ j, j < min t.length 64 ∧ (∀ i, i < j → 0 ≤ vl9 (t.getD i 0)) ∧ vl9 (t.getD j 0) < 0 ∧ r = (z32, 190, (j : Int))) ∨ ((∀ i, i < min t.length 64 → 0 ≤ vl9 (t.getD i 0)) ∧ ((t.length ≠ 64 ∧ r = (z32, 190, ((min t.length 64 : Nat) : Int))) ∨ (t.length = 64 ∧ r = (hS9 t 64, 0, 0))))
theorem PS.one {t : List Int} {r s : List Int × Int × Int} (h : PS t r) (k : PS t s) : r = s := by
  rcases h with ⟨j, h1, h2, h3, rfl⟩ | ⟨h1, h2⟩
  · rcases k with ⟨i, k1, k2, k3, rfl⟩ | ⟨k1, k2⟩
    · have : i = j := by
        rcases Nat.lt_trichotomy i j with e | e | e
        · have := h2 i e; omega
        · exact e
        · have := k2 j e; omega
      rw [this]
    · have := k1 j h1; omega
  · rcases k with ⟨i, k1, k2, k3, rfl⟩ | ⟨k1, k2⟩
    · have := h1 i k1; omega
    · rcases h2 with ⟨a, rfl⟩ | ⟨a, rfl⟩
      · rcases k2 with ⟨b, rfl⟩ | ⟨b, rfl⟩
        · rfl
        · exact absurd b a
      · rcases k2 with ⟨b, rfl⟩ | ⟨b, rfl⟩
        · exact absurd a b
        · rfl
theorem or16 (x v : Int) (h0 : 0 ≤ v) (h1 : v < 16) : bits .or .u8 (IntKind.u8.wrap (x * 2 ^ 4)) v = (x * 16 + v) % 256 := by
  have e : IntKind.u8.wrap (x * 2 ^ 4) = x * 16 % 256 := by rw [IntKind.wrap_u8]; rfl
  rw [e, bits_join .u8 8 (Nat.le_refl _) (fun n h0 h1 => wraps_u8 n h0 h1) 4 (x * 16 % 256) v (by omega) (by omega) (by omega) h0 (by omega) (by omega)]
  omega
theorem txt_in (s : ByteArray) (i : Nat) : 0 ≤ (txt s).getD i 0 ∧ (txt s).getD i 0 < 256 := by
  rw [txt, List.getD_eq_getElem?_getD, List.getElem?_map]
  cases h : s.data.toList[i]? with
  | none => simp
  | some b =>
    have := b.toNat_lt
    simp only [Option.map_some, Option.getD_some]
    omega
theorem txt_len (s : ByteArray) : (txt s).length = s.size := by rw [txt, List.length_map, Array.length_toList]; rfl
theorem lenS9 {o : Oper} {ρ : Operand → Value} {x : Operand} {s : ByteArray} {w : World} (ho : o.op = .call { callee := .builtin .len, args := #[x], argTypes := #[9] }) (ht : o.type = 3) (hx : ρ x = .string s) : (execOp ρ o).run Try.prog w = .ok (.value (.int .i64 (((txt s).length : Nat) : Int))) w := by
  rw [txt_len]
  unfold execOp
  simp only [ho]
  rw [Sem.run_bind]
  simp only [resolve, List.map_toArray, List.map_cons, List.map_nil, hx, ht]
  go_simp
theorem min9 {o : Oper} {ρ : Operand → Value} {x : Operand} {n : Nat} {w : World} (ho : o.op = .call { callee := .builtin .min, args := #[x, .const (.int .i64 64)], argTypes := #[3, 3] }) (ht : o.type = 3) (hc : ρ (.const (.int .i64 64)) = .int .i64 64) (hx : ρ x = .int .i64 (n : Int)) : (execOp ρ o).run Try.prog w = .ok (.value (.int .i64 ((min n 64 : Nat) : Int))) w := by
  unfold execOp
  simp only [ho]
  rw [Sem.run_bind]
  simp only [resolve, List.map_toArray, List.map_cons, List.map_nil, hx, hc, ht]
  by_cases h : n ≤ 64
  · have h2 : ¬ (64 : Int) < (n : Int) := by omega
    rw [Nat.min_eq_left h]
    go_simp
    first | done | (simp; omega)
  · have h2 : (64 : Int) < (n : Int) := by omega
    rw [Nat.min_eq_right (by omega)]
    go_simp
    first | done | (simp; omega)
theorem shl8 (x y : Operand) (a : Int) (w : World) : (do eqGuard .shl 5 x y (.int .u8 a) (.int .u64 4); binOp .shl 5 (.int .u8 a) (.int .u64 4) : Sem Value).run Try.prog w = .ok (.int .u8 (IntKind.u8.wrap (a * 2 ^ 4))) w := by
  have h2 := shift_shl .u8 .u64 a 4 (by omega) (by show (4 : Int) ≤ ((_ : Nat) : Int); simp [IntKind.bits])
  rw [Sem.run_bind]
  have e : (eqGuard .shl 5 x y (.int .u8 a) (.int .u64 4)).run Try.prog w = .ok () w := by go_simp
  rw [e, Result.andThen_ok]
  show (Op.shift .shl .u8 a .u64 4).run Try.prog w = _
  rw [h2]
  rfl
theorem or8 (x y : Operand) (a b : Int) (w : World) : (do eqGuard .or 5 x y (.int .u8 a) (.int .u8 b); binOp .or 5 (.int .u8 a) (.int .u8 b) : Sem Value).run Try.prog w = .ok (.int .u8 (bits .or .u8 a b)) w := by go_simp
theorem geq8 (x y : Operand) (a b : Int) (w : World) : (do eqGuard .geq 5 x y (.int .u8 a) (.int .u8 b); binOp .geq 5 (.int .u8 a) (.int .u8 b) : Sem Value).run Try.prog w = .ok (.bool (decide (b ≤ a))) w := by go_simp
theorem leq8 (x y : Operand) (a b : Int) (w : World) : (do eqGuard .leq 5 x y (.int .u8 a) (.int .u8 b); binOp .leq 5 (.int .u8 a) (.int .u8 b) : Sem Value).run Try.prog w = .ok (.bool (decide (a ≤ b))) w := by go_simp
theorem sub8 (x y : Operand) (a b : Int) (w : World) : (do eqGuard .sub 5 x y (.int .u8 a) (.int .u8 b); binOp .sub 5 (.int .u8 a) (.int .u8 b) : Sem Value).run Try.prog w = .ok (.int .u8 (IntKind.u8.wrap (a - b))) w := by go_simp
theorem add8 (x y : Operand) (a b : Int) (w : World) : (do eqGuard .add 5 x y (.int .u8 a) (.int .u8 b); binOp .add 5 (.int .u8 a) (.int .u8 b) : Sem Value).run Try.prog w = .ok (.int .u8 (IntKind.u8.wrap (a + b))) w := by go_simp
theorem mul8 (x y : Operand) (a b : Int) (w : World) : (do eqGuard .mul 5 x y (.int .u8 a) (.int .u8 b); binOp .mul 5 (.int .u8 a) (.int .u8 b) : Sem Value).run Try.prog w = .ok (.int .u8 (IntKind.u8.wrap (a * b))) w := by go_simp
theorem cv8_I (a : Int) (h0 : 0 ≤ a) (h1 : a < 256) (w : World) : (Go.convert 5 3 (.int .u8 a)).run Try.prog w = .ok (.int .i64 a) w := by
  have hw : IntKind.i64.wrap a = a := by rw [IntKind.wrap_i64]; omega
  go_simp
theorem cvI_8 (a : Int) (w : World) : (Go.convert 3 5 (.int .i64 a)).run Try.prog w = .ok (.int .u8 (IntKind.u8.wrap a)) w := by go_simp
theorem zrH (w : World) : (Instr.build 24 #[]).run Try.prog w = .ok (.agg (z32.map bV).toArray) w := by kernel_rfl
theorem z32_m : (z32.map bV).length = 32 := by rw [len_bV]; rfl
theorem res3 {fn : Func} {i j k : Tmp} {ty : TypeId} {T : Array Value} {R : Ending → World → Prop} {w : World} {q : Nat} {Ty : TypeId} {cs : List Value} {x y : Value} (h : BB w q Ty cs) (hf : fn.results = #[.cell i ty, .tmp j, .tmp k]) (hq : T[i]? = some (gw true (.pointer (some ⟨q, 0, none⟩)))) (hj : T[j]? = some (gw true x)) (hk : T[k]? = some (gw true y)) {d : TypeDesc} (hu : Try.prog.underlying ty = some d) (hd : d.isRow = true) (hi : (Try.prog.info? ty).map (·.size) = some cs.length) (hR : R (.returned (.tuple #[.agg cs.toArray, x, y])) w) : bodyPost Try.prog fn R .ret ⟨T, []⟩ w := by
  refine bodyPost_ret (v := .tuple #[.agg cs.toArray, x, y]) ?_ rfl hR
  have := run_loadVar_mid (P := Try.prog) w q 0 ty cs _ (fun j v hv => by rw [Nat.zero_add, h.cell]; exact hv) hu hd hi
  have hq' : T.getD i undef = .pointer (some ⟨q, 0, none⟩) := getD_of hq
  have hj' : T.getD j undef = x := getD_of hj
  have hk' : T.getD k undef = y := getD_of hk
  simp only [results, hf]
  simp only [Array.getD_eq_getD_getElem?] at hq' hj' hk'
  simp [Sem.run_bind, Result.andThen, hq', hj', hk', asAddr, this]
end Go.Proofs.Ytomiifnhcojilaa
