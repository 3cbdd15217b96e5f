import Derived.Laws.BitsAllLaws
import Derived.ChangeKeysEq
import Derived.Laws.BytesArg
import Derived.Lib.SlBytesConst
import Derived.Test.YtfafhlahbhopaaaH0
set_option maxRecDepth 100000
set_option linter.unusedVariables false
set_option linter.unusedSimpArgs false
namespace Go.Proofs.Ytfafhlahbhopaaa
open Go.RowKit Go.Maps
open Classical
/-! The digest, as functions of lists of numbers. -/
def xo (a b : Int) : Int := bits .xor .u32 a b
def an (a b : Int) : Int := bits .and .u32 a b
def nt (a : Int) : Int := bits .xor .u32 4294967295 a
def ad (a b : Int) : Int := IntKind.u32.wrap (a + b)
def ror9 (x : Int) (n : Nat) : Int := bits .or .u32 (x / 2 ^ n) (IntKind.u32.wrap (x * 2 ^ (32 - n)))
def wS (b : List Int) : Nat → List Int
  | 0 => List.replicate 64 0
  | i + 1 => (wS b i).set (i / 4) (bits .or .u32 (IntKind.u32.wrap ((wS b i).getD (i / 4) 0 * 2 ^ 8)) (IntKind.u32.wrap (b.getD i 0)))
def s09 (x : Int) : Int := xo (xo (ror9 x 7) (ror9 x 18)) (x / 2 ^ 3)
def s19 (y : Int) : Int := xo (xo (ror9 y 17) (ror9 y 19)) (y / 2 ^ 10)
def nxw (W : List Int) (i : Nat) : Int := ad (ad (ad (W.getD (i - 16) 0) (s09 (W.getD (i - 15) 0))) (W.getD (i - 7) 0)) (s19 (W.getD (i - 2) 0))
def wT (b : List Int) : Nat → List Int
  | 0 => wS b 64
  | i + 1 => (wT b i).set (i + 16) (nxw (wT b i) (i + 16))
def wrds (b : List Int) : List Int := wT b 48
theorem wS_len (b : List Int) : ∀ i, (wS b i).length = 64
  | 0 => by simp [wS]
  | i + 1 => by rw [wS, List.length_set, wS_len b i]
theorem wT_len (b : List Int) : ∀ i, (wT b i).length = 64
  | 0 => wS_len b 64
  | i + 1 => by rw [wT, List.length_set, wT_len b i]
structure St where
  a : Int
  b : Int
  c : Int
  d : Int
  e : Int
  f : Int
  g : Int
  h : Int
def t19 (s : St) (k w : Int) : Int := ad (ad (ad (ad s.h (xo (xo (ror9 s.e 6) (ror9 s.e 11)) (ror9 s.e 25))) (xo (an s.e s.f) (an (nt s.e) s.g))) k) w
def t29 (s : St) : Int := ad (xo (xo (ror9 s.a 2) (ror9 s.a 13)) (ror9 s.a 22)) (xo (xo (an s.a s.b) (an s.a s.c)) (an s.b s.c))
def rnd (s : St) (k w : Int) : St := ⟨ad (t19 s k w) (t29 s), s.a, s.b, s.c, ad s.d (t19 s k w), s.e, s.f, s.g⟩
def rN (K W : List Int) (s : St) : Nat → St
  | 0 => s
  | i + 1 => rnd (rN K W s i) (K.getD i 0) (W.getD i 0)
def St.l (s : St) : List Int := [s.a, s.b, s.c, s.d, s.e, s.f, s.g, s.h]
def St.ad (s t : St) : St := ⟨Proofs.Ytfafhlahbhopaaa.ad s.a t.a, Proofs.Ytfafhlahbhopaaa.ad s.b t.b, Proofs.Ytfafhlahbhopaaa.ad s.c t.c, Proofs.Ytfafhlahbhopaaa.ad s.d t.d, Proofs.Ytfafhlahbhopaaa.ad s.e t.e, Proofs.Ytfafhlahbhopaaa.ad s.f t.f, Proofs.Ytfafhlahbhopaaa.ad s.g t.g, Proofs.Ytfafhlahbhopaaa.ad s.h t.h⟩
def kT9 : List Int := [0x428a2f98, 0x71374491, 0xb5c0fbcf, 0xe9b5dba5, 0x3956c25b, 0x59f111f1, 0x923f82a4, 0xab1c5ed5,
  0xd807aa98, 0x12835b01, 0x243185be, 0x550c7dc3, 0x72be5d74, 0x80deb1fe, 0x9bdc06a7, 0xc19bf174,
  0xe49b69c1, 0xefbe4786, 0x0fc19dc6, 0x240ca1cc, 0x2de92c6f, 0x4a7484aa, 0x5cb0a9dc, 0x76f988da,
  0x983e5152, 0xa831c66d, 0xb00327c8, 0xbf597fc7, 0xc6e00bf3, 0xd5a79147, 0x06ca6351, 0x14292967,
  0x27b70a85, 0x2e1b2138, 0x4d2c6dfc, 0x53380d13, 0x650a7354, 0x766a0abb, 0x81c2c92e, 0x92722c85,
  0xa2bfe8a1, 0xa81a664b, 0xc24b8b70, 0xc76c51a3, 0xd192e819, 0xd6990624, 0xf40e3585, 0x106aa070,
  0x19a4c116, 0x1e376c08, 0x2748774c, 0x34b0bcb5, 0x391c0cb3, 0x4ed8aa4a, 0x5b9cca4f, 0x682e6ff3,
  0x748f82ee, 0x78a5636f, 0x84c87814, 0x8cc70208, 0x90befffa, 0xa4506ceb, 0xbef9a3f7, 0xc67178f2]
def iv : St := ⟨0x6a09e667, 0xbb67ae85, 0x3c6ef372, 0xa54ff53a, 0x510e527f, 0x9b05688c, 0x1f83d9ab, 0x5be0cd19⟩
def blkF (s : St) (b : List Int) : St := s.ad (rN kT9 (wrds b) s 64)
def rnB : Nat → St → List Int → St
  | 0, s, _ => s
  | n + 1, s, B => rnB n (blkF s (B.take 64)) (B.drop 64)
theorem rnB_app : ∀ (n : Nat) (s : St) (B C : List Int), 64 * n ≤ B.length → rnB n s (B ++ C) = rnB n s B
  | 0, _, _, _, _ => rfl
  | n + 1, s, B, C, h => by
    rw [rnB, rnB, List.take_append_of_le_length (by omega), List.drop_append_of_le_length (by omega)]
    exact rnB_app n _ _ _ (by rw [List.length_drop]; omega)
theorem rnB_add : ∀ (m n : Nat) (s : St) (B : List Int), rnB (m + n) s B = rnB n (rnB m s B) (B.drop (64 * m))
  | 0, n, s, B => by simp [rnB]
  | m + 1, n, s, B => by
    rw [show m + 1 + n = (m + n) + 1 by omega, rnB, rnB, rnB_add m n, List.drop_drop, show 64 + 64 * m = 64 * (m + 1) by omega]
def stF (B : List Int) : St := rnB (B.length / 64) iv B
def rem9 (B : List Int) : List Int := B.drop (64 * (B.length / 64))
theorem rem_len (B : List Int) : (rem9 B).length = B.length % 64 := by rw [rem9, List.length_drop]; omega
theorem stF_block (B b : List Int) (hB : B.length % 64 = 0) (hb : b.length = 64) : stF (B ++ b) = blkF (stF B) b := by
  unfold stF
  have hl : (B ++ b).length / 64 = B.length / 64 + 1 := by rw [List.length_append]; omega
  have hd : (B ++ b).drop (64 * (B.length / 64)) = b := by
    rw [show 64 * (B.length / 64) = B.length by omega]
    simp
  rw [hl, rnB_add, hd, rnB_app _ _ _ _ (by omega), rnB, rnB, List.take_of_length_le (by omega)]
theorem stF_less (B b : List Int) (h : B.length % 64 + b.length < 64) : stF (B ++ b) = stF B ∧ rem9 (B ++ b) = rem9 B ++ b := by
  have hl : (B ++ b).length / 64 = B.length / 64 := by rw [List.length_append]; omega
  refine ⟨?_, ?_⟩
  · unfold stF
    rw [hl, rnB_app _ _ _ _ (by omega)]
  · unfold rem9
    rw [hl, List.drop_append_of_le_length (by omega)]
theorem stF_fill (B b : List Int) (h : B.length % 64 + b.length = 64) : stF (B ++ b) = blkF (stF B) (rem9 B ++ b) := by
  have e : B ++ b = (B.take (64 * (B.length / 64))) ++ (rem9 B ++ b) := by rw [← List.append_assoc, rem9, List.take_append_drop]
  have hl : (B.take (64 * (B.length / 64))).length = 64 * (B.length / 64) := by rw [List.length_take]; omega
  rw [e, stF_block _ _ (by omega) (by rw [List.length_append, rem_len]; omega)]
  congr 1
  unfold stF
  rw [hl, show 64 * (B.length / 64) / 64 = B.length / 64 by omega]
  conv => rhs; rw [show B = B.take (64 * (B.length / 64)) ++ B.drop (64 * (B.length / 64)) from (List.take_append_drop _ _).symm]
  have h2 : (B.take (64 * (B.length / 64)) ++ B.drop (64 * (B.length / 64))).length / 64 = B.length / 64 := by rw [List.take_append_drop]
  rw [h2, rnB_app _ _ _ _ (by omega)]
def zr (n : Nat) : Nat := (119 - n % 64) % 64
def lenB (n : Nat) : List Int := (List.range 8).map fun i => IntKind.u8.wrap (IntKind.u64.wrap (IntKind.u64.wrap (n : Int) * 8) / 2 ^ (56 - 8 * i))
def fill (n : Nat) : List Int := [128] ++ List.replicate (zr n) 0 ++ lenB n
theorem fill_len (n : Nat) : (fill n).length = 9 + zr n := by simp [fill, lenB]; omega
def outB (s : St) : List Int := (List.range 32).map fun i => IntKind.u8.wrap (s.l.getD (i / 4) 0 / 2 ^ (24 - 8 * (i % 4)))
def sumF (B : List Int) : List Int := outB (stF (B ++ fill B.length))
end Go.Proofs.Ytfafhlahbhopaaa
namespace Go.Proofs.Ytfafhlahbhopaaa
open Go.RowKit Go.Maps
open Classical
theorem xorU (x y : Operand) (a b : Int)  (w : World) : (do eqGuard .xor 99 x y (.int .u32 a) (.int .u32 b); binOp .xor 99 (.int .u32 a) (.int .u32 b) : Sem Value).run Try.prog w = .ok (.int .u32 (xo a b)) w := by
  unfold xo
  go_simp
theorem andU (x y : Operand) (a b : Int)  (w : World) : (do eqGuard .and 99 x y (.int .u32 a) (.int .u32 b); binOp .and 99 (.int .u32 a) (.int .u32 b) : Sem Value).run Try.prog w = .ok (.int .u32 (an a b)) w := by
  unfold an
  go_simp
theorem orU (x y : Operand) (a b : Int)  (w : World) : (do eqGuard .or 99 x y (.int .u32 a) (.int .u32 b); binOp .or 99 (.int .u32 a) (.int .u32 b) : Sem Value).run Try.prog w = .ok (.int .u32 (bits .or .u32 a b)) w := by
  go_simp
theorem addU (x y : Operand) (a b : Int)  (w : World) : (do eqGuard .add 99 x y (.int .u32 a) (.int .u32 b); binOp .add 99 (.int .u32 a) (.int .u32 b) : Sem Value).run Try.prog w = .ok (.int .u32 (ad a b)) w := by
  unfold ad
  go_simp
theorem shrUu64 (x y : Operand) (a : Int) (n : Nat) (h : n ≤ 32) (w : World) : (do eqGuard .shr 99 x y (.int .u32 a) (.int .u64 (n : Int)); binOp .shr 99 (.int .u32 a) (.int .u64 (n : Int)) : Sem Value).run Try.prog w = .ok (.int .u32 (a / 2 ^ n)) w := by
  have h2 := shift_shr .u32 .u64 a (n : Int) (by omega) (by show (n : Int) ≤ ((_ : Nat) : Int); simp [IntKind.bits]; omega)
  rw [Int.toNat_natCast] at h2
  rw [Sem.run_bind]
  have e : (eqGuard .shr 99 x y (.int .u32 a) (.int .u64 (n : Int))).run Try.prog w = .ok () w := by go_simp
  rw [e, Result.andThen_ok]
  show (Op.shift .shr .u32 a .u64 (n : Int)).run Try.prog w = _
  rw [h2]
  rfl
theorem shrUi64 (x y : Operand) (a : Int) (n : Nat) (h : n ≤ 32) (w : World) : (do eqGuard .shr 99 x y (.int .u32 a) (.int .i64 (n : Int)); binOp .shr 99 (.int .u32 a) (.int .i64 (n : Int)) : Sem Value).run Try.prog w = .ok (.int .u32 (a / 2 ^ n)) w := by
  have h2 := shift_shr .u32 .i64 a (n : Int) (by omega) (by show (n : Int) ≤ ((_ : Nat) : Int); simp [IntKind.bits]; omega)
  rw [Int.toNat_natCast] at h2
  rw [Sem.run_bind]
  have e : (eqGuard .shr 99 x y (.int .u32 a) (.int .i64 (n : Int))).run Try.prog w = .ok () w := by go_simp
  rw [e, Result.andThen_ok]
  show (Op.shift .shr .u32 a .i64 (n : Int)).run Try.prog w = _
  rw [h2]
  rfl
theorem shrQu64 (x y : Operand) (a : Int) (n : Nat) (h : n ≤ 64) (w : World) : (do eqGuard .shr 118 x y (.int .u64 a) (.int .u64 (n : Int)); binOp .shr 118 (.int .u64 a) (.int .u64 (n : Int)) : Sem Value).run Try.prog w = .ok (.int .u64 (a / 2 ^ n)) w := by
  have h2 := shift_shr .u64 .u64 a (n : Int) (by omega) (by show (n : Int) ≤ ((_ : Nat) : Int); simp [IntKind.bits]; omega)
  rw [Int.toNat_natCast] at h2
  rw [Sem.run_bind]
  have e : (eqGuard .shr 118 x y (.int .u64 a) (.int .u64 (n : Int))).run Try.prog w = .ok () w := by go_simp
  rw [e, Result.andThen_ok]
  show (Op.shift .shr .u64 a .u64 (n : Int)).run Try.prog w = _
  rw [h2]
  rfl
theorem shrQi64 (x y : Operand) (a : Int) (n : Nat) (h : n ≤ 64) (w : World) : (do eqGuard .shr 118 x y (.int .u64 a) (.int .i64 (n : Int)); binOp .shr 118 (.int .u64 a) (.int .i64 (n : Int)) : Sem Value).run Try.prog w = .ok (.int .u64 (a / 2 ^ n)) w := by
  have h2 := shift_shr .u64 .i64 a (n : Int) (by omega) (by show (n : Int) ≤ ((_ : Nat) : Int); simp [IntKind.bits]; omega)
  rw [Int.toNat_natCast] at h2
  rw [Sem.run_bind]
  have e : (eqGuard .shr 118 x y (.int .u64 a) (.int .i64 (n : Int))).run Try.prog w = .ok () w := by go_simp
  rw [e, Result.andThen_ok]
  show (Op.shift .shr .u64 a .i64 (n : Int)).run Try.prog w = _
  rw [h2]
  rfl
theorem shlU (x y : Operand) (a : Int) (n : Nat) (h : n ≤ 32) (w : World) : (do eqGuard .shl 99 x y (.int .u32 a) (.int .u64 (n : Int)); binOp .shl 99 (.int .u32 a) (.int .u64 (n : Int)) : Sem Value).run Try.prog w = .ok (.int .u32 (IntKind.u32.wrap (a * 2 ^ n))) w := by
  have h2 := shift_shl .u32 .u64 a (n : Int) (by omega) (by show (n : Int) ≤ ((_ : Nat) : Int); simp [IntKind.bits]; omega)
  rw [Int.toNat_natCast] at h2
  rw [Sem.run_bind]
  have e : (eqGuard .shl 99 x y (.int .u32 a) (.int .u64 (n : Int))).run Try.prog w = .ok () w := by go_simp
  rw [e, Result.andThen_ok]
  show (Op.shift .shl .u32 a .u64 (n : Int)).run Try.prog w = _
  rw [h2]
  rfl
theorem sub32 (x y : Operand) (n : Nat) (h : n ≤ 32) (w : World) : (do eqGuard .sub 104 x y (.int .u64 32) (.int .u64 (n : Int)); binOp .sub 104 (.int .u64 32) (.int .u64 (n : Int)) : Sem Value).run Try.prog w = .ok (.int .u64 ((32 - n : Nat) : Int)) w := by
  have hw : IntKind.u64.wrap (32 - (n : Int)) = ((32 - n : Nat) : Int) := by rw [IntKind.wrap_u64]; omega
  go_simp
theorem quoC (x y : Operand) (j k : Nat) (hk : 0 < k) (hj : j < 9000000000000000000) (w : World) : (do eqGuard .quo 3 x y (.int .i64 (j : Int)) (.int .i64 (k : Int)); binOp .quo 3 (.int .i64 (j : Int)) (.int .i64 (k : Int)) : Sem Value).run Try.prog w = .ok (.int .i64 ((j / k : Nat) : Int)) w := by
  have h0 : ¬ k = 0 := by omega
  have h1 : (j : Int).tdiv (k : Int) = ((j / k : Nat) : Int) := by rw [Int.tdiv_eq_ediv_of_nonneg (by omega)]; rfl
  have h2 : IntKind.i64.wrap ((j : Int) / (k : Int)) = (j : Int) / (k : Int) := by
    have h3 : (j : Int) / (k : Int) = ((j / k : Nat) : Int) := rfl
    have := Nat.div_le_self j k
    rw [h3]
    generalize j / k = d at *
    rw [IntKind.wrap_i64]
    omega
  go_simp
theorem remC (x y : Operand) (j k : Nat) (hk : 0 < k) (hj : j < 9000000000000000000) (w : World) : (do eqGuard .rem 3 x y (.int .i64 (j : Int)) (.int .i64 (k : Int)); binOp .rem 3 (.int .i64 (j : Int)) (.int .i64 (k : Int)) : Sem Value).run Try.prog w = .ok (.int .i64 ((j % k : Nat) : Int)) w := by
  have h0 : ¬ k = 0 := by omega
  have h1 : (j : Int).tmod (k : Int) = ((j % k : Nat) : Int) := by rw [Int.tmod_eq_emod_of_nonneg (by omega)]; rfl
  go_simp
theorem subC9 (x y : Operand) (j k : Nat) (hk : k ≤ j) (hj : j < 9000000000000000000) (w : World) : (do eqGuard .sub 3 x y (.int .i64 (j : Int)) (.int .i64 (k : Int)); binOp .sub 3 (.int .i64 (j : Int)) (.int .i64 (k : Int)) : Sem Value).run Try.prog w = .ok (.int .i64 ((j - k : Nat) : Int)) w := by
  have hw : IntKind.i64.wrap ((j : Int) - (k : Int)) = ((j - k : Nat) : Int) := by rw [IntKind.wrap_i64]; omega
  go_simp
theorem addC9 (x y : Operand) (j k : Nat) (hj : j + k < 9000000000000000000) (w : World) : (do eqGuard .add 3 x y (.int .i64 (j : Int)) (.int .i64 (k : Int)); binOp .add 3 (.int .i64 (j : Int)) (.int .i64 (k : Int)) : Sem Value).run Try.prog w = .ok (.int .i64 ((j + k : Nat) : Int)) w := by
  have hw : IntKind.i64.wrap ((j : Int) + (k : Int)) = ((j + k : Nat) : Int) := by rw [IntKind.wrap_i64]; omega
  go_simp
theorem mulC9 (x y : Operand) (j k : Nat) (hj : j * k < 9000000000000000000) (w : World) : (do eqGuard .mul 3 x y (.int .i64 (j : Int)) (.int .i64 (k : Int)); binOp .mul 3 (.int .i64 (j : Int)) (.int .i64 (k : Int)) : Sem Value).run Try.prog w = .ok (.int .i64 ((j * k : Nat) : Int)) w := by
  have hw : IntKind.i64.wrap ((j : Int) * (k : Int)) = ((j * k : Nat) : Int) := by rw [IntKind.wrap_i64, ← Int.natCast_mul]; omega
  go_simp
theorem ex_un19 {o : Oper} {ρ : Operand → Value} {x : Operand} {a : Int} {w : World} (ho : o.op = .unOp .xor 99 x) (hx : ρ x = .int .u32 a) : (execOp ρ o).run Try.prog w = .ok (.value (.int .u32 (nt a))) w := by
  unfold execOp
  simp only [ho, hx]
  unfold nt
  rfl
theorem ex_cv19 {o : Oper} {ρ : Operand → Value} {s t : TypeId} {x : Operand} {X V : Value} {w w' : World} (ho : o.op = .convert s t x) (hx : ρ x = X) (hr : (Go.convert s t X).run Try.prog w = .ok V w') : (execOp ρ o).run Try.prog w = .ok (.value V) w' := by
  unfold execOp
  simp only [ho, hx, Sem.run_bind, hr, Result.andThen_ok]
  rfl
theorem cv8_32 (a : Int) (w : World) : (Go.convert 5 99 (.int .u8 a)).run Try.prog w = .ok (.int .u32 (IntKind.u32.wrap a)) w := by go_simp
theorem cv32_8 (a : Int) (w : World) : (Go.convert 99 5 (.int .u32 a)).run Try.prog w = .ok (.int .u8 (IntKind.u8.wrap a)) w := by go_simp
theorem cvI_64 (a : Int) (w : World) : (Go.convert 3 118 (.int .i64 a)).run Try.prog w = .ok (.int .u64 (IntKind.u64.wrap a)) w := by go_simp
theorem cv64_8 (a : Int) (w : World) : (Go.convert 118 5 (.int .u64 a)).run Try.prog w = .ok (.int .u8 (IntKind.u8.wrap a)) w := by go_simp
theorem ldU {w : World} {q o : Nat} {x : Int} (h : w.cell? ⟨q, o, none⟩ = some (.int .u32 x)) : (Instr.loadAt 99 (.pointer (some ⟨q, o, none⟩))).run Try.prog w = .ok (.int .u32 x) w := by go_simp
theorem ld8 {w : World} {q o : Nat} {x : Int} (h : w.cell? ⟨q, o, none⟩ = some (.int .u8 x)) : (Instr.loadAt 5 (.pointer (some ⟨q, o, none⟩))).run Try.prog w = .ok (.int .u8 x) w := by go_simp
theorem stU {w : World} {q j : Nat} {u : Value} {b : Int} (h : w.cell? ⟨q, j, none⟩ = some u) (hf : w.frozen? ⟨q, j, none⟩ = false) : (Instr.storeAt 99 (.pointer (some ⟨q, j, none⟩)) (.int .u32 b)).run Try.prog w = .ok () (w.setCell ⟨q, j, none⟩ (.int .u32 b)) := by go_simp
theorem st8 {w : World} {q j : Nat} {u : Value} {b : Int} (h : w.cell? ⟨q, j, none⟩ = some u) (hf : w.frozen? ⟨q, j, none⟩ = false) : (Instr.storeAt 5 (.pointer (some ⟨q, j, none⟩)) (.int .u8 b)).run Try.prog w = .ok () (w.setCell ⟨q, j, none⟩ (.int .u8 b)) := by go_simp
theorem ixA (q o j n : Nat) (t e : TypeId) (hu : Try.prog.underlying t = some (.array n e)) (hs : (Try.prog.info? e).map (·.size) = some 1) (hj : j < n) (w : World) : (Instr.indexAt t (.pointer (some ⟨q, o, none⟩)) (.int .i64 (j : Int))).run Try.prog w = .ok (.pointer (some ⟨q, o + j, none⟩)) w := by
  have h1 : (j : Int) < (n : Int) := by omega
  have h0 : 0 ≤ (j : Int) := by omega
  cases hq : Try.prog.info? e with
  | none => simp [hq] at hs
  | some i =>
    have hi : i.size = 1 := by simpa [hq] using hs
    go_simp
    simp [sizeOf, typeInfo, hq, hi]
def uV (x : Int) : Value := .int .u32 x
def bV (x : Int) : Value := .int .u8 x
theorem one_u (l : List Int) : (l.map uV).toArray.all (·.oneCell') = true := by
  rw [Array.all_eq_true_iff_forall_mem]
  intro u hu
  simp only [List.mem_toArray, List.mem_map] at hu
  obtain ⟨x, _, rfl⟩ := hu
  rfl
theorem one_b (l : List Int) : (l.map bV).toArray.all (·.oneCell') = true := by
  rw [Array.all_eq_true_iff_forall_mem]
  intro u hu
  simp only [List.mem_toArray, List.mem_map] at hu
  obtain ⟨x, _, rfl⟩ := hu
  rfl
theorem al64 (w : World) : (Instr.alloc 163 true (.tuple #[])).run Try.prog w = .ok (.pointer (some ⟨w.heap.size, 0, none⟩)) (w.alloc (.cells ((List.replicate 64 (0 : Int)).map uV).toArray 163)) := by kernel_rfl
theorem alS8 (w : World) : (Instr.alloc 106 true (.tuple #[])).run Try.prog w = .ok (.pointer (some ⟨w.heap.size, 0, none⟩)) (w.alloc (.cells ((List.replicate 8 (0 : Int)).map uV).toArray 106)) := by kernel_rfl
theorem alH (w : World) : (Instr.alloc 24 true (.tuple #[])).run Try.prog w = .ok (.pointer (some ⟨w.heap.size, 0, none⟩)) (w.alloc (.cells ((List.replicate 32 (0 : Int)).map bV).toArray 24)) := by kernel_rfl
def hC (m : Bool) (W R : List Int) (n : Int) : List Value := .bool m :: (W.map uV ++ (R.map bV ++ [.int .i64 n]))
theorem alHs (w : World) : (Instr.alloc 109 true (.tuple #[])).run Try.prog w = .ok (.pointer (some ⟨w.heap.size, 0, none⟩)) (w.alloc (.cells (hC false (List.replicate 8 0) (List.replicate 64 0) 0).toArray 109)) := by kernel_rfl
theorem i64u : (Try.prog.info? 163).map (·.size) = some 64 := by kernel_rfl
theorem i8s : (Try.prog.info? 106).map (·.size) = some 8 := by kernel_rfl
theorem i32h : (Try.prog.info? 24).map (·.size) = some 32 := by kernel_rfl
theorem i74 : (Try.prog.info? 109).map (·.size) = some 74 := by kernel_rfl
theorem i64b : (Try.prog.info? 107).map (·.size) = some 64 := by kernel_rfl
theorem i1u : (Try.prog.info? 99).map (·.size) = some 1 := by kernel_rfl
theorem i1b : (Try.prog.info? 5).map (·.size) = some 1 := by kernel_rfl
theorem bdK (w : World) : (Instr.build 163 (((List.range 64).zip (kT9.map uV)).toArray)).run Try.prog w = .ok (.agg (kT9.map uV).toArray) w := by kernel_rfl
theorem bdI (w : World) : (Instr.build 106 (((List.range 8).zip (iv.l.map uV)).toArray)).run Try.prog w = .ok (.agg (iv.l.map uV).toArray) w := by kernel_rfl
theorem bdH (w : World) : (Instr.build 109 #[(0, .bool true), (1, .agg (iv.l.map uV).toArray)]).run Try.prog w = .ok (.agg (hC true iv.l (List.replicate 64 0) 0).toArray) w := by kernel_rfl
set_option maxHeartbeats 2000000 in
theorem ror_any (a : Int) (n : Nat) (hn : n ≤ 32) (w : World) :
    Calls Try.prog 104 #[.int .u32 a, .int .u64 (n : Int)] w fun e w' => e = .returned (.int .u32 (ror9 a n)) ∧ w' = w := by
  go_enter Try.func104, Try.ntmps104
  go_upto_region 0 with fail
  refine wp_region_lit ?_
  refine vl_gen (fun T => Rp T 13 [(1, gw true (.int .u64 (n : Int))), (0, gw true (.int .u32 a))]) (((Rp.nil rfl).cons rfl).cons rfl) (fun Z0 q0 => ?_)
  refine q0.t (.int .u32 0) (ex_assign rfl rfl) fun _ q1 => ?_;clear q0
  refine wpList_nil ?_
  go_upto_region 1 with fail
  refine wp_region_lit ?_
  refine q1.t (.int .u32 a) (ex_move rfl (q1.e (j := 0) rfl)) fun _ q2 => ?_;clear q1
  refine q2.t (.int .u64 (n : Int)) (ex_move rfl (q2.e (j := 1) rfl)) fun _ q3 => ?_;clear q2
  refine q3.t (.int .u32 (a / 2 ^ n)) (ex_bin rfl (q3.e (j := 5) rfl) (q3.e (j := 6) rfl) (shrUu64 _ _ a n hn _)) fun _ q4 => ?_;clear q3
  refine q4.t (.int .u32 a) (ex_move rfl (q4.e (j := 0) rfl)) fun _ q5 => ?_;clear q4
  refine q5.t (.int .u64 (n : Int)) (ex_move rfl (q5.e (j := 1) rfl)) fun _ q6 => ?_;clear q5
  refine q6.t (.int .u64 ((32 - n : Nat) : Int)) (ex_bin rfl rfl (q6.e (j := 9) rfl) (sub32 _ _ n hn _)) fun _ q7 => ?_;clear q6
  refine q7.t (.int .u32 (IntKind.u32.wrap (a * 2 ^ (32 - n)))) (ex_bin rfl (q7.e (j := 8) rfl) (q7.e (j := 10) rfl) (shlU _ _ a (32 - n) (by omega) _)) fun _ q8 => ?_;clear q7
  refine q8.t (.int .u32 (ror9 a n)) (ex_bin rfl (q8.e (j := 7) rfl) (q8.e (j := 11) rfl) (orU _ _ _ _ _)) fun _ q9 => ?_;clear q8
  refine q9.t (.int .u32 (ror9 a n)) (ex_assign rfl (q9.e (j := 12) rfl)) fun _ q10 => ?_;clear q9
  refine wpList_nil ?_
  go_wp2
  refine bodyPost_ret (results_tmp rfl _ _ _) rfl ⟨?_, rfl⟩
  rw [getD_of (q10.a 4 rfl)]
  rfl
end Go.Proofs.Ytfafhlahbhopaaa
namespace Go.Proofs.Ytfafhlahbhopaaa
open Go.RowKit Go.Maps
open Classical
def yB9 : Lay Int := ⟨5, 71, 1, 1, fun x => [.int .u8 x], 0⟩
theorem kB9 : yB9.Ok := ⟨by decide, fun x => rfl, fun x u h => by
    simp [yB9] at h
    rw [h]; rfl, Try.underlying71, ⟨.int .u8 0, by kernel_rfl, rfl⟩⟩
theorem SlY.b9 {w : World} {a : Option Addr} {n c : Nat} {L : List Int} (h : SlY yB9 w a n c L) {j : Nat} (hj : j < L.length) : ∃ q o, a = some ⟨q, o, none⟩ ∧ q < w.heap.size ∧ w.cell? ⟨q, o + j, none⟩ = some (.int .u8 (L.getD j 0)) := by
  obtain ⟨q, o, ea, hq, hl⟩ := h.place (by rintro rfl; simp at hj)
  have hx := List.getElem?_eq_getElem hj
  have := hl j _ hx 0 _ rfl
  refine ⟨q, o, ea, hq, ?_⟩
  rw [List.getD_eq_getElem?_getD, hx]
  simpa [yB9] using this
theorem BB.u9 {w : World} {q : Nat} {T : TypeId} {L : List Int} (h : BB w q T (L.map uV)) {j : Nat} (hj : j < L.length) : w.cell? ⟨q, j, none⟩ = some (.int .u32 (L.getD j 0)) := by
  rw [h.cell, List.getElem?_map, List.getD_eq_getElem?_getD, List.getElem?_eq_getElem hj]
  rfl
theorem BB.v9 {w : World} {q : Nat} {T : TypeId} {L : List Int} (h : BB w q T (L.map bV)) {j : Nat} (hj : j < L.length) : w.cell? ⟨q, j, none⟩ = some (.int .u8 (L.getD j 0)) := by
  rw [h.cell, List.getElem?_map, List.getD_eq_getElem?_getD, List.getElem?_eq_getElem hj]
  rfl
theorem BB.setu {w : World} {q : Nat} {T : TypeId} {L : List Int} (h : BB w q T (L.map uV)) (j : Nat) (x : Int) : BB (w.setCell ⟨q, j, none⟩ (.int .u32 x)) q T ((L.set j x).map uV) := by
  have := h.set1 j (.int .u32 x)
  rw [show (L.map uV).set j (.int .u32 x) = (L.set j x).map uV from by rw [List.map_set]; rfl] at this
  exact this
theorem BB.setv {w : World} {q : Nat} {T : TypeId} {L : List Int} (h : BB w q T (L.map bV)) (j : Nat) (x : Int) : BB (w.setCell ⟨q, j, none⟩ (.int .u8 x)) q T ((L.set j x).map bV) := by
  have := h.set1 j (.int .u8 x)
  rw [show (L.map bV).set j (.int .u8 x) = (L.set j x).map bV from by rw [List.map_set]; rfl] at this
  exact this
theorem upd1 (w : World) (q j : Nat) (x : Value) : Upd (fun k => k = q) w (w.setCell ⟨q, j, none⟩ x) := (Upd.refl (fun k => k = q) _).setCell (p := ⟨q, j, none⟩) (.inl rfl) _
theorem ixA0 (q j n : Nat) (t e : TypeId) (hu : Try.prog.underlying t = some (.array n e)) (hs : (Try.prog.info? e).map (·.size) = some 1) (hj : j < n) (w : World) : (Instr.indexAt t (.pointer (some ⟨q, 0, none⟩)) (.int .i64 (j : Int))).run Try.prog w = .ok (.pointer (some ⟨q, j, none⟩)) w := by
  have := ixA q 0 j n t e hu hs hj w
  rwa [Nat.zero_add] at this
theorem ixB9 (q o n c j : Nat) (hj : j < n) (w : World) : (Instr.indexAt 71 (.slice (some ⟨q, o, none⟩) n c) (.int .i64 (j : Int))).run Try.prog w = .ok (.pointer (some ⟨q, o + j, none⟩)) w := by
  have h1 : (j : Int) < (n : Int) := by omega
  go_simp
theorem v_loopO {c : Code} {Q : Exit → Act → World → Prop} {T0 : Array Value} {w0 : World} (x N o : Nat) (I : Nat → Array Value → World → Prop) (hx : ∀ j T w, I j T w → T[x]? = some (gw true (.int .i64 ((j + o : Nat) : Int)))) (h0 : I 0 T0 w0)
    (round : ∀ j T w, j ≤ N → I j T w → c.wp Try.prog (Exit.then (fun a' w' => ∃ T', a' = ⟨T', []⟩ ∧ j + 1 ≤ N ∧ I (j + 1) T' w') Q) ⟨T, []⟩ w) : (Code.loop c).wp Try.prog Q ⟨T0, []⟩ w0 := by
  have sl : ∀ {j : Nat} {T : Array Value} {w : World}, I j T w → (intOf (T.getD x undef)).toNat = j + o := fun h => by
    rw [getD_of (hx _ _ _ h)]
    show (intOf (.int .i64 _)).toNat = _
    simp [intOf]
    omega
  refine wp_loop (fun a w => ∃ j T, a = ⟨T, []⟩ ∧ j ≤ N ∧ I j T w) (fun a w => N + o - (intOf (a.tmps.getD x undef)).toNat) ⟨0, T0, rfl, Nat.zero_le _, h0⟩ ?_
  rintro a w ⟨j, T, rfl, hj, hI⟩
  refine Code.wp_mono (fun e a' w' h => ?_) (round j T w hj hI)
  cases e with
  | normal =>
    obtain ⟨T', rfl, hj', hI'⟩ := h
    refine ⟨⟨j + 1, T', rfl, hj', hI'⟩, ?_⟩
    show N + o - (intOf (T'.getD x undef)).toNat < N + o - (intOf (T.getD x undef)).toNat
    rw [sl hI', sl hI]
    omega
  | _ => exact h
theorem len_uV (L : List Int) : (L.map uV).length = L.length := List.length_map _
theorem len_bV (L : List Int) : (L.map bV).length = L.length := List.length_map _
set_option maxHeartbeats 2000000 in
theorem rwords_any (w : World) :
    Calls Try.prog 103 #[] w fun e w' => e = .returned (.agg (kT9.map uV).toArray) ∧ Below w.heap.size w w' := by
  go_enter Try.func103, Try.ntmps103
  go_upto_region 0 with fail
  refine wp_region_lit ?_
  refine vl_gen (fun T => Rp T 2 []) (Rp.nil rfl) (fun Z0 q0 => ?_)
  obtain ⟨w1, hw1⟩ : ∃ y, y = w.alloc (.cells ((List.replicate 64 (0 : Int)).map uV).toArray 163) := ⟨_, rfl⟩
  refine vw (.pointer (some ⟨w.heap.size, 0, none⟩)) w1 (want_none rfl) (ex_al rfl (by rw [hw1]; exact al64 _)) rfl q0.z (by decide) (q0.k fun _ q1 => ?_);clear q0
  have B1 : BB w1 w.heap.size 163 ((List.replicate 64 (0 : Int)).map uV) := by rw [hw1]; exact BB.new _ _ _
  have b1 : Below w.heap.size w w1 := by rw [hw1]; exact (Below.refl _ _).alloc (Nat.le_refl _) _
  clear hw1
  have z1 := b1.size
  refine wpList_nil ?_
  go_upto_region 1 with fail
  refine wp_region_lit ?_
  refine q1.t (.agg (kT9.map uV).toArray) (ex_buildP18 (P := ((List.range 64).zip (kT9.map uV)).toArray) rfl (by simp only [List.map_toArray, List.map_cons, List.map_nil, evc]; kernel_rfl) (bdK _)) fun _ q2 => ?_;clear q1
  obtain ⟨w2, hw2⟩ : ∃ y, y = w1.setCells w.heap.size 0 (kT9.map uV) := ⟨_, rfl⟩
  refine vs w2 (want_none rfl) (ex_st rfl (q2.e (j := 0) rfl) (q2.e (j := 1) rfl) (by rw [hw2]; exact B1.st 163 _ rfl i64u (by kernel_rfl))) rfl ?_
  have B2 : BB w2 w.heap.size 163 (kT9.map uV) := by rw [hw2]; exact B1.whole _ rfl
  have b2 : Below w.heap.size w w2 := by rw [hw2]; exact b1.trans (bel_ge (upd18 _ _ _ _) b1.size (Nat.le_refl _))
  clear hw2
  refine wpList_nil ?_
  go_wp2
  exact B2.res rfl (q2.a 0 rfl) Try.underlying163 rfl i64u ⟨rfl, b2⟩
set_option maxHeartbeats 2000000 in
theorem first_any (w : World) :
    Calls Try.prog 89 #[] w fun e w' => e = .returned (.agg (iv.l.map uV).toArray) ∧ Below w.heap.size w w' := by
  go_enter Try.func89, Try.ntmps89
  go_upto_region 0 with fail
  refine wp_region_lit ?_
  refine vl_gen (fun T => Rp T 2 []) (Rp.nil rfl) (fun Z0 q0 => ?_)
  obtain ⟨w1, hw1⟩ : ∃ y, y = w.alloc (.cells ((List.replicate 8 (0 : Int)).map uV).toArray 106) := ⟨_, rfl⟩
  refine vw (.pointer (some ⟨w.heap.size, 0, none⟩)) w1 (want_none rfl) (ex_al rfl (by rw [hw1]; exact alS8 _)) rfl q0.z (by decide) (q0.k fun _ q1 => ?_);clear q0
  have B1 : BB w1 w.heap.size 106 ((List.replicate 8 (0 : Int)).map uV) := by rw [hw1]; exact BB.new _ _ _
  have b1 : Below w.heap.size w w1 := by rw [hw1]; exact (Below.refl _ _).alloc (Nat.le_refl _) _
  clear hw1
  have z1 := b1.size
  refine wpList_nil ?_
  go_upto_region 1 with fail
  refine wp_region_lit ?_
  refine q1.t (.agg (iv.l.map uV).toArray) (ex_buildP18 (P := ((List.range 8).zip (iv.l.map uV)).toArray) rfl (by simp only [List.map_toArray, List.map_cons, List.map_nil, evc]; kernel_rfl) (bdI _)) fun _ q2 => ?_;clear q1
  obtain ⟨w2, hw2⟩ : ∃ y, y = w1.setCells w.heap.size 0 (iv.l.map uV) := ⟨_, rfl⟩
  refine vs w2 (want_none rfl) (ex_st rfl (q2.e (j := 0) rfl) (q2.e (j := 1) rfl) (by rw [hw2]; exact B1.st 106 _ rfl i8s (by kernel_rfl))) rfl ?_
  have B2 : BB w2 w.heap.size 106 (iv.l.map uV) := by rw [hw2]; exact B1.whole _ rfl
  have b2 : Below w.heap.size w w2 := by rw [hw2]; exact b1.trans (bel_ge (upd18 _ _ _ _) b1.size (Nat.le_refl _))
  clear hw2
  refine wpList_nil ?_
  go_wp2
  exact B2.res rfl (q2.a 0 rfl) Try.underlying106 rfl i8s ⟨rfl, b2⟩
set_option maxHeartbeats 2000000 in
theorem fresh_any (w : World) :
    Calls Try.prog 69 #[] w fun e w' => e = .returned (.agg (hC true iv.l (List.replicate 64 0) 0).toArray) ∧ Below w.heap.size w w' := by
  go_enter Try.func69, Try.ntmps69
  go_upto_region 0 with fail
  refine wp_region_lit ?_
  refine vl_gen (fun T => Rp T 3 []) (Rp.nil rfl) (fun Z0 q0 => ?_)
  obtain ⟨w1, hw1⟩ : ∃ y, y = w.alloc (.cells (hC false (List.replicate 8 0) (List.replicate 64 0) 0).toArray 109) := ⟨_, rfl⟩
  refine vw (.pointer (some ⟨w.heap.size, 0, none⟩)) w1 (want_none rfl) (ex_al rfl (by rw [hw1]; exact alHs _)) rfl q0.z (by decide) (q0.k fun _ q1 => ?_);clear q0
  have B1 : BB w1 w.heap.size 109 (hC false (List.replicate 8 0) (List.replicate 64 0) 0) := by rw [hw1]; exact BB.new _ _ _
  have b1 : Below w.heap.size w w1 := by rw [hw1]; exact (Below.refl _ _).alloc (Nat.le_refl _) _
  clear hw1
  have z1 := b1.size
  refine wpList_nil ?_
  go_upto_region 1 with fail
  refine wp_region_lit ?_
  refine vcallP (want_none rfl) (ex_call (args := #[]) rfl (by simp) rfl) (first_any w1) rfl q1.z (by decide) ?_
  rintro e w2 ⟨rfl, c2⟩
  refine ⟨_, rfl, q1.k fun _ q2 => ?_⟩;clear q1
  have b2 : Below w.heap.size w w2 := b1.trans (c2.mono z1)
  have B2 := B1.later c2
  clear B1
  refine q2.t (.agg (hC true iv.l (List.replicate 64 0) 0).toArray) (ex_buildP18 (P := #[(0, .bool true), (1, .agg (iv.l.map uV).toArray)]) rfl (by simp only [List.map_toArray, List.map_cons, List.map_nil, q2.e (j := 1) rfl, evc]) (bdH _)) fun _ q3 => ?_;clear q2
  obtain ⟨w3, hw3⟩ : ∃ y, y = w2.setCells w.heap.size 0 (hC true iv.l (List.replicate 64 0) 0) := ⟨_, rfl⟩
  refine vs w3 (want_none rfl) (ex_st rfl (q3.e (j := 0) rfl) (q3.e (j := 2) rfl) (by rw [hw3]; exact B2.st 109 _ rfl i74 (by kernel_rfl))) rfl ?_
  have B3 : BB w3 w.heap.size 109 (hC true iv.l (List.replicate 64 0) 0) := by rw [hw3]; exact B2.whole _ rfl
  have b3 : Below w.heap.size w w3 := by rw [hw3]; exact b2.trans (bel_ge (upd18 _ _ _ _) b2.size (Nat.le_refl _))
  clear hw3
  refine wpList_nil ?_
  go_wp2
  exact B3.res rfl (q3.a 0 rfl) Try.underlying109 rfl i74 ⟨rfl, b3⟩
set_option maxHeartbeats 2000000 in
theorem wordsOf_any (b : List Int) (a : Option Addr) (c : Nat) (w : World) (h : SlY yB9 w a 64 c b) (hb : b.length = 64) :
    Calls Try.prog 102 #[.slice a 64 c] w fun e w' => e = .returned (.agg ((wrds b).map uV).toArray) ∧ Below w.heap.size w w' := by
  go_enter Try.func102, Try.ntmps102
  go_upto_region 0 with fail
  refine wp_region_lit ?_
  refine vl_gen (fun T => Rp T 72 [(0, gw true (.slice a 64 c))]) ((Rp.nil rfl).cons rfl) (fun Z0 q0 => ?_)
  obtain ⟨w1, hw1⟩ : ∃ y, y = w.alloc (.cells ((List.replicate 64 (0 : Int)).map uV).toArray 163) := ⟨_, rfl⟩
  refine vw (.pointer (some ⟨w.heap.size, 0, none⟩)) w1 (want_none rfl) (ex_al rfl (by rw [hw1]; exact al64 _)) rfl q0.z (by decide) (q0.k fun _ q1 => ?_);clear q0
  have Bw1 : BB w1 w.heap.size 163 ((List.replicate 64 (0 : Int)).map uV) := by rw [hw1]; exact BB.new _ _ _
  have bw1 : Below w.heap.size w w1 := by rw [hw1]; exact (Below.refl _ _).alloc (Nat.le_refl _) _
  have zw1 : w1.heap.size = w.heap.size + 1 := by rw [hw1]; exact World.size_alloc _ _
  clear hw1
  refine wpList_nil ?_
  go_upto_region 1 with fail
  refine wp_region_lit ?_
  obtain ⟨w2, hw2⟩ : ∃ y, y = w1.alloc (.cells ((List.replicate 64 (0 : Int)).map uV).toArray 163) := ⟨_, rfl⟩
  refine vw (.pointer (some ⟨w1.heap.size, 0, none⟩)) w2 (want_none rfl) (ex_al rfl (by rw [hw2]; exact al64 _)) rfl q1.z (by decide) (q1.k fun _ q2 => ?_);clear q1
  have Bw2 : BB w2 w1.heap.size 163 ((List.replicate 64 (0 : Int)).map uV) := by rw [hw2]; exact BB.new _ _ _
  have bw2 : Below w1.heap.size w1 w2 := by rw [hw2]; exact (Below.refl _ _).alloc (Nat.le_refl _) _
  have zw2 : w2.heap.size = w1.heap.size + 1 := by rw [hw2]; exact World.size_alloc _ _
  clear hw2
  refine wpList_nil ?_
  go_upto_region 2 with fail
  refine wp_region_lit ?_
  refine q2.t (.int .i64 ((0 : Nat) : Int)) (ex_move rfl rfl) fun _ q3 => ?_;clear q2
  have q4 := (((((Rp.nil q3.z).cons (q3.a 0 rfl)).cons (q3.a 2 rfl)).cons (q3.a 3 rfl)).cons (q3.a 10 rfl))
  clear q3
  refine wpList_nil ?_
  go_upto_region 3 with fail
  have bw2 : Below w.heap.size w w2 := bw1.trans (bw2.mono (by omega))
  have Bq := Bw1.later ‹Below w1.heap.size w1 w2›
  refine v_loop 10 64 (fun j T wr => Rp T 72 [(10, gw true (.int .i64 ((j : Nat) : Int))), (3, gw true (.pointer (some ⟨w1.heap.size, 0, none⟩))), (2, gw true (.pointer (some ⟨w.heap.size, 0, none⟩))), (0, gw true (.slice a 64 c))] ∧ Hid (BB wr w1.heap.size 163 ((wS b j).map uV) ∧ BB wr w.heap.size 163 ((List.replicate 64 (0 : Int)).map uV) ∧ Below w.heap.size w wr)) (fun j T w h => h.1.a 10 rfl) ⟨q4, Bw2, Bq, bw2⟩ ?_
  clear q4
  intro j T wr hj hh
  obtain ⟨q100, HJ⟩ := hh
  obtain ⟨B3, B2, br⟩ := HJ.out
  clear HJ Bw2 Bq
  have zr := br.size
  by_cases hit : j < 64
  · go_upto_region 3 with fail
    refine wp_region_lit ?_
    refine q100.t (.bool true) (ex_bin rfl (q100.e (j := 10) rfl) rfl (ltT _ _ hit _)) fun _ q101 => ?_;clear q100
    refine wpList_nil ?_
    go_upto_region 4 with fail
    refine wp_cond_true (q101.e (j := 11) rfl) ?_
    go_upto_region 4 with fail
    refine wp_region_lit ?_
    refine q101.t (.int .i64 ((j : Nat) : Int)) (ex_move rfl (q101.e (j := 10) rfl)) fun _ q102 => ?_;clear q101
    refine q102.t (.int .i64 ((j : Nat) : Int)) (ex_assign rfl (q102.e (j := 12) rfl)) fun _ q103 => ?_;clear q102
    refine wpList_nil ?_
    go_upto_region 5 with fail
    refine vg_start (fun k => k == 14) (fun v => v = wr.drew) (by kernel_rfl) ?_
    have hd : Below wr.heap.size wr wr.drew := (Below.refl _ _).drew
    have hzd : wr.drew.heap.size = wr.heap.size := rfl
    generalize wr.drew = d at *
    have B3d := B3.later hd
    have B2d := B2.later hd
    have hsd : SlY yB9 d a 64 c b := (h.on br (Nat.le_refl _)).later hd
    obtain ⟨qa, oa, hqa, hqal, hca⟩ := hsd.b9 (j := j) (by omega)
    have hj4 : j / 4 < 64 := by omega
    have c3 := B3d.u9 (j := j / 4) (by rw [wS_len]; exact hj4)
    refine vg_takeW 0 true (.int .i64 ((j : Nat) : Int)) rfl (by kernel_rfl) (by kernel_rfl) (by kernel_rfl) (by kernel_rfl) (want_none rfl) (fun hc v => ex_move rfl (q103.e (j := 4) rfl)) rfl q103.z (by decide) (fun _ => rfl) (q103.k fun _ q104 => ?_);clear q103
    refine vg_takeW 1 true (.int .i64 ((j / 4 : Nat) : Int)) rfl (by kernel_rfl) (by kernel_rfl) (by kernel_rfl) (by kernel_rfl) (want_none rfl) (fun hc v => ex_bin rfl (q104.e (j := 13) rfl) rfl (quoC _ _ j 4 (by decide) (by omega) _)) rfl q104.z (by decide) (fun _ => rfl) (q104.k fun _ q105 => ?_);clear q104
    refine vg_takeW 2 true (.int .i64 ((j : Nat) : Int)) rfl (by kernel_rfl) (by kernel_rfl) (by kernel_rfl) (by kernel_rfl) (want_none rfl) (fun hc v => ex_move rfl (q105.e (j := 4) rfl)) rfl q105.z (by decide) (fun _ => rfl) (q105.k fun _ q106 => ?_);clear q105
    refine vg_takeW 3 true (.int .i64 ((j / 4 : Nat) : Int)) rfl (by kernel_rfl) (by kernel_rfl) (by kernel_rfl) (by kernel_rfl) (want_none rfl) (fun hc v => ex_bin rfl (q106.e (j := 15) rfl) rfl (quoC _ _ j 4 (by decide) (by omega) _)) rfl q106.z (by decide) (fun _ => rfl) (q106.k fun _ q107 => ?_);clear q106
    refine vg_takeW 4 true (.pointer (some ⟨w1.heap.size, j / 4, none⟩)) rfl (by kernel_rfl) (by kernel_rfl) (by kernel_rfl) (by kernel_rfl) (want_none rfl) (fun hc v => ex_ix rfl (q107.e (j := 3) rfl) (q107.e (j := 16) rfl) (ixA0 w1.heap.size (j / 4) 64 163 99 Try.underlying163 i1u hj4 _)) rfl q107.z (by decide) (fun _ => rfl) (q107.k fun _ q108 => ?_);clear q107
    refine vg_take 5 true (.int .u32 ((wS b j).getD (j / 4) 0)) rfl (by kernel_rfl) (by kernel_rfl) (by kernel_rfl) (by kernel_rfl) (by kernel_rfl) (by kernel_rfl) (want_none rfl) (fun hc v hv => by subst hv; exact ex_ld rfl (q108.e (j := 17) rfl) (ldU c3)) rfl q108.z (by decide) rfl (q108.k fun _ q109 => ?_);clear q108
    refine vg_takeW 6 true (.int .u32 (IntKind.u32.wrap ((wS b j).getD (j / 4) 0 * 2 ^ 8))) rfl (by kernel_rfl) (by kernel_rfl) (by kernel_rfl) (by kernel_rfl) (want_none rfl) (fun hc v => ex_bin rfl (q109.e (j := 18) rfl) rfl (shlU _ _ _ 8 (by decide) _)) rfl q109.z (by decide) (fun _ => rfl) (q109.k fun _ q110 => ?_);clear q109
    refine vg_takeW 7 true (.slice a 64 c) rfl (by kernel_rfl) (by kernel_rfl) (by kernel_rfl) (by kernel_rfl) (want_none rfl) (fun hc v => ex_move rfl (q110.e (j := 0) rfl)) rfl q110.z (by decide) (fun _ => rfl) (q110.k fun _ q111 => ?_);clear q110
    refine vg_takeW 8 true (.int .i64 ((j : Nat) : Int)) rfl (by kernel_rfl) (by kernel_rfl) (by kernel_rfl) (by kernel_rfl) (want_none rfl) (fun hc v => ex_move rfl (q111.e (j := 4) rfl)) rfl q111.z (by decide) (fun _ => rfl) (q111.k fun _ q112 => ?_);clear q111
    refine vg_takeW 9 true (.pointer (some ⟨qa, oa + j, none⟩)) rfl (by kernel_rfl) (by kernel_rfl) (by kernel_rfl) (by kernel_rfl) (want_none rfl) (fun hc v => ex_ix rfl (q112.e (j := 20) rfl) (q112.e (j := 21) rfl) (by rw [hqa]; exact ixB9 qa oa 64 c j hit _)) rfl q112.z (by decide) (fun _ => rfl) (q112.k fun _ q113 => ?_);clear q112
    refine vg_take 10 true (.int .u8 (b.getD j 0)) rfl (by kernel_rfl) (by kernel_rfl) (by kernel_rfl) (by kernel_rfl) (by kernel_rfl) (by kernel_rfl) (want_none rfl) (fun hc v hv => by subst hv; exact ex_ld rfl (q113.e (j := 22) rfl) (ld8 hca)) rfl q113.z (by decide) rfl (q113.k fun _ q114 => ?_);clear q113
    refine vg_takeW 11 true (.int .u32 (IntKind.u32.wrap (b.getD j 0))) rfl (by kernel_rfl) (by kernel_rfl) (by kernel_rfl) (by kernel_rfl) (want_none rfl) (fun hc v => ex_cv19 rfl (q114.e (j := 23) rfl) (cv8_32 _ _)) rfl q114.z (by decide) (fun _ => rfl) (q114.k fun _ q115 => ?_);clear q114
    refine vg_takeW 12 true (.int .u32 (bits .or .u32 (IntKind.u32.wrap ((wS b j).getD (j / 4) 0 * 2 ^ 8)) (IntKind.u32.wrap (b.getD j 0)))) rfl (by kernel_rfl) (by kernel_rfl) (by kernel_rfl) (by kernel_rfl) (want_none rfl) (fun hc v => ex_bin rfl (q115.e (j := 19) rfl) (q115.e (j := 24) rfl) (orU _ _ _ _ _)) rfl q115.z (by decide) (fun _ => rfl) (q115.k fun _ q116 => ?_);clear q115
    refine vg_takeW 13 true (.pointer (some ⟨w1.heap.size, j / 4, none⟩)) rfl (by kernel_rfl) (by kernel_rfl) (by kernel_rfl) (by kernel_rfl) (want_none rfl) (fun hc v => ex_ix rfl (q116.e (j := 3) rfl) (q116.e (j := 14) rfl) (ixA0 w1.heap.size (j / 4) 64 163 99 Try.underlying163 i1u hj4 _)) rfl q116.z (by decide) (fun _ => rfl) (q116.k fun _ q117 => ?_);clear q116
    obtain ⟨d2, hd2⟩ : ∃ y, y = d.setCell ⟨w1.heap.size, j / 4, none⟩ (.int .u32 (bits .or .u32 (IntKind.u32.wrap ((wS b j).getD (j / 4) 0 * 2 ^ 8)) (IntKind.u32.wrap (b.getD j 0)))) := ⟨_, rfl⟩
    refine vg_store 14 d2 rfl (by kernel_rfl) (by kernel_rfl) (want_none rfl) (ex_st rfl (q117.e (j := 26) rfl) (q117.e (j := 25) rfl) (by rw [hd2]; exact stU c3 (B3d.free _))) rfl ?_
    have B3e : BB d2 w1.heap.size 163 ((wS b (j + 1)).map uV) := by rw [hd2]; exact B3d.setu _ _
    have ue : Upd (fun k => k = w1.heap.size) d d2 := by rw [hd2]; exact upd1 _ _ _ _
    have B2e := B2d.upd ue (by omega)
    have be : Below w.heap.size w d2 := (br.trans (hd.mono zr)).trans (bel_ge ue (by omega) (by omega))
    clear hd2
    refine vg_done (by kernel_rfl) ?_
    have q118 := (((((Rp.nil q117.z).cons (q117.a 0 rfl)).cons (q117.a 2 rfl)).cons (q117.a 3 rfl)).cons (q117.a 10 rfl))
    clear q117
    go_upto_region 6 with fail
    refine wp_region_lit ?_
    refine q118.t (.int .i64 ((j + 1 : Nat) : Int)) (ex_bin rfl (q118.e (j := 10) rfl) rfl (add1C _ _ j (by omega) _)) fun _ q119 => ?_;clear q118
    refine q119.t (.int .i64 ((j + 1 : Nat) : Int)) (ex_move rfl (q119.e (j := 27) rfl)) fun _ q120 => ?_;clear q119
    have q121 := (((((Rp.nil q120.z).cons (q120.a 0 rfl)).cons (q120.a 2 rfl)).cons (q120.a 3 rfl)).cons (q120.a 10 rfl))
    clear q120
    refine wpList_nil ?_
    exact ⟨_, rfl, hit, q121, B3e, B2e, be⟩
  · obtain rfl : j = 64 := by omega
    go_upto_region 3 with fail
    refine wp_region_lit ?_
    refine q100.t (.bool false) (ex_bin rfl (q100.e (j := 10) rfl) rfl (ltF _ _ hit _)) fun _ q101 => ?_;clear q100
    refine wpList_nil ?_
    go_upto_region 7 with fail
    refine wp_cond_false (q101.e (j := 11) rfl) ?_
    go_upto_region 7 with fail
    refine wp_region_lit ?_
    refine q101.t (.int .i64 ((0 + 16 : Nat) : Int)) (ex_assign rfl rfl) fun _ q102 => ?_;clear q101
    have q103 := (((((Rp.nil q102.z).cons (q102.a 0 rfl)).cons (q102.a 2 rfl)).cons (q102.a 3 rfl)).cons (q102.a 5 rfl))
    clear q102
    refine wpList_nil ?_
    go_upto_region 8 with fail
    refine v_loopO 5 48 16 (fun j T wr => Rp T 72 [(5, gw true (.int .i64 ((j + 16 : Nat) : Int))), (3, gw true (.pointer (some ⟨w1.heap.size, 0, none⟩))), (2, gw true (.pointer (some ⟨w.heap.size, 0, none⟩))), (0, gw true (.slice a 64 c))] ∧ Hid (BB wr w1.heap.size 163 ((wT b j).map uV) ∧ BB wr w.heap.size 163 ((List.replicate 64 (0 : Int)).map uV) ∧ Below w.heap.size w wr)) (fun j T w h => h.1.a 5 rfl) ⟨q103, B3, B2, br⟩ ?_
    clear q103 B3 B2 br zr
    intro j T wr hj hh
    obtain ⟨q100, HJ⟩ := hh
    obtain ⟨B3, B2, br⟩ := HJ.out
    clear HJ
    have zr := br.size
    by_cases hit2 : j < 48
    · go_upto_region 8 with fail
      refine wp_region_lit ?_
      refine q100.t (.int .i64 ((j + 16 : Nat) : Int)) (ex_move rfl (q100.e (j := 5) rfl)) fun _ q101 => ?_;clear q100
      refine q101.t (.bool true) (ex_bin rfl (q101.e (j := 28) rfl) rfl (ltT _ _ (show j + 16 < 64 by omega) _)) fun _ q102 => ?_;clear q101
      refine wpList_nil ?_
      go_upto_region 10 with fail
      refine wp_cond_true (q102.e (j := 29) rfl) ?_
      go_upto_region 10 with fail
      refine vq_start (C := fun v => v = wr.drew) (by kernel_rfl) (by kernel_rfl) rfl ?_
      have hd : Below wr.heap.size wr wr.drew := (Below.refl _ _).drew
      have hzd : wr.drew.heap.size = wr.heap.size := rfl
      generalize wr.drew = d at *
      have B3d := B3.later hd
      have B2d := B2.later hd
      have hl := wT_len b j
      refine q102.q (.int .i64 ((j + 16 : Nat) : Int)) (fun v hv => ex_move rfl (q102.e (j := 5) rfl)) fun _ q103 => ?_;clear q102
      refine q103.q (.int .i64 ((j + 16 - 15 : Nat) : Int)) (fun v hv => ex_bin rfl (q103.e (j := 32) rfl) rfl (subC9 _ _ (j + 16) 15 (by omega) (by omega) _)) fun _ q104 => ?_;clear q103
      refine q104.q (.pointer (some ⟨w1.heap.size, (j + 16 - 15), none⟩)) (fun v hv => ex_ix rfl (q104.e (j := 3) rfl) (q104.e (j := 33) rfl) (ixA0 w1.heap.size (j + 16 - 15) 64 163 99 Try.underlying163 i1u (by omega) _)) fun _ q105 => ?_;clear q104
      refine q105.q (.int .u32 ((wT b j).getD (j + 16 - 15) 0)) (fun v hv => by subst hv; exact ex_ld rfl (q105.e (j := 34) rfl) (ldU (B3d.u9 (by omega)))) fun _ q106 => ?_;clear q105
      refine q106.q (.int .i64 ((j + 16 : Nat) : Int)) (fun v hv => ex_move rfl (q106.e (j := 5) rfl)) fun _ q107 => ?_;clear q106
      refine q107.q (.int .i64 ((j + 16 - 2 : Nat) : Int)) (fun v hv => ex_bin rfl (q107.e (j := 36) rfl) rfl (subC9 _ _ (j + 16) 2 (by omega) (by omega) _)) fun _ q108 => ?_;clear q107
      refine q108.q (.pointer (some ⟨w1.heap.size, (j + 16 - 2), none⟩)) (fun v hv => ex_ix rfl (q108.e (j := 3) rfl) (q108.e (j := 37) rfl) (ixA0 w1.heap.size (j + 16 - 2) 64 163 99 Try.underlying163 i1u (by omega) _)) fun _ q109 => ?_;clear q108
      refine q109.q (.int .u32 ((wT b j).getD (j + 16 - 2) 0)) (fun v hv => by subst hv; exact ex_ld rfl (q109.e (j := 38) rfl) (ldU (B3d.u9 (by omega)))) fun _ q110 => ?_;clear q109
      refine q110.q (.int .u32 ((wT b j).getD (j + 16 - 15) 0)) (fun v hv => ex_assign rfl (q110.e (j := 35) rfl)) fun _ q111 => ?_;clear q110
      refine q111.q (.int .u32 ((wT b j).getD (j + 16 - 2) 0)) (fun v hv => ex_assign rfl (q111.e (j := 39) rfl)) fun _ q112 => ?_;clear q111
      refine vq_nil (fun r1 hr1 => ?_)
      subst hr1
      have q113 := (((((((Rp.nil q112.z).cons (q112.a 0 rfl)).cons (q112.a 2 rfl)).cons (q112.a 3 rfl)).cons (q112.a 5 rfl)).cons (q112.a 6 rfl)).cons (q112.a 7 rfl))
      clear q112
      obtain ⟨x, hx⟩ : ∃ x, x = (wT b j).getD (j + 16 - 15) 0 := ⟨_, rfl⟩
      obtain ⟨y, hy⟩ : ∃ y, y = (wT b j).getD (j + 16 - 2) 0 := ⟨_, rfl⟩
      rw [← hx, ← hy] at q113
      go_upto_region 11 with fail
      refine wp_region_lit ?_
      refine q113.t (.int .u32 x) (ex_move rfl (q113.e (j := 6) rfl)) fun _ q114 => ?_;clear q113
      refine vcallP (want_none rfl) (ex_call rfl (by simp only [List.map_toArray, List.map_cons, List.map_nil, (q114.e (j := 40) rfl), evc] <;> rfl) rfl) (ror_any x 7 (by decide) r1) rfl q114.z (by decide) ?_
      rintro e w9 ⟨rfl, rfl⟩
      refine ⟨_, rfl, q114.k fun _ q115 => ?_⟩;clear q114
      refine q115.t (.int .u32 x) (ex_move rfl (q115.e (j := 6) rfl)) fun _ q116 => ?_;clear q115
      refine vcallP (want_none rfl) (ex_call rfl (by simp only [List.map_toArray, List.map_cons, List.map_nil, (q116.e (j := 42) rfl), evc] <;> rfl) rfl) (ror_any x 18 (by decide) w9) rfl q116.z (by decide) ?_
      rintro e w8 ⟨rfl, rfl⟩
      refine ⟨_, rfl, q116.k fun _ q117 => ?_⟩;clear q116
      refine q117.t (.int .u32 (xo (ror9 x 7) (ror9 x 18))) (ex_bin rfl (q117.e (j := 41) rfl) (q117.e (j := 43) rfl) (xorU _ _ _ _ _)) fun _ q118 => ?_;clear q117
      refine q118.t (.int .u32 x) (ex_move rfl (q118.e (j := 6) rfl)) fun _ q119 => ?_;clear q118
      refine q119.t (.int .u32 (x / 2 ^ 3)) (ex_bin rfl (q119.e (j := 45) rfl) rfl (shrUu64 _ _ _ 3 (by decide) _)) fun _ q120 => ?_;clear q119
      refine q120.t (.int .u32 (s09 x)) (ex_bin rfl (q120.e (j := 44) rfl) (q120.e (j := 46) rfl) (xorU _ _ _ _ _)) fun _ q121 => ?_;clear q120
      refine q121.t (.int .u32 (s09 x)) (ex_assign rfl (q121.e (j := 47) rfl)) fun _ q122 => ?_;clear q121
      have q123 := (((((((Rp.nil q122.z).cons (q122.a 0 rfl)).cons (q122.a 2 rfl)).cons (q122.a 3 rfl)).cons (q122.a 5 rfl)).cons (q122.a 7 rfl)).cons (q122.a 8 rfl))
      clear q122
      refine wpList_nil ?_
      go_upto_region 12 with fail
      refine wp_region_lit ?_
      refine q123.t (.int .u32 y) (ex_move rfl (q123.e (j := 7) rfl)) fun _ q124 => ?_;clear q123
      refine vcallP (want_none rfl) (ex_call rfl (by simp only [List.map_toArray, List.map_cons, List.map_nil, (q124.e (j := 48) rfl), evc] <;> rfl) rfl) (ror_any y 17 (by decide) w8) rfl q124.z (by decide) ?_
      rintro e w9 ⟨rfl, rfl⟩
      refine ⟨_, rfl, q124.k fun _ q125 => ?_⟩;clear q124
      refine q125.t (.int .u32 y) (ex_move rfl (q125.e (j := 7) rfl)) fun _ q126 => ?_;clear q125
      refine vcallP (want_none rfl) (ex_call rfl (by simp only [List.map_toArray, List.map_cons, List.map_nil, (q126.e (j := 50) rfl), evc] <;> rfl) rfl) (ror_any y 19 (by decide) w9) rfl q126.z (by decide) ?_
      rintro e w8 ⟨rfl, rfl⟩
      refine ⟨_, rfl, q126.k fun _ q127 => ?_⟩;clear q126
      refine q127.t (.int .u32 (xo (ror9 y 17) (ror9 y 19))) (ex_bin rfl (q127.e (j := 49) rfl) (q127.e (j := 51) rfl) (xorU _ _ _ _ _)) fun _ q128 => ?_;clear q127
      refine q128.t (.int .u32 y) (ex_move rfl (q128.e (j := 7) rfl)) fun _ q129 => ?_;clear q128
      refine q129.t (.int .u32 (y / 2 ^ 10)) (ex_bin rfl (q129.e (j := 53) rfl) rfl (shrUu64 _ _ _ 10 (by decide) _)) fun _ q130 => ?_;clear q129
      refine q130.t (.int .u32 (s19 y)) (ex_bin rfl (q130.e (j := 52) rfl) (q130.e (j := 54) rfl) (xorU _ _ _ _ _)) fun _ q131 => ?_;clear q130
      refine q131.t (.int .u32 (s19 y)) (ex_assign rfl (q131.e (j := 55) rfl)) fun _ q132 => ?_;clear q131
      have q133 := (((((((Rp.nil q132.z).cons (q132.a 0 rfl)).cons (q132.a 2 rfl)).cons (q132.a 3 rfl)).cons (q132.a 5 rfl)).cons (q132.a 8 rfl)).cons (q132.a 9 rfl))
      clear q132
      refine wpList_nil ?_
      go_upto_region 13 with fail
      refine vg_start (fun k => k == 15) (fun v => v = w8.drew) (by kernel_rfl) ?_
      have he : Below w8.heap.size w8 w8.drew := (Below.refl _ _).drew
      have hze : w8.drew.heap.size = w8.heap.size := rfl
      generalize w8.drew = e at *
      have B3e := B3d.later he
      have B2e := B2d.later he
      have c16 := B3e.u9 (j := j + 16 - 16) (by omega)
      have c7 := B3e.u9 (j := j + 16 - 7) (by omega)
      have cj := B3e.u9 (j := j + 16) (by omega)
      refine vg_takeW 0 true (.int .i64 ((j + 16 : Nat) : Int)) rfl (by kernel_rfl) (by kernel_rfl) (by kernel_rfl) (by kernel_rfl) (want_none rfl) (fun hc v => ex_move rfl (q133.e (j := 5) rfl)) rfl q133.z (by decide) (fun _ => rfl) (q133.k fun _ q134 => ?_);clear q133
      refine vg_takeW 1 true (.int .i64 ((j + 16 : Nat) : Int)) rfl (by kernel_rfl) (by kernel_rfl) (by kernel_rfl) (by kernel_rfl) (want_none rfl) (fun hc v => ex_move rfl (q134.e (j := 5) rfl)) rfl q134.z (by decide) (fun _ => rfl) (q134.k fun _ q135 => ?_);clear q134
      refine vg_takeW 2 true (.int .i64 ((j + 16 - 16 : Nat) : Int)) rfl (by kernel_rfl) (by kernel_rfl) (by kernel_rfl) (by kernel_rfl) (want_none rfl) (fun hc v => ex_bin rfl (q135.e (j := 57) rfl) rfl (subC9 _ _ (j + 16) 16 (by omega) (by omega) _)) rfl q135.z (by decide) (fun _ => rfl) (q135.k fun _ q136 => ?_);clear q135
      refine vg_takeW 3 true (.pointer (some ⟨w1.heap.size, (j + 16 - 16), none⟩)) rfl (by kernel_rfl) (by kernel_rfl) (by kernel_rfl) (by kernel_rfl) (want_none rfl) (fun hc v => ex_ix rfl (q136.e (j := 3) rfl) (q136.e (j := 58) rfl) (ixA0 w1.heap.size (j + 16 - 16) 64 163 99 Try.underlying163 i1u (by omega) _)) rfl q136.z (by decide) (fun _ => rfl) (q136.k fun _ q137 => ?_);clear q136
      refine vg_take 4 true (.int .u32 ((wT b j).getD (j + 16 - 16) 0)) rfl (by kernel_rfl) (by kernel_rfl) (by kernel_rfl) (by kernel_rfl) (by kernel_rfl) (by kernel_rfl) (want_none rfl) (fun hc v hv => by subst hv; exact ex_ld rfl (q137.e (j := 59) rfl) (ldU c16)) rfl q137.z (by decide) rfl (q137.k fun _ q138 => ?_);clear q137
      refine vg_takeW 5 true (.int .u32 (s09 x)) rfl (by kernel_rfl) (by kernel_rfl) (by kernel_rfl) (by kernel_rfl) (want_none rfl) (fun hc v => ex_move rfl (q138.e (j := 8) rfl)) rfl q138.z (by decide) (fun _ => rfl) (q138.k fun _ q139 => ?_);clear q138
      refine vg_takeW 6 true (.int .u32 (ad ((wT b j).getD (j + 16 - 16) 0) (s09 x))) rfl (by kernel_rfl) (by kernel_rfl) (by kernel_rfl) (by kernel_rfl) (want_none rfl) (fun hc v => ex_bin rfl (q139.e (j := 60) rfl) (q139.e (j := 61) rfl) (addU _ _ _ _ _)) rfl q139.z (by decide) (fun _ => rfl) (q139.k fun _ q140 => ?_);clear q139
      refine vg_takeW 7 true (.int .i64 ((j + 16 : Nat) : Int)) rfl (by kernel_rfl) (by kernel_rfl) (by kernel_rfl) (by kernel_rfl) (want_none rfl) (fun hc v => ex_move rfl (q140.e (j := 5) rfl)) rfl q140.z (by decide) (fun _ => rfl) (q140.k fun _ q141 => ?_);clear q140
      refine vg_takeW 8 true (.int .i64 ((j + 16 - 7 : Nat) : Int)) rfl (by kernel_rfl) (by kernel_rfl) (by kernel_rfl) (by kernel_rfl) (want_none rfl) (fun hc v => ex_bin rfl (q141.e (j := 63) rfl) rfl (subC9 _ _ (j + 16) 7 (by omega) (by omega) _)) rfl q141.z (by decide) (fun _ => rfl) (q141.k fun _ q142 => ?_);clear q141
      refine vg_takeW 9 true (.pointer (some ⟨w1.heap.size, (j + 16 - 7), none⟩)) rfl (by kernel_rfl) (by kernel_rfl) (by kernel_rfl) (by kernel_rfl) (want_none rfl) (fun hc v => ex_ix rfl (q142.e (j := 3) rfl) (q142.e (j := 64) rfl) (ixA0 w1.heap.size (j + 16 - 7) 64 163 99 Try.underlying163 i1u (by omega) _)) rfl q142.z (by decide) (fun _ => rfl) (q142.k fun _ q143 => ?_);clear q142
      refine vg_take 10 true (.int .u32 ((wT b j).getD (j + 16 - 7) 0)) rfl (by kernel_rfl) (by kernel_rfl) (by kernel_rfl) (by kernel_rfl) (by kernel_rfl) (by kernel_rfl) (want_none rfl) (fun hc v hv => by subst hv; exact ex_ld rfl (q143.e (j := 65) rfl) (ldU c7)) rfl q143.z (by decide) rfl (q143.k fun _ q144 => ?_);clear q143
      refine vg_takeW 11 true (.int .u32 (ad (ad ((wT b j).getD (j + 16 - 16) 0) (s09 x)) ((wT b j).getD (j + 16 - 7) 0))) rfl (by kernel_rfl) (by kernel_rfl) (by kernel_rfl) (by kernel_rfl) (want_none rfl) (fun hc v => ex_bin rfl (q144.e (j := 62) rfl) (q144.e (j := 66) rfl) (addU _ _ _ _ _)) rfl q144.z (by decide) (fun _ => rfl) (q144.k fun _ q145 => ?_);clear q144
      refine vg_takeW 12 true (.int .u32 (s19 y)) rfl (by kernel_rfl) (by kernel_rfl) (by kernel_rfl) (by kernel_rfl) (want_none rfl) (fun hc v => ex_move rfl (q145.e (j := 9) rfl)) rfl q145.z (by decide) (fun _ => rfl) (q145.k fun _ q146 => ?_);clear q145
      refine vg_takeW 13 true (.int .u32 (ad (ad (ad ((wT b j).getD (j + 16 - 16) 0) (s09 x)) ((wT b j).getD (j + 16 - 7) 0)) (s19 y))) rfl (by kernel_rfl) (by kernel_rfl) (by kernel_rfl) (by kernel_rfl) (want_none rfl) (fun hc v => ex_bin rfl (q146.e (j := 67) rfl) (q146.e (j := 68) rfl) (addU _ _ _ _ _)) rfl q146.z (by decide) (fun _ => rfl) (q146.k fun _ q147 => ?_);clear q146
      refine vg_takeW 14 true (.pointer (some ⟨w1.heap.size, (j + 16), none⟩)) rfl (by kernel_rfl) (by kernel_rfl) (by kernel_rfl) (by kernel_rfl) (want_none rfl) (fun hc v => ex_ix rfl (q147.e (j := 3) rfl) (q147.e (j := 56) rfl) (ixA0 w1.heap.size (j + 16) 64 163 99 Try.underlying163 i1u (by omega) _)) rfl q147.z (by decide) (fun _ => rfl) (q147.k fun _ q148 => ?_);clear q147
      obtain ⟨d2, hd2⟩ : ∃ z, z = e.setCell ⟨w1.heap.size, j + 16, none⟩ (.int .u32 (ad (ad (ad ((wT b j).getD (j + 16 - 16) 0) (s09 x)) ((wT b j).getD (j + 16 - 7) 0)) (s19 y))) := ⟨_, rfl⟩
      refine vg_store 15 d2 rfl (by kernel_rfl) (by kernel_rfl) (want_none rfl) (ex_st rfl (q148.e (j := 70) rfl) (q148.e (j := 69) rfl) (by rw [hd2]; exact stU cj (B3e.free _))) rfl ?_
      have B3f : BB d2 w1.heap.size 163 ((wT b (j + 1)).map uV) := by rw [hd2]; subst hx hy; exact B3e.setu _ _
      have ue : Upd (fun k => k = w1.heap.size) e d2 := by rw [hd2]; exact upd1 _ _ _ _
      have B2f := B2e.upd ue (by omega)
      have be : Below w.heap.size w d2 := ((br.trans (hd.mono zr)).trans (he.mono (by omega))).trans (bel_ge ue (by omega) (by omega))
      clear hd2
      refine vg_done (by kernel_rfl) ?_
      have q149 := (((((Rp.nil q148.z).cons (q148.a 0 rfl)).cons (q148.a 2 rfl)).cons (q148.a 3 rfl)).cons (q148.a 5 rfl))
      clear q148
      go_upto_region 9 with fail
      refine wp_region_lit ?_
      refine q149.t (.int .i64 ((j + 16 : Nat) : Int)) (ex_move rfl (q149.e (j := 5) rfl)) fun _ q150 => ?_;clear q149
      refine q150.t (.int .i64 ((j + 16 + 1 : Nat) : Int)) (ex_bin rfl (q150.e (j := 30) rfl) rfl (add1C _ _ (j + 16) (by omega) _)) fun _ q151 => ?_;clear q150
      rw [show j + 16 + 1 = j + 1 + 16 by omega] at q151
      refine q151.t (.int .i64 ((j + 1 + 16 : Nat) : Int)) (ex_assign rfl (q151.e (j := 31) rfl)) fun _ q152 => ?_;clear q151
      have q153 := (((((Rp.nil q152.z).cons (q152.a 0 rfl)).cons (q152.a 2 rfl)).cons (q152.a 3 rfl)).cons (q152.a 5 rfl))
      clear q152
      refine wpList_nil ?_
      exact ⟨_, rfl, hit2, q153, B3f, B2f, be⟩
    · obtain rfl : j = 48 := by omega
      go_upto_region 8 with fail
      refine wp_region_lit ?_
      refine q100.t (.int .i64 ((48 + 16 : Nat) : Int)) (ex_move rfl (q100.e (j := 5) rfl)) fun _ q101 => ?_;clear q100
      refine q101.t (.bool false) (ex_bin rfl (q101.e (j := 28) rfl) rfl (ltF _ _ (show ¬ 48 + 16 < 64 by omega) _)) fun _ q102 => ?_;clear q101
      refine wpList_nil ?_
      go_upto_region 14 with fail
      refine wp_cond_false (q102.e (j := 29) rfl) ?_
      go_upto_region 14 with fail
      refine wp_region_lit ?_
      have hwl : (wT b 48).length = 64 := wT_len b 48
      have hwm : ((wT b 48).map uV).length = 64 := by rw [len_uV, hwl]
      refine q102.t (.agg ((wT b 48).map uV).toArray) (ex_ld rfl (q102.e (j := 3) rfl) (B3.ld 163 Try.underlying163 rfl (by rw [hwm]; exact i64u))) fun _ q103 => ?_;clear q102
      obtain ⟨w9, hw9⟩ : ∃ y, y = wr.setCells w.heap.size 0 ((wT b 48).map uV) := ⟨_, rfl⟩
      refine vs w9 (want_none rfl) (ex_st rfl (q103.e (j := 2) rfl) (q103.e (j := 71) rfl) (by rw [hw9]; exact B2.st 163 _ (by rw [hwm]; rfl) (by rw [List.size_toArray, hwm]; exact i64u) (one_u _))) rfl ?_
      have B9 : BB w9 w.heap.size 163 ((wT b 48).map uV) := by rw [hw9]; exact B2.whole _ (by rw [hwm]; rfl)
      have b9 : Below w.heap.size w w9 := by rw [hw9]; exact br.trans (bel_ge (upd18 _ _ _ _) br.size (Nat.le_refl _))
      clear hw9
      refine wpList_nil ?_
      go_wp2
      exact B9.res rfl (q103.a 2 rfl) Try.underlying163 rfl (by rw [hwm]; exact i64u) ⟨rfl, b9⟩
end Go.Proofs.Ytfafhlahbhopaaa
namespace Go.Proofs.Ytfafhlahbhopaaa
open Go.RowKit Go.Maps
open Classical
theorem hC_len {m : Bool} {W R : List Int} {n : Int} (hW : W.length = 8) (hR : R.length = 64) : (hC m W R n).length = 74 := by simp [hC, hW, hR]
theorem hC_w {m : Bool} {W R : List Int} {n : Int} (hW : W.length = 8) {i : Nat} (hi : i < 8) : (hC m W R n)[1 + i]? = some (.int .u32 (W.getD i 0)) := by
  rw [hC, Nat.add_comm, List.getElem?_cons_succ, List.getElem?_append_left (by rw [List.length_map]; omega), List.getElem?_map, List.getD_eq_getElem?_getD, List.getElem?_eq_getElem (by omega)]
  rfl
theorem hC_setw {m : Bool} {W R : List Int} {n : Int} (hW : W.length = 8) {i : Nat} (hi : i < 8) (x : Int) : (hC m W R n).set (1 + i) (.int .u32 x) = hC m (W.set i x) R n := by
  rw [hC, Nat.add_comm, List.set_cons_succ, List.set_append_left _ _ (by rw [List.length_map]; omega), hC, List.map_set]
  rfl
theorem hC_r {m : Bool} {W R : List Int} {n : Int} (hW : W.length = 8) {i : Nat} (hi : i < R.length) : (hC m W R n)[9 + i]? = some (.int .u8 (R.getD i 0)) := by
  rw [hC, show 9 + i = (8 + i) + 1 by omega, List.getElem?_cons_succ, List.getElem?_append_right (by rw [List.length_map]; omega), List.length_map, hW, Nat.add_sub_cancel_left, List.getElem?_append_left (by rw [List.length_map]; omega), List.getElem?_map, List.getD_eq_getElem?_getD, List.getElem?_eq_getElem (by omega)]
  rfl
theorem hC_n {m : Bool} {W R : List Int} {n : Int} (hW : W.length = 8) (hR : R.length = 64) : (hC m W R n)[73]? = some (.int .i64 n) := by
  rw [hC, List.getElem?_cons_succ, List.getElem?_append_right (by rw [List.length_map]; omega), List.length_map, hW, List.getElem?_append_right (by rw [List.length_map]; omega), List.length_map, hR]
  rfl
theorem hC_setn {m : Bool} {W R : List Int} {n : Int} (hW : W.length = 8) (hR : R.length = 64) (x : Int) : (hC m W R n).set 73 (.int .i64 x) = hC m W R x := by
  rw [hC, List.set_cons_succ, List.set_append_right _ _ (by rw [List.length_map]; omega), List.length_map, hW, List.set_append_right _ _ (by rw [List.length_map]; omega), List.length_map, hR, hC]
  rfl
theorem St.len (s : St) : s.l.length = 8 := rfl
theorem bdA (t : St) (w : World) : (Instr.build 105 #[(0, .int .u32 t.a), (1, .int .u32 t.b), (2, .int .u32 t.c), (3, .int .u32 t.d), (4, .int .u32 t.e), (5, .int .u32 t.f), (6, .int .u32 t.g), (7, .int .u32 t.h)]).run Try.prog w = .ok (.agg (t.l.map uV).toArray) w := by kernel_rfl
theorem ex_index9 {o : Oper} {ρ : Operand → Value} {s : TypeId} {x y : Operand} {X Y V : Value} {w : World} (ho : o.op = .index s x y) (hx : ρ x = X) (hy : ρ y = Y) (hr : (Instr.index s X Y).run Try.prog w = .ok V w) : (execOp ρ o).run Try.prog w = .ok (.value V) w := by
  unfold execOp
  simp only [ho, hx, hy, Sem.run_bind, hr, Result.andThen_ok]
  rfl
theorem idx8_0 (t : St) (w : World) : (Instr.index 105 (.agg (t.l.map uV).toArray) (.int .i64 ((0 : Nat) : Int))).run Try.prog w = .ok (.int .u32 (t.l.getD 0 0)) w := by kernel_rfl
theorem idx8_1 (t : St) (w : World) : (Instr.index 105 (.agg (t.l.map uV).toArray) (.int .i64 ((1 : Nat) : Int))).run Try.prog w = .ok (.int .u32 (t.l.getD 1 0)) w := by kernel_rfl
theorem idx8_2 (t : St) (w : World) : (Instr.index 105 (.agg (t.l.map uV).toArray) (.int .i64 ((2 : Nat) : Int))).run Try.prog w = .ok (.int .u32 (t.l.getD 2 0)) w := by kernel_rfl
theorem idx8_3 (t : St) (w : World) : (Instr.index 105 (.agg (t.l.map uV).toArray) (.int .i64 ((3 : Nat) : Int))).run Try.prog w = .ok (.int .u32 (t.l.getD 3 0)) w := by kernel_rfl
theorem idx8_4 (t : St) (w : World) : (Instr.index 105 (.agg (t.l.map uV).toArray) (.int .i64 ((4 : Nat) : Int))).run Try.prog w = .ok (.int .u32 (t.l.getD 4 0)) w := by kernel_rfl
theorem idx8_5 (t : St) (w : World) : (Instr.index 105 (.agg (t.l.map uV).toArray) (.int .i64 ((5 : Nat) : Int))).run Try.prog w = .ok (.int .u32 (t.l.getD 5 0)) w := by kernel_rfl
theorem idx8_6 (t : St) (w : World) : (Instr.index 105 (.agg (t.l.map uV).toArray) (.int .i64 ((6 : Nat) : Int))).run Try.prog w = .ok (.int .u32 (t.l.getD 6 0)) w := by kernel_rfl
theorem idx8_7 (t : St) (w : World) : (Instr.index 105 (.agg (t.l.map uV).toArray) (.int .i64 ((7 : Nat) : Int))).run Try.prog w = .ok (.int .u32 (t.l.getD 7 0)) w := by kernel_rfl
theorem idx8 (t : St) (j : Nat) (hj : j < 8) (w : World) : (Instr.index 105 (.agg (t.l.map uV).toArray) (.int .i64 (j : Int))).run Try.prog w = .ok (.int .u32 (t.l.getD j 0)) w := by
  have hc : j = 0 ∨ j = 1 ∨ j = 2 ∨ j = 3 ∨ j = 4 ∨ j = 5 ∨ j = 6 ∨ j = 7 := by omega
  rcases hc with rfl | rfl | rfl | rfl | rfl | rfl | rfl | rfl
  · exact idx8_0 t w
  · exact idx8_1 t w
  · exact idx8_2 t w
  · exact idx8_3 t w
  · exact idx8_4 t w
  · exact idx8_5 t w
  · exact idx8_6 t w
  · exact idx8_7 t w
def adN (s t : St) : Nat → List Int
  | 0 => s.l
  | j + 1 => (adN s t j).set j (ad ((adN s t j).getD j 0) (t.l.getD j 0))
theorem adN_len (s t : St) : ∀ j, (adN s t j).length = 8
  | 0 => rfl
  | j + 1 => by rw [adN, List.length_set, adN_len s t j]
theorem adN_8 (s t : St) : adN s t 8 = (s.ad t).l := rfl
def sN (f : Nat → Int) : Nat → List Int
  | 0 => List.replicate 32 0
  | j + 1 => (sN f j).set j (f j)
theorem sN_len (f : Nat → Int) : ∀ j, (sN f j).length = 32
  | 0 => by simp [sN]
  | j + 1 => by rw [sN, List.length_set, sN_len f j]
theorem sN_eq (f : Nat → Int) : ∀ j, j ≤ 32 → sN f j = (List.range j).map f ++ List.replicate (32 - j) 0
  | 0, _ => by simp [sN]
  | j + 1, h => by
    rw [sN, sN_eq f j (by omega), List.set_append_right _ _ (by simp), List.length_map, List.length_range, Nat.sub_self, show 32 - j = (32 - (j + 1)) + 1 by omega, List.replicate_succ, List.set_cons_zero, List.range_succ, List.map_append]
    simp
theorem sN_32 (f : Nat → Int) : sN f 32 = (List.range 32).map f := by rw [sN_eq f 32 (Nat.le_refl _)]; simp
def oS (s : St) (j : Nat) : List Int := sN (fun i => IntKind.u8.wrap (s.l.getD (i / 4) 0 / 2 ^ (24 - 8 * (i % 4)))) j
theorem oS_len (s : St) (j : Nat) : (oS s j).length = 32 := sN_len _ j
theorem oS_32 (s : St) : oS s 32 = outB s := sN_32 _
set_option maxHeartbeats 2000000 in
theorem mix_any (q : Nat) (m : Bool) (s : St) (R : List Int) (n : Int) (b : List Int) (a : Option Addr) (c : Nat) (w : World) (hB : BB w q 109 (hC m s.l R n)) (h : SlY yB9 w a 64 c b) (hb : b.length = 64) :
    Calls Try.prog 90 #[.pointer (some ⟨q, 1, none⟩), .slice a 64 c] w fun e w' => e = .returned (.tuple #[]) ∧ BB w' q 109 (hC m (blkF s b).l R n) ∧ Upd (fun k => k = q) w w' := by
  go_enter Try.func90, Try.ntmps90
  go_upto_region 0 with fail
  refine wp_region_lit ?_
  refine vl_gen (fun T => Rp T 140 [(1, gw true (.slice a 64 c)), (0, gw true (.pointer (some ⟨q, 1, none⟩)))]) (((Rp.nil rfl).cons rfl).cons rfl) (fun Z0 q0 => ?_)
  refine q0.t (.slice a 64 c) (ex_move rfl (q0.e (j := 1) rfl)) fun _ q1 => ?_;clear q0
  refine vcallP (want_none rfl) (ex_call rfl (by simp only [List.map_toArray, List.map_cons, List.map_nil, (q1.e (j := 19) rfl), evc] <;> rfl) rfl) (wordsOf_any b a c w h hb) rfl q1.z (by decide) ?_
  rintro e w1 ⟨rfl, b1⟩
  refine ⟨_, rfl, q1.k fun _ q2 => ?_⟩;clear q1
  have z1 := b1.size
  refine vcallP (want_none rfl) (ex_call (args := #[]) rfl (by simp) rfl) (rwords_any w1) rfl q2.z (by decide) ?_
  rintro e w2 ⟨rfl, b2⟩
  refine ⟨_, rfl, q2.k fun _ q3 => ?_⟩;clear q2
  have z2 := b2.size
  obtain ⟨w3, hw3⟩ : ∃ y, y = w2.alloc (.cells ((List.replicate 64 (0 : Int)).map uV).toArray 163) := ⟨_, rfl⟩
  refine vw (.pointer (some ⟨w2.heap.size, 0, none⟩)) w3 (want_none rfl) (ex_al rfl (by rw [hw3]; exact al64 _)) rfl q3.z (by decide) (q3.k fun _ q4 => ?_);clear q3
  have Bw3 : BB w3 w2.heap.size 163 ((List.replicate 64 (0 : Int)).map uV) := by rw [hw3]; exact BB.new _ _ _
  have bw3 : Below w2.heap.size w2 w3 := by rw [hw3]; exact (Below.refl _ _).alloc (Nat.le_refl _) _
  have zw3 : w3.heap.size = w2.heap.size + 1 := by rw [hw3]; exact World.size_alloc _ _
  clear hw3
  obtain ⟨w4, hw4⟩ : ∃ y, y = w3.alloc (.cells ((List.replicate 64 (0 : Int)).map uV).toArray 163) := ⟨_, rfl⟩
  refine vw (.pointer (some ⟨w3.heap.size, 0, none⟩)) w4 (want_none rfl) (ex_al rfl (by rw [hw4]; exact al64 _)) rfl q4.z (by decide) (q4.k fun _ q5 => ?_);clear q4
  have Bw4 : BB w4 w3.heap.size 163 ((List.replicate 64 (0 : Int)).map uV) := by rw [hw4]; exact BB.new _ _ _
  have bw4 : Below w3.heap.size w3 w4 := by rw [hw4]; exact (Below.refl _ _).alloc (Nat.le_refl _) _
  have zw4 : w4.heap.size = w3.heap.size + 1 := by rw [hw4]; exact World.size_alloc _ _
  clear hw4
  have hwm : ((wrds b).map uV).length = 64 := by rw [len_uV]; exact wT_len b 48
  have hkm : (kT9.map uV).length = 64 := rfl
  have B34 := Bw3.later bw4
  obtain ⟨w5, hw5⟩ : ∃ y, y = w4.setCells w2.heap.size 0 ((wrds b).map uV) := ⟨_, rfl⟩
  refine vs w5 (want_none rfl) (ex_st rfl (q5.e (j := 4) rfl) (q5.e (j := 20) rfl) (by rw [hw5]; exact B34.st 163 _ (by rw [hwm]; rfl) (by rw [List.size_toArray, hwm]; exact i64u) (one_u _))) rfl ?_
  have B5 : BB w5 w2.heap.size 163 ((wrds b).map uV) := by rw [hw5]; exact B34.whole _ (by rw [hwm]; rfl)
  have u5 : Upd (fun k => k = w2.heap.size) w4 w5 := by rw [hw5]; exact upd18 _ _ _ _
  have z5 := u5.size
  have B45 := Bw4.upd u5 (by omega)
  clear hw5
  obtain ⟨w6, hw6⟩ : ∃ y, y = w5.setCells w3.heap.size 0 (kT9.map uV) := ⟨_, rfl⟩
  refine vs w6 (want_none rfl) (ex_st rfl (q5.e (j := 5) rfl) (q5.e (j := 21) rfl) (by rw [hw6]; exact B45.st 163 _ rfl i64u (by kernel_rfl))) rfl ?_
  have B6k : BB w6 w3.heap.size 163 (kT9.map uV) := by rw [hw6]; exact B45.whole _ rfl
  have u6 : Upd (fun k => k = w3.heap.size) w5 w6 := by rw [hw6]; exact upd18 _ _ _ _
  have z6 := u6.size
  have B6w := B5.upd u6 (by omega)
  clear hw6 B5 B45 B34 Bw3 Bw4
  have b6 : Below w.heap.size w w6 := ((((b1.trans (b2.mono z1)).trans (bw3.mono (by omega))).trans (bw4.mono (by omega))).trans (bel_ge u5 (by omega) (by omega))).trans (bel_ge u6 (by omega) (by omega))
  have z66 := b6.size
  have B6q := hB.later b6
  have hql := hB.lt
  obtain ⟨x4, hx4⟩ : ∃ x, x = w2.heap.size := ⟨_, rfl⟩
  obtain ⟨x5, hx5⟩ : ∃ x, x = w3.heap.size := ⟨_, rfl⟩
  have q6 := ((((Rp.nil q5.z).cons (q5.a 0 rfl)).cons (q5.a 4 rfl)).cons (q5.a 5 rfl))
  clear q5
  rw [← hx4, ← hx5] at q6
  rw [← hx4] at B6w
  rw [← hx5] at B6k
  have h4l := B6w.lt
  have h5l := B6k.lt
  have h4w : w.heap.size ≤ x4 := by omega
  have h5w : w.heap.size ≤ x5 := by omega
  clear hx4 hx5 bw3 bw4 zw3 zw4 z5 u5 u6 b1 b2 z1 z2
  refine wpList_nil ?_
  go_upto_region 1 with fail
  refine vq_start (C := fun v => v = w6.drew) (by kernel_rfl) (by kernel_rfl) rfl ?_
  have hd : Below w6.heap.size w6 w6.drew := (Below.refl _ _).drew
  have hzd : w6.drew.heap.size = w6.heap.size := rfl
  generalize w6.drew = d at *
  have Bq := B6q.later hd
  have Bw := B6w.later hd
  have Bk := B6k.later hd
  have bd : Below w.heap.size w d := b6.trans (hd.mono z66)
  clear B6q B6w B6k b6
  refine q6.q (.pointer (some ⟨q, 1, none⟩)) (fun v hv => ex_move rfl (q6.e (j := 0) rfl)) fun _ q7 => ?_;clear q6
  refine q7.q (.pointer (some ⟨q, 1, none⟩)) (fun v hv => ex_nil rfl (q7.e (j := 22) rfl)) fun _ q8 => ?_;clear q7
  refine q8.q (.pointer (some ⟨q, (1 + 0), none⟩)) (fun v hv => ex_ix rfl (q8.e (j := 23) rfl) rfl (ixA q 1 0 8 106 99 Try.underlying106 i1u (by decide) _)) fun _ q9 => ?_;clear q8
  refine q9.q (.int .u32 s.a) (fun v hv => by subst hv; exact ex_ld rfl (q9.e (j := 24) rfl) (ldU ((Bq.cell (1 + 0)).trans rfl))) fun _ q10 => ?_;clear q9
  refine q10.q (.pointer (some ⟨q, 1, none⟩)) (fun v hv => ex_move rfl (q10.e (j := 0) rfl)) fun _ q11 => ?_;clear q10
  refine q11.q (.pointer (some ⟨q, 1, none⟩)) (fun v hv => ex_nil rfl (q11.e (j := 26) rfl)) fun _ q12 => ?_;clear q11
  refine q12.q (.pointer (some ⟨q, (1 + 1), none⟩)) (fun v hv => ex_ix rfl (q12.e (j := 27) rfl) rfl (ixA q 1 1 8 106 99 Try.underlying106 i1u (by decide) _)) fun _ q13 => ?_;clear q12
  refine q13.q (.int .u32 s.b) (fun v hv => by subst hv; exact ex_ld rfl (q13.e (j := 28) rfl) (ldU ((Bq.cell (1 + 1)).trans rfl))) fun _ q14 => ?_;clear q13
  refine q14.q (.pointer (some ⟨q, 1, none⟩)) (fun v hv => ex_move rfl (q14.e (j := 0) rfl)) fun _ q15 => ?_;clear q14
  refine q15.q (.pointer (some ⟨q, 1, none⟩)) (fun v hv => ex_nil rfl (q15.e (j := 30) rfl)) fun _ q16 => ?_;clear q15
  refine q16.q (.pointer (some ⟨q, (1 + 2), none⟩)) (fun v hv => ex_ix rfl (q16.e (j := 31) rfl) rfl (ixA q 1 2 8 106 99 Try.underlying106 i1u (by decide) _)) fun _ q17 => ?_;clear q16
  refine q17.q (.int .u32 s.c) (fun v hv => by subst hv; exact ex_ld rfl (q17.e (j := 32) rfl) (ldU ((Bq.cell (1 + 2)).trans rfl))) fun _ q18 => ?_;clear q17
  refine q18.q (.pointer (some ⟨q, 1, none⟩)) (fun v hv => ex_move rfl (q18.e (j := 0) rfl)) fun _ q19 => ?_;clear q18
  refine q19.q (.pointer (some ⟨q, 1, none⟩)) (fun v hv => ex_nil rfl (q19.e (j := 34) rfl)) fun _ q20 => ?_;clear q19
  refine q20.q (.pointer (some ⟨q, (1 + 3), none⟩)) (fun v hv => ex_ix rfl (q20.e (j := 35) rfl) rfl (ixA q 1 3 8 106 99 Try.underlying106 i1u (by decide) _)) fun _ q21 => ?_;clear q20
  refine q21.q (.int .u32 s.d) (fun v hv => by subst hv; exact ex_ld rfl (q21.e (j := 36) rfl) (ldU ((Bq.cell (1 + 3)).trans rfl))) fun _ q22 => ?_;clear q21
  refine q22.q (.pointer (some ⟨q, 1, none⟩)) (fun v hv => ex_move rfl (q22.e (j := 0) rfl)) fun _ q23 => ?_;clear q22
  refine q23.q (.pointer (some ⟨q, 1, none⟩)) (fun v hv => ex_nil rfl (q23.e (j := 38) rfl)) fun _ q24 => ?_;clear q23
  refine q24.q (.pointer (some ⟨q, (1 + 4), none⟩)) (fun v hv => ex_ix rfl (q24.e (j := 39) rfl) rfl (ixA q 1 4 8 106 99 Try.underlying106 i1u (by decide) _)) fun _ q25 => ?_;clear q24
  refine q25.q (.int .u32 s.e) (fun v hv => by subst hv; exact ex_ld rfl (q25.e (j := 40) rfl) (ldU ((Bq.cell (1 + 4)).trans rfl))) fun _ q26 => ?_;clear q25
  refine q26.q (.pointer (some ⟨q, 1, none⟩)) (fun v hv => ex_move rfl (q26.e (j := 0) rfl)) fun _ q27 => ?_;clear q26
  refine q27.q (.pointer (some ⟨q, 1, none⟩)) (fun v hv => ex_nil rfl (q27.e (j := 42) rfl)) fun _ q28 => ?_;clear q27
  refine q28.q (.pointer (some ⟨q, (1 + 5), none⟩)) (fun v hv => ex_ix rfl (q28.e (j := 43) rfl) rfl (ixA q 1 5 8 106 99 Try.underlying106 i1u (by decide) _)) fun _ q29 => ?_;clear q28
  refine q29.q (.int .u32 s.f) (fun v hv => by subst hv; exact ex_ld rfl (q29.e (j := 44) rfl) (ldU ((Bq.cell (1 + 5)).trans rfl))) fun _ q30 => ?_;clear q29
  refine q30.q (.pointer (some ⟨q, 1, none⟩)) (fun v hv => ex_move rfl (q30.e (j := 0) rfl)) fun _ q31 => ?_;clear q30
  refine q31.q (.pointer (some ⟨q, 1, none⟩)) (fun v hv => ex_nil rfl (q31.e (j := 46) rfl)) fun _ q32 => ?_;clear q31
  refine q32.q (.pointer (some ⟨q, (1 + 6), none⟩)) (fun v hv => ex_ix rfl (q32.e (j := 47) rfl) rfl (ixA q 1 6 8 106 99 Try.underlying106 i1u (by decide) _)) fun _ q33 => ?_;clear q32
  refine q33.q (.int .u32 s.g) (fun v hv => by subst hv; exact ex_ld rfl (q33.e (j := 48) rfl) (ldU ((Bq.cell (1 + 6)).trans rfl))) fun _ q34 => ?_;clear q33
  refine q34.q (.pointer (some ⟨q, 1, none⟩)) (fun v hv => ex_move rfl (q34.e (j := 0) rfl)) fun _ q35 => ?_;clear q34
  refine q35.q (.pointer (some ⟨q, 1, none⟩)) (fun v hv => ex_nil rfl (q35.e (j := 50) rfl)) fun _ q36 => ?_;clear q35
  refine q36.q (.pointer (some ⟨q, (1 + 7), none⟩)) (fun v hv => ex_ix rfl (q36.e (j := 51) rfl) rfl (ixA q 1 7 8 106 99 Try.underlying106 i1u (by decide) _)) fun _ q37 => ?_;clear q36
  refine q37.q (.int .u32 s.h) (fun v hv => by subst hv; exact ex_ld rfl (q37.e (j := 52) rfl) (ldU ((Bq.cell (1 + 7)).trans rfl))) fun _ q38 => ?_;clear q37
  refine q38.q (.int .u32 s.a) (fun v hv => ex_assign rfl (q38.e (j := 25) rfl)) fun _ q39 => ?_;clear q38
  refine q39.q (.int .u32 s.b) (fun v hv => ex_assign rfl (q39.e (j := 29) rfl)) fun _ q40 => ?_;clear q39
  refine q40.q (.int .u32 s.c) (fun v hv => ex_assign rfl (q40.e (j := 33) rfl)) fun _ q41 => ?_;clear q40
  refine q41.q (.int .u32 s.d) (fun v hv => ex_assign rfl (q41.e (j := 37) rfl)) fun _ q42 => ?_;clear q41
  refine q42.q (.int .u32 s.e) (fun v hv => ex_assign rfl (q42.e (j := 41) rfl)) fun _ q43 => ?_;clear q42
  refine q43.q (.int .u32 s.f) (fun v hv => ex_assign rfl (q43.e (j := 45) rfl)) fun _ q44 => ?_;clear q43
  refine q44.q (.int .u32 s.g) (fun v hv => ex_assign rfl (q44.e (j := 49) rfl)) fun _ q45 => ?_;clear q44
  refine q45.q (.int .u32 s.h) (fun v hv => ex_assign rfl (q45.e (j := 53) rfl)) fun _ q46 => ?_;clear q45
  refine vq_nil (fun r1 hr1 => ?_)
  subst hr1
  have q47 := ((((((((((((Rp.nil q46.z).cons (q46.a 0 rfl)).cons (q46.a 4 rfl)).cons (q46.a 5 rfl)).cons (q46.a 6 rfl)).cons (q46.a 7 rfl)).cons (q46.a 8 rfl)).cons (q46.a 9 rfl)).cons (q46.a 10 rfl)).cons (q46.a 11 rfl)).cons (q46.a 12 rfl)).cons (q46.a 13 rfl))
  clear q46
  go_upto_region 2 with fail
  refine wp_region_lit ?_
  refine q47.t (.int .i64 ((0 : Nat) : Int)) (ex_move rfl rfl) fun _ q48 => ?_;clear q47
  have q49 := (((((((((((((Rp.nil q48.z).cons (q48.a 0 rfl)).cons (q48.a 4 rfl)).cons (q48.a 5 rfl)).cons (q48.a 6 rfl)).cons (q48.a 7 rfl)).cons (q48.a 8 rfl)).cons (q48.a 9 rfl)).cons (q48.a 10 rfl)).cons (q48.a 11 rfl)).cons (q48.a 12 rfl)).cons (q48.a 13 rfl)).cons (q48.a 54 rfl))
  clear q48
  refine wpList_nil ?_
  go_upto_region 3 with fail
  refine v_loop 54 64 (fun j T wr => Rp T 140 [(54, gw true (.int .i64 ((j : Nat) : Int))), (13, gw true (.int .u32 (rN kT9 (wrds b) s j).h)), (12, gw true (.int .u32 (rN kT9 (wrds b) s j).g)), (11, gw true (.int .u32 (rN kT9 (wrds b) s j).f)), (10, gw true (.int .u32 (rN kT9 (wrds b) s j).e)), (9, gw true (.int .u32 (rN kT9 (wrds b) s j).d)), (8, gw true (.int .u32 (rN kT9 (wrds b) s j).c)), (7, gw true (.int .u32 (rN kT9 (wrds b) s j).b)), (6, gw true (.int .u32 (rN kT9 (wrds b) s j).a)), (5, gw true (.pointer (some ⟨x5, 0, none⟩))), (4, gw true (.pointer (some ⟨x4, 0, none⟩))), (0, gw true (.pointer (some ⟨q, 1, none⟩)))] ∧ Hid (BB wr q 109 (hC m s.l R n) ∧ BB wr x4 163 ((wrds b).map uV) ∧ BB wr x5 163 (kT9.map uV) ∧ Below w.heap.size w wr)) (fun j T w h => h.1.a 54 rfl) ⟨q49, Bq, Bw, Bk, bd⟩ ?_
  clear q49 Bq Bw Bk bd hd hzd h4l h5l
  intro j T wr hj hh
  obtain ⟨q100, HJ⟩ := hh
  obtain ⟨Bq, Bw, Bk, br⟩ := HJ.out
  clear HJ
  have zr := br.size
  by_cases hit : j < 64
  · obtain ⟨t, ht⟩ : ∃ t, t = (rN kT9 (wrds b) s j) := ⟨_, rfl⟩
    rw [← ht] at q100
    go_upto_region 3 with fail
    refine wp_region_lit ?_
    refine q100.t (.bool true) (ex_bin rfl (q100.e (j := 54) rfl) rfl (ltT _ _ hit _)) fun _ q101 => ?_;clear q100
    refine wpList_nil ?_
    go_upto_region 4 with fail
    refine wp_cond_true (q101.e (j := 55) rfl) ?_
    go_upto_region 4 with fail
    refine wp_region_lit ?_
    refine q101.t (.int .i64 ((j : Nat) : Int)) (ex_move rfl (q101.e (j := 54) rfl)) fun _ q102 => ?_;clear q101
    refine q102.t (.int .i64 ((j : Nat) : Int)) (ex_assign rfl (q102.e (j := 56) rfl)) fun _ q103 => ?_;clear q102
    have q104 := ((((((((((((((Rp.nil q103.z).cons (q103.a 0 rfl)).cons (q103.a 4 rfl)).cons (q103.a 5 rfl)).cons (q103.a 6 rfl)).cons (q103.a 7 rfl)).cons (q103.a 8 rfl)).cons (q103.a 9 rfl)).cons (q103.a 10 rfl)).cons (q103.a 11 rfl)).cons (q103.a 12 rfl)).cons (q103.a 13 rfl)).cons (q103.a 54 rfl)).cons (q103.a 14 rfl))
    clear q103
    refine wpList_nil ?_
    go_upto_region 5 with fail
    refine vq_start (C := fun v => v = wr.drew) (by kernel_rfl) (by kernel_rfl) rfl ?_
    have he : Below wr.heap.size wr wr.drew := (Below.refl _ _).drew
    have hze : wr.drew.heap.size = wr.heap.size := rfl
    generalize wr.drew = e at *
    have Bq1 := Bq.later he
    have Bw1 := Bw.later he
    have Bk1 := Bk.later he
    have bd : Below w.heap.size w e := br.trans (he.mono zr)
    clear Bq Bw Bk br
    have hwl : (wrds b).length = 64 := wT_len b 48
    refine q104.q (.int .u32 (t.h)) (fun v hv => ex_move rfl (q104.e (j := 13) rfl)) fun _ q105 => ?_;clear q104
    refine q105.q (.int .u32 (t.e)) (fun v hv => ex_move rfl (q105.e (j := 10) rfl)) fun _ q106 => ?_;clear q105
    refine vq_call18 (true) (.int .u32 (ror9 t.e 6)) (want_none rfl) (fun hc v hv => ex_call rfl (by simp only [List.map_toArray, List.map_cons, List.map_nil, (q106.e (j := 58) rfl), evc] <;> rfl) rfl) (fun hc v hv => (ror_any t.e 6 (by decide) v).mono fun e9 w9 h9 => ⟨h9.1, h9.2.trans hv⟩) rfl q106.z (by decide) (q106.k fun _ q107 => ?_);clear q106
    refine q107.q (.int .u32 (t.e)) (fun v hv => ex_move rfl (q107.e (j := 10) rfl)) fun _ q108 => ?_;clear q107
    refine vq_call18 (true) (.int .u32 (ror9 t.e 11)) (want_none rfl) (fun hc v hv => ex_call rfl (by simp only [List.map_toArray, List.map_cons, List.map_nil, (q108.e (j := 60) rfl), evc] <;> rfl) rfl) (fun hc v hv => (ror_any t.e 11 (by decide) v).mono fun e9 w9 h9 => ⟨h9.1, h9.2.trans hv⟩) rfl q108.z (by decide) (q108.k fun _ q109 => ?_);clear q108
    refine q109.q (.int .u32 (xo (ror9 t.e 6) (ror9 t.e 11))) (fun v hv => ex_bin rfl (q109.e (j := 59) rfl) (q109.e (j := 61) rfl) (xorU _ _ _ _ _)) fun _ q110 => ?_;clear q109
    refine q110.q (.int .u32 (t.e)) (fun v hv => ex_move rfl (q110.e (j := 10) rfl)) fun _ q111 => ?_;clear q110
    refine vq_call18 (true) (.int .u32 (ror9 t.e 25)) (want_none rfl) (fun hc v hv => ex_call rfl (by simp only [List.map_toArray, List.map_cons, List.map_nil, (q111.e (j := 63) rfl), evc] <;> rfl) rfl) (fun hc v hv => (ror_any t.e 25 (by decide) v).mono fun e9 w9 h9 => ⟨h9.1, h9.2.trans hv⟩) rfl q111.z (by decide) (q111.k fun _ q112 => ?_);clear q111
    refine q112.q (.int .u32 (xo (xo (ror9 t.e 6) (ror9 t.e 11)) (ror9 t.e 25))) (fun v hv => ex_bin rfl (q112.e (j := 62) rfl) (q112.e (j := 64) rfl) (xorU _ _ _ _ _)) fun _ q113 => ?_;clear q112
    refine q113.q (.int .u32 (ad t.h (xo (xo (ror9 t.e 6) (ror9 t.e 11)) (ror9 t.e 25)))) (fun v hv => ex_bin rfl (q113.e (j := 57) rfl) (q113.e (j := 65) rfl) (addU _ _ _ _ _)) fun _ q114 => ?_;clear q113
    refine q114.q (.int .u32 (t.e)) (fun v hv => ex_move rfl (q114.e (j := 10) rfl)) fun _ q115 => ?_;clear q114
    refine q115.q (.int .u32 (t.f)) (fun v hv => ex_move rfl (q115.e (j := 11) rfl)) fun _ q116 => ?_;clear q115
    refine q116.q (.int .u32 (an t.e t.f)) (fun v hv => ex_bin rfl (q116.e (j := 67) rfl) (q116.e (j := 68) rfl) (andU _ _ _ _ _)) fun _ q117 => ?_;clear q116
    refine q117.q (.int .u32 (t.e)) (fun v hv => ex_move rfl (q117.e (j := 10) rfl)) fun _ q118 => ?_;clear q117
    refine q118.q (.int .u32 (nt t.e)) (fun v hv => ex_un19 rfl (q118.e (j := 70) rfl)) fun _ q119 => ?_;clear q118
    refine q119.q (.int .u32 (t.g)) (fun v hv => ex_move rfl (q119.e (j := 12) rfl)) fun _ q120 => ?_;clear q119
    refine q120.q (.int .u32 (an (nt t.e) t.g)) (fun v hv => ex_bin rfl (q120.e (j := 71) rfl) (q120.e (j := 72) rfl) (andU _ _ _ _ _)) fun _ q121 => ?_;clear q120
    refine q121.q (.int .u32 (xo (an t.e t.f) (an (nt t.e) t.g))) (fun v hv => ex_bin rfl (q121.e (j := 69) rfl) (q121.e (j := 73) rfl) (xorU _ _ _ _ _)) fun _ q122 => ?_;clear q121
    refine q122.q (.int .u32 (ad (ad t.h (xo (xo (ror9 t.e 6) (ror9 t.e 11)) (ror9 t.e 25))) (xo (an t.e t.f) (an (nt t.e) t.g)))) (fun v hv => ex_bin rfl (q122.e (j := 66) rfl) (q122.e (j := 74) rfl) (addU _ _ _ _ _)) fun _ q123 => ?_;clear q122
    refine q123.q (.int .i64 ((j : Nat) : Int)) (fun v hv => ex_move rfl (q123.e (j := 14) rfl)) fun _ q124 => ?_;clear q123
    refine q124.q (.pointer (some ⟨x5, j, none⟩)) (fun v hv => ex_ix rfl (q124.e (j := 5) rfl) (q124.e (j := 76) rfl) (ixA0 x5 j 64 163 99 Try.underlying163 i1u hit _)) fun _ q125 => ?_;clear q124
    refine q125.q (.int .u32 (kT9.getD j 0)) (fun v hv => by subst hv; exact ex_ld rfl (q125.e (j := 77) rfl) (ldU (Bk1.u9 (show j < kT9.length from hit)))) fun _ q126 => ?_;clear q125
    refine q126.q (.int .u32 (ad (ad (ad t.h (xo (xo (ror9 t.e 6) (ror9 t.e 11)) (ror9 t.e 25))) (xo (an t.e t.f) (an (nt t.e) t.g))) (kT9.getD j 0))) (fun v hv => ex_bin rfl (q126.e (j := 75) rfl) (q126.e (j := 78) rfl) (addU _ _ _ _ _)) fun _ q127 => ?_;clear q126
    refine q127.q (.int .i64 ((j : Nat) : Int)) (fun v hv => ex_move rfl (q127.e (j := 14) rfl)) fun _ q128 => ?_;clear q127
    refine q128.q (.pointer (some ⟨x4, j, none⟩)) (fun v hv => ex_ix rfl (q128.e (j := 4) rfl) (q128.e (j := 80) rfl) (ixA0 x4 j 64 163 99 Try.underlying163 i1u hit _)) fun _ q129 => ?_;clear q128
    refine q129.q (.int .u32 ((wrds b).getD j 0)) (fun v hv => by subst hv; exact ex_ld rfl (q129.e (j := 81) rfl) (ldU (Bw1.u9 (by rw [hwl]; exact hit)))) fun _ q130 => ?_;clear q129
    refine q130.q (.int .u32 (t19 t (kT9.getD j 0) ((wrds b).getD j 0))) (fun v hv => ex_bin rfl (q130.e (j := 79) rfl) (q130.e (j := 82) rfl) (addU _ _ _ _ _)) fun _ q131 => ?_;clear q130
    refine q131.q (.int .u32 (t19 t (kT9.getD j 0) ((wrds b).getD j 0))) (fun v hv => ex_assign rfl (q131.e (j := 83) rfl)) fun _ q132 => ?_;clear q131
    refine vq_nil (fun r1 hr1 => ?_)
    subst hr1
    have q133 := ((((((((((((((Rp.nil q132.z).cons (q132.a 0 rfl)).cons (q132.a 4 rfl)).cons (q132.a 5 rfl)).cons (q132.a 6 rfl)).cons (q132.a 7 rfl)).cons (q132.a 8 rfl)).cons (q132.a 9 rfl)).cons (q132.a 10 rfl)).cons (q132.a 11 rfl)).cons (q132.a 12 rfl)).cons (q132.a 13 rfl)).cons (q132.a 54 rfl)).cons (q132.a 15 rfl))
    clear q132
    obtain ⟨y1, hy1⟩ : ∃ y, y = t19 t (kT9.getD j 0) ((wrds b).getD j 0) := ⟨_, rfl⟩
    rw [← hy1] at q133
    go_upto_region 6 with fail
    refine wp_region_lit ?_
    refine q133.t (.int .u32 (t.a)) (ex_move rfl (q133.e (j := 6) rfl)) fun _ q134 => ?_;clear q133
    refine vcallP (want_none rfl) (ex_call rfl (by simp only [List.map_toArray, List.map_cons, List.map_nil, (q134.e (j := 84) rfl), evc] <;> rfl) rfl) (ror_any t.a 2 (by decide) r1) rfl q134.z (by decide) ?_
    rintro e v1 ⟨rfl, rfl⟩
    refine ⟨_, rfl, q134.k fun _ q135 => ?_⟩;clear q134
    refine q135.t (.int .u32 (t.a)) (ex_move rfl (q135.e (j := 6) rfl)) fun _ q136 => ?_;clear q135
    refine vcallP (want_none rfl) (ex_call rfl (by simp only [List.map_toArray, List.map_cons, List.map_nil, (q136.e (j := 86) rfl), evc] <;> rfl) rfl) (ror_any t.a 13 (by decide) v1) rfl q136.z (by decide) ?_
    rintro e v2 ⟨rfl, rfl⟩
    refine ⟨_, rfl, q136.k fun _ q137 => ?_⟩;clear q136
    refine q137.t (.int .u32 (xo (ror9 t.a 2) (ror9 t.a 13))) (ex_bin rfl (q137.e (j := 85) rfl) (q137.e (j := 87) rfl) (xorU _ _ _ _ _)) fun _ q138 => ?_;clear q137
    refine q138.t (.int .u32 (t.a)) (ex_move rfl (q138.e (j := 6) rfl)) fun _ q139 => ?_;clear q138
    refine vcallP (want_none rfl) (ex_call rfl (by simp only [List.map_toArray, List.map_cons, List.map_nil, (q139.e (j := 89) rfl), evc] <;> rfl) rfl) (ror_any t.a 22 (by decide) v2) rfl q139.z (by decide) ?_
    rintro e v3 ⟨rfl, rfl⟩
    refine ⟨_, rfl, q139.k fun _ q140 => ?_⟩;clear q139
    refine q140.t (.int .u32 (xo (xo (ror9 t.a 2) (ror9 t.a 13)) (ror9 t.a 22))) (ex_bin rfl (q140.e (j := 88) rfl) (q140.e (j := 90) rfl) (xorU _ _ _ _ _)) fun _ q141 => ?_;clear q140
    refine q141.t (.int .u32 (t.a)) (ex_move rfl (q141.e (j := 6) rfl)) fun _ q142 => ?_;clear q141
    refine q142.t (.int .u32 (t.b)) (ex_move rfl (q142.e (j := 7) rfl)) fun _ q143 => ?_;clear q142
    refine q143.t (.int .u32 (an t.a t.b)) (ex_bin rfl (q143.e (j := 92) rfl) (q143.e (j := 93) rfl) (andU _ _ _ _ _)) fun _ q144 => ?_;clear q143
    refine q144.t (.int .u32 (t.a)) (ex_move rfl (q144.e (j := 6) rfl)) fun _ q145 => ?_;clear q144
    refine q145.t (.int .u32 (t.c)) (ex_move rfl (q145.e (j := 8) rfl)) fun _ q146 => ?_;clear q145
    refine q146.t (.int .u32 (an t.a t.c)) (ex_bin rfl (q146.e (j := 95) rfl) (q146.e (j := 96) rfl) (andU _ _ _ _ _)) fun _ q147 => ?_;clear q146
    refine q147.t (.int .u32 (xo (an t.a t.b) (an t.a t.c))) (ex_bin rfl (q147.e (j := 94) rfl) (q147.e (j := 97) rfl) (xorU _ _ _ _ _)) fun _ q148 => ?_;clear q147
    refine q148.t (.int .u32 (t.b)) (ex_move rfl (q148.e (j := 7) rfl)) fun _ q149 => ?_;clear q148
    refine q149.t (.int .u32 (t.c)) (ex_move rfl (q149.e (j := 8) rfl)) fun _ q150 => ?_;clear q149
    refine q150.t (.int .u32 (an t.b t.c)) (ex_bin rfl (q150.e (j := 99) rfl) (q150.e (j := 100) rfl) (andU _ _ _ _ _)) fun _ q151 => ?_;clear q150
    refine q151.t (.int .u32 (xo (xo (an t.a t.b) (an t.a t.c)) (an t.b t.c))) (ex_bin rfl (q151.e (j := 98) rfl) (q151.e (j := 101) rfl) (xorU _ _ _ _ _)) fun _ q152 => ?_;clear q151
    refine q152.t (.int .u32 (t29 t)) (ex_bin rfl (q152.e (j := 91) rfl) (q152.e (j := 102) rfl) (addU _ _ _ _ _)) fun _ q153 => ?_;clear q152
    refine q153.t (.int .u32 (t29 t)) (ex_assign rfl (q153.e (j := 103) rfl)) fun _ q154 => ?_;clear q153
    have q155 := (((((((((((((((Rp.nil q154.z).cons (q154.a 0 rfl)).cons (q154.a 4 rfl)).cons (q154.a 5 rfl)).cons (q154.a 6 rfl)).cons (q154.a 7 rfl)).cons (q154.a 8 rfl)).cons (q154.a 9 rfl)).cons (q154.a 10 rfl)).cons (q154.a 11 rfl)).cons (q154.a 12 rfl)).cons (q154.a 13 rfl)).cons (q154.a 54 rfl)).cons (q154.a 15 rfl)).cons (q154.a 16 rfl))
    clear q154
    refine wpList_nil ?_
    go_upto_region 7 with fail
    refine wp_region_lit ?_
    refine q155.t (.int .u32 (t.g)) (ex_move rfl (q155.e (j := 12) rfl)) fun _ q156 => ?_;clear q155
    refine q156.t (.int .u32 (t.f)) (ex_move rfl (q156.e (j := 11) rfl)) fun _ q157 => ?_;clear q156
    refine q157.t (.int .u32 (t.e)) (ex_move rfl (q157.e (j := 10) rfl)) fun _ q158 => ?_;clear q157
    refine q158.t (.int .u32 (t.d)) (ex_move rfl (q158.e (j := 9) rfl)) fun _ q159 => ?_;clear q158
    refine q159.t (.int .u32 (y1)) (ex_move rfl (q159.e (j := 15) rfl)) fun _ q160 => ?_;clear q159
    refine q160.t (.int .u32 (ad t.d y1)) (ex_bin rfl (q160.e (j := 107) rfl) (q160.e (j := 108) rfl) (addU _ _ _ _ _)) fun _ q161 => ?_;clear q160
    refine q161.t (.int .u32 (t.g)) (ex_assign rfl (q161.e (j := 104) rfl)) fun _ q162 => ?_;clear q161
    refine q162.t (.int .u32 (t.f)) (ex_assign rfl (q162.e (j := 105) rfl)) fun _ q163 => ?_;clear q162
    refine q163.t (.int .u32 (t.e)) (ex_assign rfl (q163.e (j := 106) rfl)) fun _ q164 => ?_;clear q163
    refine q164.t (.int .u32 (ad t.d y1)) (ex_assign rfl (q164.e (j := 109) rfl)) fun _ q165 => ?_;clear q164
    have q166 := (((((((((((((((Rp.nil q165.z).cons (q165.a 0 rfl)).cons (q165.a 4 rfl)).cons (q165.a 5 rfl)).cons (q165.a 6 rfl)).cons (q165.a 7 rfl)).cons (q165.a 8 rfl)).cons (q165.a 9 rfl)).cons (q165.a 10 rfl)).cons (q165.a 11 rfl)).cons (q165.a 12 rfl)).cons (q165.a 13 rfl)).cons (q165.a 54 rfl)).cons (q165.a 15 rfl)).cons (q165.a 16 rfl))
    clear q165
    refine wpList_nil ?_
    go_upto_region 8 with fail
    refine wp_region_lit ?_
    refine q166.t (.int .u32 (t.c)) (ex_move rfl (q166.e (j := 8) rfl)) fun _ q167 => ?_;clear q166
    refine q167.t (.int .u32 (t.b)) (ex_move rfl (q167.e (j := 7) rfl)) fun _ q168 => ?_;clear q167
    refine q168.t (.int .u32 (t.a)) (ex_move rfl (q168.e (j := 6) rfl)) fun _ q169 => ?_;clear q168
    refine q169.t (.int .u32 (y1)) (ex_move rfl (q169.e (j := 15) rfl)) fun _ q170 => ?_;clear q169
    refine q170.t (.int .u32 (t29 t)) (ex_move rfl (q170.e (j := 16) rfl)) fun _ q171 => ?_;clear q170
    refine q171.t (.int .u32 (ad y1 (t29 t))) (ex_bin rfl (q171.e (j := 113) rfl) (q171.e (j := 114) rfl) (addU _ _ _ _ _)) fun _ q172 => ?_;clear q171
    refine q172.t (.int .u32 (t.c)) (ex_assign rfl (q172.e (j := 110) rfl)) fun _ q173 => ?_;clear q172
    refine q173.t (.int .u32 (t.b)) (ex_assign rfl (q173.e (j := 111) rfl)) fun _ q174 => ?_;clear q173
    refine q174.t (.int .u32 (t.a)) (ex_assign rfl (q174.e (j := 112) rfl)) fun _ q175 => ?_;clear q174
    refine q175.t (.int .u32 (ad y1 (t29 t))) (ex_assign rfl (q175.e (j := 115) rfl)) fun _ q176 => ?_;clear q175
    refine wpList_nil ?_
    go_upto_region 9 with fail
    refine wp_region_lit ?_
    refine q176.t (.int .i64 ((j + 1 : Nat) : Int)) (ex_bin rfl (q176.e (j := 54) rfl) rfl (add1C _ _ j (by omega) _)) fun _ q177 => ?_;clear q176
    refine q177.t (.int .i64 ((j + 1 : Nat) : Int)) (ex_move rfl (q177.e (j := 116) rfl)) fun _ q178 => ?_;clear q177
    have q179 := (((((((((((((Rp.nil q178.z).cons (q178.a 0 rfl)).cons (q178.a 4 rfl)).cons (q178.a 5 rfl)).cons (q178.a 6 rfl)).cons (q178.a 7 rfl)).cons (q178.a 8 rfl)).cons (q178.a 9 rfl)).cons (q178.a 10 rfl)).cons (q178.a 11 rfl)).cons (q178.a 12 rfl)).cons (q178.a 13 rfl)).cons (q178.a 54 rfl))
    clear q178
    refine wpList_nil ?_
    subst hy1 ht
    exact ⟨_, rfl, hit, q179, Bq1, Bw1, Bk1, bd⟩
  · obtain rfl : j = 64 := by omega
    obtain ⟨t, ht⟩ : ∃ t, t = (rN kT9 (wrds b) s 64) := ⟨_, rfl⟩
    rw [← ht] at q100
    go_upto_region 3 with fail
    refine wp_region_lit ?_
    refine q100.t (.bool false) (ex_bin rfl (q100.e (j := 54) rfl) rfl (ltF _ _ hit _)) fun _ q101 => ?_;clear q100
    refine wpList_nil ?_
    go_upto_region 10 with fail
    refine wp_cond_false (q101.e (j := 55) rfl) ?_
    go_upto_region 10 with fail
    refine wp_region_lit ?_
    refine q101.t (.int .u32 (t.a)) (ex_move rfl (q101.e (j := 6) rfl)) fun _ q102 => ?_;clear q101
    refine q102.t (.int .u32 (t.b)) (ex_move rfl (q102.e (j := 7) rfl)) fun _ q103 => ?_;clear q102
    refine q103.t (.int .u32 (t.c)) (ex_move rfl (q103.e (j := 8) rfl)) fun _ q104 => ?_;clear q103
    refine q104.t (.int .u32 (t.d)) (ex_move rfl (q104.e (j := 9) rfl)) fun _ q105 => ?_;clear q104
    refine q105.t (.int .u32 (t.e)) (ex_move rfl (q105.e (j := 10) rfl)) fun _ q106 => ?_;clear q105
    refine q106.t (.int .u32 (t.f)) (ex_move rfl (q106.e (j := 11) rfl)) fun _ q107 => ?_;clear q106
    refine q107.t (.int .u32 (t.g)) (ex_move rfl (q107.e (j := 12) rfl)) fun _ q108 => ?_;clear q107
    refine q108.t (.int .u32 (t.h)) (ex_move rfl (q108.e (j := 13) rfl)) fun _ q109 => ?_;clear q108
    refine q109.t (.agg (t.l.map uV).toArray) (ex_buildP18 (P := #[(0, .int .u32 t.a), (1, .int .u32 t.b), (2, .int .u32 t.c), (3, .int .u32 t.d), (4, .int .u32 t.e), (5, .int .u32 t.f), (6, .int .u32 t.g), (7, .int .u32 t.h)]) rfl (by simp only [List.map_toArray, List.map_cons, List.map_nil, q109.e (j := 117) rfl, q109.e (j := 118) rfl, q109.e (j := 119) rfl, q109.e (j := 120) rfl, q109.e (j := 121) rfl, q109.e (j := 122) rfl, q109.e (j := 123) rfl, q109.e (j := 124) rfl, evc]) (bdA _ _)) fun _ q110 => ?_;clear q109
    refine q110.t (.int .i64 ((0 : Nat) : Int)) (ex_move rfl rfl) fun _ q111 => ?_;clear q110
    have q112 := ((((Rp.nil q111.z).cons (q111.a 0 rfl)).cons (q111.a 125 rfl)).cons (q111.a 126 rfl))
    clear q111
    refine wpList_nil ?_
    go_upto_region 11 with fail
    have uw : Upd (fun k => k = q) w wr := Upd.of_below br
    refine v_loop 126 8 (fun j T wr => Rp T 140 [(126, gw true (.int .i64 ((j : Nat) : Int))), (125, gw true (.agg (t.l.map uV).toArray)), (0, gw true (.pointer (some ⟨q, 1, none⟩)))] ∧ Hid (BB wr q 109 (hC m (adN s t j) R n) ∧ Upd (fun k => k = q) w wr)) (fun j T w h => h.1.a 126 rfl) ⟨q112, Bq, uw⟩ ?_
    clear q112 Bq Bw Bk br zr uw hit hj
    intro j T wr hj hh
    obtain ⟨q100, HJ⟩ := hh
    obtain ⟨Bq, uw⟩ := HJ.out
    clear HJ
    have zr := uw.size
    by_cases hit : j < 8
    · go_upto_region 11 with fail
      refine wp_region_lit ?_
      refine q100.t (.bool true) (ex_bin rfl (q100.e (j := 126) rfl) rfl (ltT _ _ hit _)) fun _ q101 => ?_;clear q100
      refine wpList_nil ?_
      go_upto_region 12 with fail
      refine wp_cond_true (q101.e (j := 127) rfl) ?_
      go_upto_region 12 with fail
      refine wp_region_lit ?_
      refine q101.t (.int .i64 ((j : Nat) : Int)) (ex_move rfl (q101.e (j := 126) rfl)) fun _ q102 => ?_;clear q101
      refine q102.t (.int .u32 (t.l.getD j 0)) (ex_index9 rfl (q102.e (j := 125) rfl) (q102.e (j := 126) rfl) (idx8 t j hit _)) fun _ q103 => ?_;clear q102
      refine q103.t (.int .i64 ((j : Nat) : Int)) (ex_assign rfl (q103.e (j := 128) rfl)) fun _ q104 => ?_;clear q103
      refine q104.t (.int .u32 (t.l.getD j 0)) (ex_assign rfl (q104.e (j := 129) rfl)) fun _ q105 => ?_;clear q104
      have q106 := ((((((Rp.nil q105.z).cons (q105.a 0 rfl)).cons (q105.a 17 rfl)).cons (q105.a 18 rfl)).cons (q105.a 125 rfl)).cons (q105.a 126 rfl))
      clear q105
      refine wpList_nil ?_
      go_upto_region 13 with fail
      refine vg_start (fun k => k == 9) (fun v => v = wr.drew) (by kernel_rfl) ?_
      have he : Below wr.heap.size wr wr.drew := (Below.refl _ _).drew
      have hze : wr.drew.heap.size = wr.heap.size := rfl
      generalize wr.drew = e at *
      have Be := Bq.later he
      have hal := adN_len s t j
      have cj := (Be.cell (1 + j)).trans (hC_w hal hit)
      refine vg_takeW 0 true (.pointer (some ⟨q, 1, none⟩)) rfl (by kernel_rfl) (by kernel_rfl) (by kernel_rfl) (by kernel_rfl) (want_none rfl) (fun hc v => ex_move rfl (q106.e (j := 0) rfl)) rfl q106.z (by decide) (fun _ => rfl) (q106.k fun _ q107 => ?_);clear q106
      refine vg_takeW 1 true (.int .i64 ((j : Nat) : Int)) rfl (by kernel_rfl) (by kernel_rfl) (by kernel_rfl) (by kernel_rfl) (want_none rfl) (fun hc v => ex_move rfl (q107.e (j := 17) rfl)) rfl q107.z (by decide) (fun _ => rfl) (q107.k fun _ q108 => ?_);clear q107
      refine vg_takeW 2 true (.pointer (some ⟨q, 1, none⟩)) rfl (by kernel_rfl) (by kernel_rfl) (by kernel_rfl) (by kernel_rfl) (want_none rfl) (fun hc v => ex_nil rfl (q108.e (j := 130) rfl)) rfl q108.z (by decide) (fun _ => rfl) (q108.k fun _ q109 => ?_);clear q108
      refine vg_takeW 3 true (.pointer (some ⟨q, (1 + j), none⟩)) rfl (by kernel_rfl) (by kernel_rfl) (by kernel_rfl) (by kernel_rfl) (want_none rfl) (fun hc v => ex_ix rfl (q109.e (j := 132) rfl) (q109.e (j := 131) rfl) (ixA q 1 j 8 106 99 Try.underlying106 i1u hit _)) rfl q109.z (by decide) (fun _ => rfl) (q109.k fun _ q110 => ?_);clear q109
      refine vg_take 4 true (.int .u32 ((adN s t j).getD j 0)) rfl (by kernel_rfl) (by kernel_rfl) (by kernel_rfl) (by kernel_rfl) (by kernel_rfl) (by kernel_rfl) (want_none rfl) (fun hc v hv => by subst hv; exact ex_ld rfl (q110.e (j := 133) rfl) (ldU cj)) rfl q110.z (by decide) rfl (q110.k fun _ q111 => ?_);clear q110
      refine vg_takeW 5 true (.int .u32 (t.l.getD j 0)) rfl (by kernel_rfl) (by kernel_rfl) (by kernel_rfl) (by kernel_rfl) (want_none rfl) (fun hc v => ex_move rfl (q111.e (j := 18) rfl)) rfl q111.z (by decide) (fun _ => rfl) (q111.k fun _ q112 => ?_);clear q111
      refine vg_takeW 6 true (.int .u32 (ad ((adN s t j).getD j 0) (t.l.getD j 0))) rfl (by kernel_rfl) (by kernel_rfl) (by kernel_rfl) (by kernel_rfl) (want_none rfl) (fun hc v => ex_bin rfl (q112.e (j := 134) rfl) (q112.e (j := 135) rfl) (addU _ _ _ _ _)) rfl q112.z (by decide) (fun _ => rfl) (q112.k fun _ q113 => ?_);clear q112
      refine vg_takeW 7 true (.pointer (some ⟨q, 1, none⟩)) rfl (by kernel_rfl) (by kernel_rfl) (by kernel_rfl) (by kernel_rfl) (want_none rfl) (fun hc v => ex_nil rfl (q113.e (j := 130) rfl)) rfl q113.z (by decide) (fun _ => rfl) (q113.k fun _ q114 => ?_);clear q113
      refine vg_takeW 8 true (.pointer (some ⟨q, (1 + j), none⟩)) rfl (by kernel_rfl) (by kernel_rfl) (by kernel_rfl) (by kernel_rfl) (want_none rfl) (fun hc v => ex_ix rfl (q114.e (j := 137) rfl) (q114.e (j := 131) rfl) (ixA q 1 j 8 106 99 Try.underlying106 i1u hit _)) rfl q114.z (by decide) (fun _ => rfl) (q114.k fun _ q115 => ?_);clear q114
      obtain ⟨d2, hd2⟩ : ∃ z, z = e.setCell ⟨q, 1 + j, none⟩ (.int .u32 (ad ((adN s t j).getD j 0) (t.l.getD j 0))) := ⟨_, rfl⟩
      refine vg_store 9 d2 rfl (by kernel_rfl) (by kernel_rfl) (want_none rfl) (ex_st rfl (q115.e (j := 138) rfl) (q115.e (j := 136) rfl) (by rw [hd2]; exact stU cj (Be.free _))) rfl ?_
      have Bf : BB d2 q 109 (hC m (adN s t (j + 1)) R n) := by
        have := Be.set1 (1 + j) (.int .u32 (ad ((adN s t j).getD j 0) (t.l.getD j 0)))
        rw [hC_setw hal hit] at this
        rw [hd2]
        exact this
      have uf : Upd (fun k => k = q) w d2 := (uw.trans18 (Upd.of_below he) (fun _ _ h => h)).trans18 (by rw [hd2]; exact upd1 _ _ _ _) (fun _ _ h => h)
      clear hd2
      refine vg_done (by kernel_rfl) ?_
      have q116 := ((((Rp.nil q115.z).cons (q115.a 0 rfl)).cons (q115.a 125 rfl)).cons (q115.a 126 rfl))
      clear q115
      go_upto_region 14 with fail
      refine wp_region_lit ?_
      refine q116.t (.int .i64 ((j + 1 : Nat) : Int)) (ex_bin rfl (q116.e (j := 126) rfl) rfl (add1C _ _ j (by omega) _)) fun _ q117 => ?_;clear q116
      refine q117.t (.int .i64 ((j + 1 : Nat) : Int)) (ex_move rfl (q117.e (j := 139) rfl)) fun _ q118 => ?_;clear q117
      have q119 := ((((Rp.nil q118.z).cons (q118.a 0 rfl)).cons (q118.a 125 rfl)).cons (q118.a 126 rfl))
      clear q118
      refine wpList_nil ?_
      exact ⟨_, rfl, hit, q119, Bf, uf⟩
    · obtain rfl : j = 8 := by omega
      go_upto_region 11 with fail
      refine wp_region_lit ?_
      refine q100.t (.bool false) (ex_bin rfl (q100.e (j := 126) rfl) rfl (ltF _ _ hit _)) fun _ q101 => ?_;clear q100
      refine wpList_nil ?_
      subst ht
      rw [adN_8] at Bq
      go_upto_if 127 with fail
      refine wp_cond_false (q101.e (j := 127) rfl) ?_
      go_wp2
      go_end0
      exact ⟨rfl, Bq, uw⟩
set_option maxHeartbeats 2000000 in
theorem hash_any (q : Nat) (m : Bool) (s : St) (R : List Int) (n : Int) (w : World) (hB : BB w q 109 (hC m s.l R n)) :
    Calls Try.prog 91 #[.pointer (some ⟨q, 1, none⟩)] w fun e w' => e = .returned (.agg ((outB s).map bV).toArray) ∧ Below w.heap.size w w' := by
  go_enter Try.func91, Try.ntmps91
  go_upto_region 0 with fail
  refine wp_region_lit ?_
  refine vl_gen (fun T => Rp T 24 [(0, gw true (.pointer (some ⟨q, 1, none⟩)))]) ((Rp.nil rfl).cons rfl) (fun Z0 q0 => ?_)
  obtain ⟨w1, hw1⟩ : ∃ y, y = w.alloc (.cells ((List.replicate 32 (0 : Int)).map bV).toArray 24) := ⟨_, rfl⟩
  refine vw (.pointer (some ⟨w.heap.size, 0, none⟩)) w1 (want_none rfl) (ex_al rfl (by rw [hw1]; exact alH _)) rfl q0.z (by decide) (q0.k fun _ q1 => ?_);clear q0
  have Bw1 : BB w1 w.heap.size 24 ((List.replicate 32 (0 : Int)).map bV) := by rw [hw1]; exact BB.new _ _ _
  have bw1 : Below w.heap.size w w1 := by rw [hw1]; exact (Below.refl _ _).alloc (Nat.le_refl _) _
  have zw1 : w1.heap.size = w.heap.size + 1 := by rw [hw1]; exact World.size_alloc _ _
  clear hw1
  refine wpList_nil ?_
  go_upto_region 1 with fail
  refine wp_region_lit ?_
  obtain ⟨w2, hw2⟩ : ∃ y, y = w1.alloc (.cells ((List.replicate 32 (0 : Int)).map bV).toArray 24) := ⟨_, rfl⟩
  refine vw (.pointer (some ⟨w1.heap.size, 0, none⟩)) w2 (want_none rfl) (ex_al rfl (by rw [hw2]; exact alH _)) rfl q1.z (by decide) (q1.k fun _ q2 => ?_);clear q1
  have Bw2 : BB w2 w1.heap.size 24 ((List.replicate 32 (0 : Int)).map bV) := by rw [hw2]; exact BB.new _ _ _
  have bw2 : Below w1.heap.size w1 w2 := by rw [hw2]; exact (Below.refl _ _).alloc (Nat.le_refl _) _
  have zw2 : w2.heap.size = w1.heap.size + 1 := by rw [hw2]; exact World.size_alloc _ _
  clear hw2
  refine wpList_nil ?_
  go_upto_region 2 with fail
  refine wp_region_lit ?_
  refine q2.t (.int .i64 ((0 : Nat) : Int)) (ex_move rfl rfl) fun _ q3 => ?_;clear q2
  have q4 := (((((Rp.nil q3.z).cons (q3.a 0 rfl)).cons (q3.a 2 rfl)).cons (q3.a 3 rfl)).cons (q3.a 5 rfl))
  clear q3
  refine wpList_nil ?_
  go_upto_region 3 with fail
  have Bq2 := Bw1.later bw2
  have bw : Below w.heap.size w w2 := bw1.trans (bw2.mono (by omega))
  have hql := hB.lt
  refine v_loop 5 32 (fun j T wr => Rp T 24 [(5, gw true (.int .i64 ((j : Nat) : Int))), (3, gw true (.pointer (some ⟨w1.heap.size, 0, none⟩))), (2, gw true (.pointer (some ⟨w.heap.size, 0, none⟩))), (0, gw true (.pointer (some ⟨q, 1, none⟩)))] ∧ Hid (BB wr w1.heap.size 24 ((oS s j).map bV) ∧ BB wr w.heap.size 24 ((List.replicate 32 (0 : Int)).map bV) ∧ Below w.heap.size w wr)) (fun j T w h => h.1.a 5 rfl) ⟨q4, Bw2, Bq2, bw⟩ ?_
  clear q4 Bw2 Bq2
  intro j T wr hj hh
  obtain ⟨q100, HJ⟩ := hh
  obtain ⟨B3, B2, br⟩ := HJ.out
  clear HJ
  have zr := br.size
  by_cases hit : j < 32
  · have Bq := hB.later br
    have hl := oS_len s j
    have cj := B3.v9 (j := j) (by omega)
    have h4 : j / 4 < 8 := by omega
    go_upto_region 3 with fail
    refine wp_region_lit ?_
    refine q100.t (.bool true) (ex_bin rfl (q100.e (j := 5) rfl) rfl (ltT _ _ hit _)) fun _ q101 => ?_;clear q100
    refine wpList_nil ?_
    go_upto_region 4 with fail
    refine wp_cond_true (q101.e (j := 6) rfl) ?_
    go_upto_region 4 with fail
    refine wp_region_lit ?_
    refine q101.t (.int .i64 ((j : Nat) : Int)) (ex_move rfl (q101.e (j := 5) rfl)) fun _ q102 => ?_;clear q101
    refine q102.t (.int .i64 ((j : Nat) : Int)) (ex_assign rfl (q102.e (j := 7) rfl)) fun _ q103 => ?_;clear q102
    refine wpList_nil ?_
    go_upto_region 5 with fail
    refine wp_region_lit ?_
    refine q103.t (.int .i64 ((j : Nat) : Int)) (ex_move rfl (q103.e (j := 4) rfl)) fun _ q104 => ?_;clear q103
    refine q104.t (.pointer (some ⟨q, 1, none⟩)) (ex_move rfl (q104.e (j := 0) rfl)) fun _ q105 => ?_;clear q104
    refine q105.t (.int .i64 ((j : Nat) : Int)) (ex_move rfl (q105.e (j := 4) rfl)) fun _ q106 => ?_;clear q105
    refine q106.t (.int .i64 ((j / 4 : Nat) : Int)) (ex_bin rfl (q106.e (j := 10) rfl) rfl (quoC _ _ j 4 (by decide) (by omega) _)) fun _ q107 => ?_;clear q106
    refine q107.t (.pointer (some ⟨q, 1, none⟩)) (ex_nil rfl (q107.e (j := 9) rfl)) fun _ q108 => ?_;clear q107
    refine q108.t (.pointer (some ⟨q, (1 + j / 4), none⟩)) (ex_ix rfl (q108.e (j := 12) rfl) (q108.e (j := 11) rfl) (ixA q 1 (j / 4) 8 106 99 Try.underlying106 i1u h4 _)) fun _ q109 => ?_;clear q108
    refine q109.t (.int .u32 (s.l.getD (j / 4) 0)) (ex_ld rfl (q109.e (j := 13) rfl) (ldU ((Bq.cell (1 + j / 4)).trans (hC_w rfl h4)))) fun _ q110 => ?_;clear q109
    refine q110.t (.int .i64 ((j : Nat) : Int)) (ex_move rfl (q110.e (j := 4) rfl)) fun _ q111 => ?_;clear q110
    refine q111.t (.int .i64 ((j % 4 : Nat) : Int)) (ex_bin rfl (q111.e (j := 15) rfl) rfl (remC _ _ j 4 (by decide) (by omega) _)) fun _ q112 => ?_;clear q111
    refine q112.t (.int .i64 ((8 * (j % 4) : Nat) : Int)) (ex_bin rfl rfl (q112.e (j := 16) rfl) (mulC9 _ _ 8 (j % 4) (by omega) _)) fun _ q113 => ?_;clear q112
    refine q113.t (.int .i64 ((24 - 8 * (j % 4) : Nat) : Int)) (ex_bin rfl rfl (q113.e (j := 17) rfl) (subC9 _ _ 24 (8 * (j % 4)) (by omega) (by omega) _)) fun _ q114 => ?_;clear q113
    refine q114.t (.int .u32 (s.l.getD (j / 4) 0 / 2 ^ (24 - 8 * (j % 4)))) (ex_bin rfl (q114.e (j := 14) rfl) (q114.e (j := 18) rfl) (shrUi64 _ _ _ (24 - 8 * (j % 4)) (by omega) _)) fun _ q115 => ?_;clear q114
    refine q115.t (.int .u8 (IntKind.u8.wrap (s.l.getD (j / 4) 0 / 2 ^ (24 - 8 * (j % 4))))) (ex_cv19 rfl (q115.e (j := 19) rfl) (cv32_8 _ _)) fun _ q116 => ?_;clear q115
    refine q116.t (.pointer (some ⟨w1.heap.size, j, none⟩)) (ex_ix rfl (q116.e (j := 3) rfl) (q116.e (j := 8) rfl) (ixA0 w1.heap.size j 32 24 5 Try.underlying24 i1b hit _)) fun _ q117 => ?_;clear q116
    obtain ⟨d2, hd2⟩ : ∃ z, z = wr.setCell ⟨w1.heap.size, j, none⟩ (.int .u8 (IntKind.u8.wrap (s.l.getD (j / 4) 0 / 2 ^ (24 - 8 * (j % 4))))) := ⟨_, rfl⟩
    refine vs d2 (want_none rfl) (ex_st rfl (q117.e (j := 21) rfl) (q117.e (j := 20) rfl) (by rw [hd2]; exact st8 cj (B3.free _))) rfl ?_
    have B3e : BB d2 w1.heap.size 24 ((oS s (j + 1)).map bV) := by rw [hd2]; exact B3.setv _ _
    have ue : Upd (fun k => k = w1.heap.size) wr d2 := by rw [hd2]; exact upd1 _ _ _ _
    have B2e := B2.upd ue (by omega)
    have be : Below w.heap.size w d2 := br.trans (bel_ge ue (by omega) (by omega))
    clear hd2
    have q118 := (((((Rp.nil q117.z).cons (q117.a 0 rfl)).cons (q117.a 2 rfl)).cons (q117.a 3 rfl)).cons (q117.a 5 rfl))
    clear q117
    refine wpList_nil ?_
    go_upto_region 6 with fail
    refine wp_region_lit ?_
    refine q118.t (.int .i64 ((j + 1 : Nat) : Int)) (ex_bin rfl (q118.e (j := 5) rfl) rfl (add1C _ _ j (by omega) _)) fun _ q119 => ?_;clear q118
    refine q119.t (.int .i64 ((j + 1 : Nat) : Int)) (ex_move rfl (q119.e (j := 22) rfl)) fun _ q120 => ?_;clear q119
    have q121 := (((((Rp.nil q120.z).cons (q120.a 0 rfl)).cons (q120.a 2 rfl)).cons (q120.a 3 rfl)).cons (q120.a 5 rfl))
    clear q120
    refine wpList_nil ?_
    exact ⟨_, rfl, hit, q121, B3e, B2e, be⟩
  · obtain rfl : j = 32 := by omega
    rw [oS_32] at B3
    go_upto_region 3 with fail
    refine wp_region_lit ?_
    refine q100.t (.bool false) (ex_bin rfl (q100.e (j := 5) rfl) rfl (ltF _ _ hit _)) fun _ q101 => ?_;clear q100
    refine wpList_nil ?_
    go_upto_region 7 with fail
    refine wp_cond_false (q101.e (j := 6) rfl) ?_
    go_upto_region 7 with fail
    refine wp_region_lit ?_
    have hm : ((outB s).map bV).length = 32 := by rw [len_bV]; rfl
    refine q101.t (.agg ((outB s).map bV).toArray) (ex_ld rfl (q101.e (j := 3) rfl) (B3.ld 24 Try.underlying24 rfl (by rw [hm]; exact i32h))) fun _ q102 => ?_;clear q101
    obtain ⟨w9, hw9⟩ : ∃ y, y = wr.setCells w.heap.size 0 ((outB s).map bV) := ⟨_, rfl⟩
    refine vs w9 (want_none rfl) (ex_st rfl (q102.e (j := 2) rfl) (q102.e (j := 23) rfl) (by rw [hw9]; exact B2.st 24 _ (by rw [hm]; rfl) (by rw [List.size_toArray, hm]; exact i32h) (one_b _))) rfl ?_
    have B9 : BB w9 w.heap.size 24 ((outB s).map bV) := by rw [hw9]; exact B2.whole _ (by rw [hm]; rfl)
    have b9 : Below w.heap.size w w9 := by rw [hw9]; exact br.trans (bel_ge (upd18 _ _ _ _) br.size (Nat.le_refl _))
    clear hw9
    refine wpList_nil ?_
    go_wp2
    exact B9.res rfl (q102.a 2 rfl) Try.underlying24 rfl (by rw [hm]; exact i32h) ⟨rfl, b9⟩
end Go.Proofs.Ytfafhlahbhopaaa
namespace Go.Proofs.Ytfafhlahbhopaaa
open Go.RowKit Go.Maps
open Classical
def HI (w : World) (q : Nat) (B : List Int) : Prop := ∃ R : List Int, BB w q 109 (hC true (stF B).l R (B.length : Int)) ∧ R.length = 64 ∧ R.take (B.length % 64) = rem9 B
theorem HI.later {w w' : World} {q : Nat} {B : List Int} (h : HI w q B) (hb : Below w.heap.size w w') : HI w' q B := by
  obtain ⟨R, h1, h2, h3⟩ := h
  exact ⟨R, h1.later hb, h2, h3⟩
theorem HI.lt {w : World} {q : Nat} {B : List Int} (h : HI w q B) : q < w.heap.size := by
  obtain ⟨R, h1, h2, h3⟩ := h
  exact h1.lt
theorem copyN19 {P : Program} (w : World) (dT sT ty elem : TypeId) (k : Nat) (d a : Option Addr) (dn dc c : Nat)
    (hu : P.underlying dT = some (.slice elem)) (hs : (P.info? elem).map (·.size) = some k) :
    (Builtin.copy_ #[dT, sT] ty #[.slice d dn dc, .slice a 0 c]).run P w = .ok (goInt 0) w := by
  cases hq : P.info? elem with
  | none => simp [hq] at hs
  | some i =>
    have hi : i.size = k := by simpa [hq] using hs
    cases a <;> cases d <;> simp [Builtin.copy_, run_underlying hu, Builtin.lenOf, Builtin.firstCells, sizeOf, typeInfo, hq, hi, loadCells, loadCellsFrom, storeCells]
theorem copyM19 {P : Program} (w : World) (dT sT ty elem : TypeId) (g off dLen dCap : Nat) (a : Addr) (sLen sCap : Nat) (cur : Array Value) (t : TypeId) (cs : List Value)
    (hu : P.underlying dT = some (.slice elem)) (hs : (P.info? elem).map (·.size) = some 1)
    (hg : w.heap[g]? = some (.cells cur t (0, 0))) (hn : cs.length = min sLen dLen)
    (hsrc : ∀ j v, cs[j]? = some v → w.cell? (a.add j) = some v) (hfit : off + cs.length ≤ cur.size) (h1 : ∀ v ∈ cs, v.oneCell' = true) :
    (Builtin.copy_ #[dT, sT] ty #[.slice (some ⟨g, off, none⟩) dLen dCap, .slice (some a) sLen sCap]).run P w =
      .ok (goInt (min sLen dLen : Nat)) (w.setRow g (cur.toList.take off ++ cs ++ cur.toList.drop (off + cs.length)).toArray) := by
  have hl := run_loadCells_list (P := P) w a cs hsrc
  have hst := run_storeCells_at (P := P) g off t cs 0 cur w hg (by omega) h1
  rw [Nat.add_zero] at hst
  have hmin : min dLen sLen = min sLen dLen := Nat.min_comm _ _
  cases hq : P.info? elem with
  | none => simp [hq] at hs
  | some i =>
    have hi : i.size = 1 := by simpa [hq] using hs
    rw [hn] at hl
    simp [Builtin.copy_, run_underlying hu, Builtin.lenOf, Builtin.firstCells, sizeOf, typeInfo, hq, hi, hl, hst, hmin]
theorem hC_put {m : Bool} {W R X : List Int} {n : Int} (hW : W.length = 8) (o : Nat) (h : o + X.length ≤ R.length) : (hC m W R n).take (9 + o) ++ X.map bV ++ (hC m W R n).drop (9 + o + (X.map bV).length) = hC m W (R.take o ++ X ++ R.drop (o + X.length)) n := by
  have e : hC m W R n = (.bool m :: W.map uV) ++ ((R.map bV) ++ [.int .i64 n]) := by simp [hC]
  have l9 : (Value.bool m :: W.map uV).length = 9 := by simp [hW]
  rw [e, show 9 + o = (Value.bool m :: W.map uV).length + o by rw [l9], List.take_length_add_append, Nat.add_assoc, List.drop_length_add_append, List.length_map, List.take_append_of_le_length (by rw [List.length_map]; omega), List.drop_append_of_le_length (by rw [List.length_map]; omega)]
  simp [hC, List.map_take, List.map_drop]
theorem copyH {w : World} {q : Nat} {m : Bool} {W R : List Int} {n : Int} (hB : BB w q 109 (hC m W R n)) (hW : W.length = 8) (hR : R.length = 64) (o dn dc : Nat) (hd : o + dn ≤ 64) (ty : TypeId) {a : Option Addr} {c : Nat} {b : List Int} (h : SlY yB9 w a b.length c b) :
    ∃ w', (Builtin.copy_ #[71, 71] ty #[.slice (some ⟨q, 9 + o, none⟩) dn dc, .slice a b.length c]).run Try.prog w = .ok (.int .i64 ((min b.length dn : Nat) : Int)) w' ∧ BB w' q 109 (hC m W (R.take o ++ b.take dn ++ R.drop (o + (b.take dn).length)) n) ∧ Upd (fun k => k = q) w w' := by
  by_cases hb : b = []
  · subst hb
    refine ⟨w, ?_, ?_, Upd.refl _ _⟩
    · have := copyN19 (P := Try.prog) w 71 71 ty 5 1 (some ⟨q, 9 + o, none⟩) a dn dc c Try.underlying71 i1b
      rw [List.length_nil, Nat.zero_min]
      exact this
    · rw [List.take_nil, List.append_nil, List.length_nil, Nat.add_zero, List.take_append_drop]
      exact hB
  · obtain ⟨q2, o2, rfl, hq2, hl⟩ := h.place hb
    have hlen : ((b.take dn).map bV).length = min b.length dn := by rw [List.length_map, List.length_take, Nat.min_comm]
    have hc74 := hC_len (m := m) (n := n) hW hR
    have := copyM19 (P := Try.prog) w 71 71 ty 5 q (9 + o) dn dc ⟨q2, o2, none⟩ b.length c _ _ ((b.take dn).map bV) Try.underlying71 i1b hB hlen (fun j v hv => by
      rw [List.getElem?_map, List.getElem?_take] at hv
      split at hv
      · cases hx : b[j]? with
        | none => rw [hx] at hv; cases hv
        | some x =>
          rw [hx] at hv
          obtain rfl := Option.some.inj hv
          have := hl j x hx 0 _ rfl
          simpa [yB9, Addr.add_lit, bV] using this
      · cases hv) (by rw [hlen, List.size_toArray, hc74]; omega) (fun v hv => by
      obtain ⟨x, _, rfl⟩ := List.mem_map.1 hv
      rfl)
    refine ⟨_, this, ?_, ⟨rfl, rfl, rfl, by simp [World.setRow], fun k hk hn => setRow_other w q k _ hn⟩⟩
    unfold BB
    rw [setRow_heap w q _ _ _ _ hB, List.toList_toArray, hC_put hW o (by rw [List.length_take]; omega)]
theorem BB.rest {w : World} {q : Nat} {m : Bool} {W R : List Int} {n : Int} (hB : BB w q 109 (hC m W R n)) (hW : W.length = 8) (hR : R.length = 64) : SlY yB9 w (some ⟨q, 9, none⟩) 64 64 R := by
  refine ⟨hR, Nat.le_refl _, by unfold maxLen; decide, (fun e => by cases e), fun x hx => .inr ⟨q, 9, (Option.some.inj hx).symm, hB.lt, fun i x hx j v hv => ?_⟩⟩
  obtain ⟨hi, rfl⟩ := List.getElem?_eq_some_iff.1 hx
  have hj : j = 0 := by
    cases j with
    | zero => rfl
    | succ j => simp [yB9] at hv
  subst hj
  obtain rfl : Value.int .u8 R[i] = v := by simpa [yB9] using hv
  have := (hB.cell (9 + i)).trans (hC_r hW hi)
  rw [List.getD_eq_getElem?_getD, List.getElem?_eq_getElem hi] at this
  simpa [yB9] using this
theorem setCells_at {q : Nat} {T : TypeId} : ∀ (vs : List Value) (o : Nat) (w : World) (cs : List Value), BB w q T cs → o + vs.length ≤ cs.length → BB (w.setCells q o vs) q T (cs.take o ++ vs ++ cs.drop (o + vs.length))
  | [], o, w, cs, h, _ => by simpa [World.setCells] using h
  | v :: r, o, w, cs, h, hl => by
    simp only [List.length_cons] at hl
    have := setCells_at r (o + 1) _ _ (h.set1 o v) (by rw [List.length_set]; omega)
    have e : (cs.set o v).take (o + 1) ++ r ++ (cs.set o v).drop (o + 1 + r.length) = cs.take o ++ (v :: r) ++ cs.drop (o + (v :: r).length) := by
      rw [List.drop_set_of_lt (by omega), List.take_set, List.length_cons, show o + 1 + r.length = o + (r.length + 1) by omega]
      congr 1
      rw [List.take_succ_eq_append_getElem (by omega), List.set_append_right _ _ (by rw [List.length_take]; omega), List.length_take, Nat.min_eq_left (by omega), Nat.sub_self]
      simp
    rw [e] at this
    exact this
theorem stRest {w : World} {q : Nat} {m : Bool} {W R Z : List Int} {n : Int} (hB : BB w q 109 (hC m W R n)) (hW : W.length = 8) (hR : R.length = 64) (hZ : Z.length = 64) : (Instr.storeAt 107 (.pointer (some ⟨q, 9, none⟩)) (.agg (Z.map bV).toArray)).run Try.prog w = .ok () (w.setCells q 9 (Z.map bV)) ∧ BB (w.setCells q 9 (Z.map bV)) q 109 (hC m W Z n) := by
  have hc74 := hC_len (m := m) (n := n) hW hR
  have hz : (Z.map bV).length = 64 := by rw [len_bV, hZ]
  refine ⟨?_, ?_⟩
  · exact run_storeAt_mid (P := Try.prog) w q 9 107 (Z.map bV).toArray (fun j hj => ⟨by rw [hB.cell, List.getElem?_eq_getElem (by rw [hc74]; rw [List.size_toArray, hz] at hj; omega)]; rfl, hB.free _⟩) (by rw [List.size_toArray, hz]; exact i64b) (one_b _)
  · have := setCells_at (Z.map bV) 9 w _ hB (by rw [hz, hc74]; omega)
    rw [show (9 : Nat) = 9 + 0 from rfl, hC_put hW 0 (by omega), List.take_zero, List.nil_append, List.drop_of_length_le (by omega), List.append_nil] at this
    exact this
theorem faH (q k o : Nat) (hk : (k = 0 ∧ o = 0) ∨ (k = 1 ∧ o = 1) ∨ (k = 2 ∧ o = 9) ∨ (k = 3 ∧ o = 73)) (w : World) : (Instr.fieldAt 109 (.pointer (some ⟨q, 0, none⟩)) k).run Try.prog w = .ok (.pointer (some ⟨q, o, none⟩)) w := by
  rcases hk with ⟨rfl, rfl⟩ | ⟨rfl, rfl⟩ | ⟨rfl, rfl⟩ | ⟨rfl, rfl⟩
  · go_simp
  · go_simp
  · go_simp
  · go_simp
def adB (q o c k : Nat) : Addr := if c = k then ⟨q, o, none⟩ else ⟨q, o + k, none⟩
theorem slFromB (q o n c k : Nat) (h1 : k ≤ n) (h2 : n ≤ c) (w : World) : (Instr.sliceAt 71 (.slice (some ⟨q, o, none⟩) n c) (some (.int .i64 (k : Int))) none none).run Try.prog w = .ok (.slice (some (adB q o c k)) (n - k) (c - k)) w := by
  have e1 : (0 : Int) ≤ (k : Int) := by omega
  have e2 : (k : Int) ≤ (n : Int) := by omega
  have e3 : (n : Int) ≤ (c : Int) := by omega
  unfold adB
  by_cases h : c = k
  · subst h
    go_simp
    first | done | simp
  · rw [if_neg h]
    go_simp
    first | done | simp [h]
theorem slToB (q o n c k : Nat) (h1 : k ≤ n) (h2 : k ≤ c) (w : World) : (Instr.sliceAt 71 (.slice (some ⟨q, o, none⟩) n c) none (some (.int .i64 (k : Int))) none).run Try.prog w = .ok (.slice (some ⟨q, o, none⟩) k c) w := by
  have e1 : (0 : Int) ≤ (k : Int) := by omega
  have e2 : (k : Int) ≤ (c : Int) := by omega
  go_simp
theorem slRest (q at_ : Nat) (h : at_ < 64) (w : World) : (Instr.sliceAt 107 (.pointer (some ⟨q, 9, none⟩)) (some (.int .i64 (at_ : Int))) none none).run Try.prog w = .ok (.slice (some ⟨q, 9 + at_, none⟩) (64 - at_) (64 - at_)) w := by
  have e1 : (0 : Int) ≤ (at_ : Int) := by omega
  have e2 : (at_ : Int) ≤ 64 := by omega
  have e3 : ¬ 64 = at_ := by omega
  go_simp
  first | done | simp [e3]
theorem slAll (q : Nat) (w : World) : (Instr.sliceAt 107 (.pointer (some ⟨q, 9, none⟩)) none none none).run Try.prog w = .ok (.slice (some ⟨q, 9, none⟩) 64 64) w := by go_simp
theorem ex_sl19 {o : Oper} {ρ : Operand → Value} {s : TypeId} {x : Operand} {lo hi mx : Option Operand} {X V : Value} {l h m : Option Value} {w : World} (ho : o.op = .slice s x lo hi mx) (hx : ρ x = X) (hl : lo.map ρ = l) (hh : hi.map ρ = h) (hm : mx.map ρ = m) (hr : (Instr.sliceAt s X l h m).run Try.prog w = .ok V w) : (execOp ρ o).run Try.prog w = .ok (.value V) w := by
  unfold execOp
  simp only [ho, hx, hl, hh, hm]
  simp [hr]
theorem SlY.from9 {w : World} {q o n c : Nat} {D : List Int} (h : SlY yB9 w (some ⟨q, o, none⟩) n c D) (k : Nat) (hk : k ≤ n) : SlY yB9 w (some (adB q o c k)) (n - k) (c - k) (D.drop k) := by
  refine ⟨by rw [List.length_drop, h.len], by have := h.cap; omega, by have := h.max; omega, (fun e => by cases e), fun x hx => ?_⟩
  obtain rfl := Option.some.inj hx
  by_cases hd : D.drop k = []
  · exact .inl hd
  · refine .inr ?_
    have hlt : k < D.length := by
      rcases Nat.lt_or_ge k D.length with h2 | h2
      · exact h2
      · exact absurd (List.drop_eq_nil_of_le h2) hd
    obtain ⟨q', o', e, hq, hl⟩ := h.place (by rintro rfl; simp at hlt)
    obtain ⟨rfl, rfl⟩ : q = q' ∧ o = o' := by simpa using e
    have hne : ¬ c = k := by have := h.cap; have := h.len; omega
    refine ⟨q, o + k, by rw [adB, if_neg hne], hq, fun i y hy j v hv => ?_⟩
    rw [List.getElem?_drop] at hy
    have := hl (k + i) y hy j v hv
    rw [show o + (k + i) * yB9.k + j = o + k + i * yB9.k + j by show o + (k + i) * 1 + j = o + k + i * 1 + j; omega] at this
    exact this
def lenV : Value → Nat
  | .slice _ n _ => n
  | _ => 0
theorem v_loopM {c : Code} {Q : Exit → Act → World → Prop} {T0 : Array Value} {w0 : World} (x : Nat) (I : Nat → Array Value → World → Prop) (hx : ∀ r T w, I r T w → lenV (T.getD x undef) = r) {r0 : Nat} (h0 : I r0 T0 w0)
    (round : ∀ r T w, I r T w → c.wp Try.prog (Exit.then (fun a' w' => ∃ T' r', a' = ⟨T', []⟩ ∧ r' < r ∧ I r' T' w') Q) ⟨T, []⟩ w) : (Code.loop c).wp Try.prog Q ⟨T0, []⟩ w0 := by
  refine wp_loop (fun a w => ∃ r T, a = ⟨T, []⟩ ∧ I r T w) (fun a w => lenV (a.tmps.getD x undef)) ⟨r0, T0, rfl, h0⟩ ?_
  rintro a w ⟨r, T, rfl, hI⟩
  refine Code.wp_mono (fun e a' w' h => ?_) (round r T w hI)
  cases e with
  | normal =>
    obtain ⟨T', r', rfl, hr, hI'⟩ := h
    refine ⟨⟨r', T', rfl, hI'⟩, ?_⟩
    show lenV (T'.getD x undef) < lenV (T.getD x undef)
    rw [hx _ _ _ hI', hx _ _ _ hI]
    exact hr
  | _ => exact h
def JT (B b : List Int) (q : Nat) (w : World) (T : Array Value) (w' : World) (r : Nat) : Prop :=
  ∃ (a : Option Addr) (c : Nat) (P D R : List Int), Rp T 65 [(1, gw true (.slice a r c)), (0, gw true (.pointer (some ⟨q, 0, none⟩)))] ∧ Hid (r = D.length ∧ b = P ++ D ∧ (B ++ P).length % 64 = 0 ∧ BB w' q 109 (hC true (stF (B ++ P)).l R ((B.length + b.length : Nat) : Int)) ∧ R.length = 64 ∧ SlY yB9 w' a D.length c D ∧ (∀ z, a = some z → D ≠ [] → z.block ≠ q) ∧ Upd (fun k => k = q) w w')
theorem Rp.get {T : Array Value} {n : Nat} {L : List (Nat × Value)} (h : Rp T n L) {j : Nat} {v : Value} (e : look L j = some (gw true v)) : T.getD j undef = v := getD_of (h.at_ j _ e)
set_option maxHeartbeats 2000000 in
theorem take19 (q : Nat) (B b : List Int) (a : Option Addr) (c : Nat) (w : World) (hB : HI w q B) (h : SlY yB9 w a b.length c b) (hnq : ∀ z, a = some z → b ≠ [] → z.block ≠ q) (hl : B.length + b.length < 4611686018427387904) :
    Calls Try.prog 70 #[.pointer (some ⟨q, 0, none⟩), .slice a b.length c] w fun e w' => e = .returned (.tuple #[]) ∧ HI w' q (B ++ b) ∧ Upd (fun k => k = q) w w' := by
  go_enter Try.func70, Try.ntmps70
  go_upto_region 0 with fail
  refine wp_region_lit ?_
  refine vl_gen (fun T => Rp T 65 [(1, gw true (.slice a b.length c)), (0, gw true (.pointer (some ⟨q, 0, none⟩)))]) (((Rp.nil rfl).cons rfl).cons rfl) (fun Z0 q0 => ?_)
  have hql := hB.lt
  obtain ⟨R, hB, hR, hRt⟩ := hB
  have hat : B.length % 64 < 64 := Nat.mod_lt _ (by decide)
  have cn := (hB.cell 73).trans (hC_n (St.len _) hR)
  refine q0.t (.pointer (some ⟨q, 0, none⟩)) (ex_move rfl (q0.e (j := 0) rfl)) fun _ q1 => ?_;clear q0
  refine q1.t (.pointer (some ⟨q, 0, none⟩)) (ex_nil rfl (q1.e (j := 6) rfl)) fun _ q2 => ?_;clear q1
  refine q2.t (.pointer (some ⟨q, 73, none⟩)) (ex_fa rfl (q2.e (j := 7) rfl) (faH q 3 73 (by decide) _)) fun _ q3 => ?_;clear q2
  refine q3.t (.int .i64 ((B.length : Nat) : Int)) (ex_ld rfl (q3.e (j := 8) rfl) (ldI18 cn)) fun _ q4 => ?_;clear q3
  refine q4.t (.int .i64 ((B.length % 64 : Nat) : Int)) (ex_bin rfl (q4.e (j := 9) rfl) rfl (remC _ _ B.length 64 (by decide) (by omega) _)) fun _ q5 => ?_;clear q4
  refine q5.t (.int .i64 ((B.length % 64 : Nat) : Int)) (ex_assign rfl (q5.e (j := 10) rfl)) fun _ q6 => ?_;clear q5
  refine wpList_nil ?_
  go_upto_region 1 with fail
  refine wp_region_lit ?_
  refine q6.t (.pointer (some ⟨q, 0, none⟩)) (ex_move rfl (q6.e (j := 0) rfl)) fun _ q7 => ?_;clear q6
  refine q7.t (.pointer (some ⟨q, 0, none⟩)) (ex_nil rfl (q7.e (j := 11) rfl)) fun _ q8 => ?_;clear q7
  refine q8.t (.pointer (some ⟨q, 73, none⟩)) (ex_fa rfl (q8.e (j := 12) rfl) (faH q 3 73 (by decide) _)) fun _ q9 => ?_;clear q8
  refine q9.t (.int .i64 ((B.length : Nat) : Int)) (ex_ld rfl (q9.e (j := 13) rfl) (ldI18 cn)) fun _ q10 => ?_;clear q9
  refine q10.t (.slice a b.length c) (ex_move rfl (q10.e (j := 1) rfl)) fun _ q11 => ?_;clear q10
  refine q11.t (.int .i64 ((b.length : Nat) : Int)) (ex_lenG rfl rfl Try.underlying71 (q11.e (j := 15) rfl)) fun _ q12 => ?_;clear q11
  refine q12.t (.int .i64 (((B.length + b.length) : Nat) : Int)) (ex_bin rfl (q12.e (j := 14) rfl) (q12.e (j := 16) rfl) (addC9 _ _ B.length b.length (by omega) _)) fun _ q13 => ?_;clear q12
  refine q13.t (.pointer (some ⟨q, 0, none⟩)) (ex_nil rfl (q13.e (j := 11) rfl)) fun _ q14 => ?_;clear q13
  refine q14.t (.pointer (some ⟨q, 73, none⟩)) (ex_fa rfl (q14.e (j := 18) rfl) (faH q 3 73 (by decide) _)) fun _ q15 => ?_;clear q14
  obtain ⟨w1, hw1⟩ : ∃ z, z = w.setCell ⟨q, 73, none⟩ (.int .i64 (((B.length + b.length) : Nat) : Int)) := ⟨_, rfl⟩
  refine vs w1 (want_none rfl) (ex_st rfl (q15.e (j := 19) rfl) (q15.e (j := 17) rfl) (by rw [hw1]; exact stI18 cn (hB.free _))) rfl ?_
  have B1 : BB w1 q 109 (hC true (stF B).l R (((B.length + b.length) : Nat) : Int)) := by
    have := hB.set1 73 (.int .i64 (((B.length + b.length) : Nat) : Int))
    rw [hC_setn (St.len _) hR] at this
    rw [hw1]
    exact this
  have u1 : Upd (fun k => k = q) w w1 := by rw [hw1]; exact upd1 _ _ _ _
  clear hw1 cn
  have s1 : SlY yB9 w1 a b.length c b := h.upd u1 (fun z hz hne => hnq z hz hne)
  have q16 := ((((Rp.nil q15.z).cons (q15.a 0 rfl)).cons (q15.a 1 rfl)).cons (q15.a 4 rfl))
  clear q15
  refine wpList_nil ?_
  go_upto_region 2 with fail
  refine wp_region_lit ?_
  refine q16.t (.int .i64 ((B.length % 64 : Nat) : Int)) (ex_move rfl (q16.e (j := 4) rfl)) fun _ q17 => ?_;clear q16
  refine q17.t (.bool (decide (0 < ((B.length % 64 : Nat) : Int)))) (ex_bin rfl (q17.e (j := 20) rfl) rfl (gtrC _ _ _ _ _)) fun _ q18 => ?_;clear q17
  have q19 := (((((Rp.nil q18.z).cons (q18.a 0 rfl)).cons (q18.a 1 rfl)).cons (q18.a 4 rfl)).cons (q18.a 21 rfl))
  clear q18
  refine wpList_nil ?_
  go_upto_if 21 with fail
  refine v_cut18 (fun T w2 => ∃ r, JT B b q w T w2 r) ?_ ?_
  · by_cases hz : B.length % 64 = 0
    · have q19x := q19.a 21 rfl
      rw [decide_eq_false (by omega)] at q19x
      refine wp_cond_false (ev q19x rfl) ?_
      go_wp2
      have q20 := (((Rp.nil q19.z).cons (q19.a 0 rfl)).cons (q19.a 1 rfl))
      clear q19
      exact ⟨_, rfl, b.length, a, c, [], b, R, q20, rfl, rfl, by rw [List.append_nil]; exact hz, by rw [List.append_nil]; exact B1, hR, s1, hnq, u1⟩
    · have q19x := q19.a 21 rfl
      rw [decide_eq_true (by omega)] at q19x
      refine wp_cond_true (ev q19x rfl) ?_
      obtain ⟨o, ho⟩ : ∃ o, o = B.length % 64 := ⟨_, rfl⟩
      rw [← ho] at q19 hRt hat
      clear q19x
      go_upto_region 3 with fail
      refine wp_region_lit ?_
      refine q19.t (.pointer (some ⟨q, 0, none⟩)) (ex_move rfl (q19.e (j := 0) rfl)) fun _ q20 => ?_;clear q19
      refine q20.t (.pointer (some ⟨q, 0, none⟩)) (ex_nil rfl (q20.e (j := 22) rfl)) fun _ q21 => ?_;clear q20
      refine q21.t (.pointer (some ⟨q, 9, none⟩)) (ex_fa rfl (q21.e (j := 23) rfl) (faH q 2 9 (by decide) _)) fun _ q22 => ?_;clear q21
      refine q22.t (.int .i64 ((o : Nat) : Int)) (ex_move rfl (q22.e (j := 4) rfl)) fun _ q23 => ?_;clear q22
      refine q23.t (.slice (some ⟨q, 9 + o, none⟩) (64 - o) (64 - o)) (ex_sl19 rfl (q23.e (j := 24) rfl) (congrArg some (q23.e (j := 25) rfl)) rfl rfl (slRest q o hat _)) fun _ q24 => ?_;clear q23
      refine q24.t (.slice a b.length c) (ex_move rfl (q24.e (j := 1) rfl)) fun _ q25 => ?_;clear q24
      obtain ⟨w2, hcp, B2, u2⟩ := copyH B1 (St.len _) hR o (64 - o) (64 - o) (by omega) 3 s1
      have hbt : (b.take (64 - o)).length = min b.length (64 - o) := by rw [List.length_take, Nat.min_comm]
      have s2 : SlY yB9 w2 a b.length c b := s1.upd u2 (fun z hz hne => hnq z hz hne)
      have uw2 : Upd (fun k => k = q) w w2 := u1.trans18 u2 (fun _ _ h => h)
      refine vw (.int .i64 ((min b.length (64 - o) : Nat) : Int)) w2 (want_none rfl) (ex_copy18 rfl (q25.e (j := 26) rfl) (q25.e (j := 27) rfl) hcp) rfl q25.z (by decide) (q25.k fun _ q26 => ?_);clear q25
      refine q26.t (.int .i64 ((min b.length (64 - o) : Nat) : Int)) (ex_assign rfl (q26.e (j := 28) rfl)) fun _ q27 => ?_;clear q26
      have q28 := (((((Rp.nil q27.z).cons (q27.a 0 rfl)).cons (q27.a 1 rfl)).cons (q27.a 4 rfl)).cons (q27.a 5 rfl))
      clear q27
      refine wpList_nil ?_
      go_upto_region 4 with fail
      refine wp_region_lit ?_
      refine q28.t (.int .i64 ((o : Nat) : Int)) (ex_move rfl (q28.e (j := 4) rfl)) fun _ q29 => ?_;clear q28
      refine q29.t (.int .i64 ((min b.length (64 - o) : Nat) : Int)) (ex_move rfl (q29.e (j := 5) rfl)) fun _ q30 => ?_;clear q29
      refine q30.t (.int .i64 ((o + min b.length (64 - o) : Nat) : Int)) (ex_bin rfl (q30.e (j := 29) rfl) (q30.e (j := 30) rfl) (addC9 _ _ o (min b.length (64 - o)) (by omega) _)) fun _ q31 => ?_;clear q30
      refine q31.t (.bool (decide (((o + min b.length (64 - o) : Nat) : Int) < 64))) (ex_bin rfl (q31.e (j := 31) rfl) rfl (lssC _ _ _ _ _)) fun _ q32 => ?_;clear q31
      have q33 := ((((((Rp.nil q32.z).cons (q32.a 0 rfl)).cons (q32.a 1 rfl)).cons (q32.a 4 rfl)).cons (q32.a 5 rfl)).cons (q32.a 32 rfl))
      clear q32
      refine wpList_nil ?_
      by_cases hs : o + b.length < 64
      · have q33x := q33.a 32 rfl
        rw [decide_eq_true (by omega)] at q33x
        go_upto_if 32 with fail
        refine wp_cond_true (ev q33x rfl) ?_
        go_wp2
        refine bodyPost_ret (results_none rfl _ _ _) rfl ?_
        refine ⟨rfl, ⟨R.take o ++ b.take (64 - o) ++ R.drop (o + (b.take (64 - o)).length), ?_, ?_, ?_⟩, uw2⟩
        · rw [(stF_less B b (by omega)).1, List.length_append]
          exact B2
        · simp only [List.length_append, List.length_take, List.length_drop]
          omega
        · rw [(stF_less B b (by omega)).2, List.length_append, ← hRt, List.take_of_length_le (show b.length ≤ 64 - o by omega)]
          have e1 : (B.length + b.length) % 64 = (R.take o ++ b).length := by rw [List.length_append, List.length_take]; omega
          rw [e1, List.take_left]
      · have hK : min b.length (64 - o) = 64 - o := by omega
        rw [hK] at q33
        have q33x := q33.a 32 rfl
        rw [decide_eq_false (by omega)] at q33x
        have hb1 : (b.take (64 - o)).length = 64 - o := by omega
        rw [hb1, List.drop_of_length_le (show R.length ≤ o + (64 - o) by omega), List.append_nil] at B2
        obtain ⟨R2, hR2⟩ : ∃ R2, R2 = R.take o ++ b.take (64 - o) := ⟨_, rfl⟩
        have hR2l : R2.length = 64 := by rw [hR2, List.length_append, List.length_take, hb1]; omega
        rw [← hR2] at B2
        have hst : stF (B ++ b.take (64 - o)) = blkF (stF B) R2 := by
          rw [stF_fill B _ (by omega), hR2, hRt]
        go_upto_region 5 with fail
        refine wp_cond_false (ev q33x rfl) ?_
        clear q33x
        have q34 := ((((Rp.nil q33.z).cons (q33.a 0 rfl)).cons (q33.a 1 rfl)).cons (q33.a 5 rfl))
        clear q33
        go_upto_region 5 with fail
        refine vg_start (fun _ => false) (fun _ => True) (by kernel_rfl) ?_
        have hd : Below w2.heap.size w2 w2.drew := (Below.refl _ _).drew
        have hzd : w2.drew.heap.size = w2.heap.size := rfl
        generalize w2.drew = d at *
        have B2d := B2.later hd
        have s2d := s2.later hd
        have ud : Upd (fun k => k = q) w d := uw2.trans18 (Upd.of_below hd) (fun _ _ h => h)
        refine vg_takeW 0 true (.pointer (some ⟨q, 0, none⟩)) rfl (by kernel_rfl) (by kernel_rfl) (by kernel_rfl) (by kernel_rfl) (want_none rfl) (fun hc v => ex_move rfl (q34.e (j := 0) rfl)) rfl q34.z (by decide) (fun _ => trivial) (q34.k fun _ q35 => ?_);clear q34
        refine vg_takeW 1 true (.pointer (some ⟨q, 0, none⟩)) rfl (by kernel_rfl) (by kernel_rfl) (by kernel_rfl) (by kernel_rfl) (want_none rfl) (fun hc v => ex_nil rfl (q35.e (j := 33) rfl)) rfl q35.z (by decide) (fun _ => trivial) (q35.k fun _ q36 => ?_);clear q35
        refine vg_takeW 2 true (.pointer (some ⟨q, 1, none⟩)) rfl (by kernel_rfl) (by kernel_rfl) (by kernel_rfl) (by kernel_rfl) (want_none rfl) (fun hc v => ex_fa rfl (q36.e (j := 34) rfl) (faH q 1 1 (by decide) _)) rfl q36.z (by decide) (fun _ => trivial) (q36.k fun _ q37 => ?_);clear q36
        refine vg_takeW 3 true (.pointer (some ⟨q, 0, none⟩)) rfl (by kernel_rfl) (by kernel_rfl) (by kernel_rfl) (by kernel_rfl) (want_none rfl) (fun hc v => ex_move rfl (q37.e (j := 0) rfl)) rfl q37.z (by decide) (fun _ => trivial) (q37.k fun _ q38 => ?_);clear q37
        refine vg_takeW 4 true (.pointer (some ⟨q, 0, none⟩)) rfl (by kernel_rfl) (by kernel_rfl) (by kernel_rfl) (by kernel_rfl) (want_none rfl) (fun hc v => ex_nil rfl (q38.e (j := 36) rfl)) rfl q38.z (by decide) (fun _ => trivial) (q38.k fun _ q39 => ?_);clear q38
        refine vg_takeW 5 true (.pointer (some ⟨q, 9, none⟩)) rfl (by kernel_rfl) (by kernel_rfl) (by kernel_rfl) (by kernel_rfl) (want_none rfl) (fun hc v => ex_fa rfl (q39.e (j := 37) rfl) (faH q 2 9 (by decide) _)) rfl q39.z (by decide) (fun _ => trivial) (q39.k fun _ q40 => ?_);clear q39
        refine vg_takeW 6 true (.slice (some ⟨q, 9, none⟩) 64 64) rfl (by kernel_rfl) (by kernel_rfl) (by kernel_rfl) (by kernel_rfl) (want_none rfl) (fun hc v => ex_sl19 rfl (q40.e (j := 38) rfl) rfl rfl rfl (slAll q _)) rfl q40.z (by decide) (fun _ => trivial) (q40.k fun _ q41 => ?_);clear q40
        refine vg_call 7 rfl (by kernel_rfl) (want_none rfl) (ex_call rfl (by simp only [List.map_toArray, List.map_cons, List.map_nil, (q41.e (j := 35) rfl), (q41.e (j := 39) rfl), evc] <;> rfl) rfl) (mix_any q true (stF B) R2 _ R2 (some ⟨q, 9, none⟩) 64 d B2d (B2d.rest (St.len _) hR2l) hR2l) rfl q41.z (by decide) ?_
        rintro e d2 ⟨rfl, B3, u3⟩
        refine ⟨_, rfl, trivial, q41.k fun _ q42 => ?_⟩;clear q41
        have ud2 : Upd (fun k => k = q) w d2 := ud.trans18 u3 (fun _ _ h => h)
        have s3 : SlY yB9 d2 a b.length c b := s2d.upd u3 (fun z hz hne => hnq z hz hne)
        refine vg_done (by kernel_rfl) ?_
        have q43 := ((((Rp.nil q42.z).cons (q42.a 0 rfl)).cons (q42.a 1 rfl)).cons (q42.a 5 rfl))
        clear q42
        go_upto_region 6 with fail
        refine wp_region_lit ?_
        refine q43.t (.pointer (some ⟨q, 0, none⟩)) (ex_move rfl (q43.e (j := 0) rfl)) fun _ q44 => ?_;clear q43
        refine q44.t (.agg ((List.replicate 64 (0 : Int)).map bV).toArray) (ex_build rfl (by kernel_rfl)) fun _ q45 => ?_;clear q44
        refine q45.t (.pointer (some ⟨q, 0, none⟩)) (ex_nil rfl (q45.e (j := 41) rfl)) fun _ q46 => ?_;clear q45
        refine q46.t (.pointer (some ⟨q, 9, none⟩)) (ex_fa rfl (q46.e (j := 43) rfl) (faH q 2 9 (by decide) _)) fun _ q47 => ?_;clear q46
        obtain ⟨hst2, B4⟩ := stRest B3 (St.len _) hR2l (Z := List.replicate 64 0) (by simp)
        obtain ⟨d3, hd3⟩ : ∃ z, z = d2.setCells q 9 ((List.replicate 64 (0 : Int)).map bV) := ⟨_, rfl⟩
        rw [← hd3] at hst2 B4
        have u4 : Upd (fun k => k = q) d2 d3 := by rw [hd3]; exact upd18 _ _ _ _
        clear hd3
        have ud3 : Upd (fun k => k = q) w d3 := ud2.trans18 u4 (fun _ _ h => h)
        have s4 : SlY yB9 d3 a b.length c b := s3.upd u4 (fun z hz hne => hnq z hz hne)
        refine vs d3 (want_none rfl) (ex_st rfl (q47.e (j := 44) rfl) (q47.e (j := 42) rfl) hst2) rfl ?_
        have q48 := ((((Rp.nil q47.z).cons (q47.a 0 rfl)).cons (q47.a 1 rfl)).cons (q47.a 5 rfl))
        clear q47
        refine wpList_nil ?_
        go_upto_region 7 with fail
        refine wp_region_lit ?_
        refine q48.t (.slice a b.length c) (ex_move rfl (q48.e (j := 1) rfl)) fun _ q49 => ?_;clear q48
        refine q49.t (.int .i64 ((64 - o : Nat) : Int)) (ex_move rfl (q49.e (j := 5) rfl)) fun _ q50 => ?_;clear q49
        obtain ⟨qa, oa, hqa, hqal, _⟩ := s4.place (by rintro rfl; simp at hs; omega)
        subst hqa
        have hcap := s4.cap
        refine q50.t (.slice (some (adB qa oa c (64 - o))) (b.length - (64 - o)) (c - (64 - o))) (ex_sl19 rfl (q50.e (j := 45) rfl) (congrArg some (q50.e (j := 46) rfl)) rfl rfl (slFromB qa oa b.length c (64 - o) (by omega) hcap _)) fun _ q51 => ?_;clear q50
        refine q51.t (.slice (some (adB qa oa c (64 - o))) (b.length - (64 - o)) (c - (64 - o))) (ex_assign rfl (q51.e (j := 47) rfl)) fun _ q52 => ?_;clear q51
        have q53 := (((Rp.nil q52.z).cons (q52.a 0 rfl)).cons (q52.a 1 rfl))
        clear q52
        refine wpList_nil ?_
        have s5 := s4.from9 (64 - o) (by omega)
        have hdl : (b.drop (64 - o)).length = b.length - (64 - o) := List.length_drop ..
        rw [← hst] at B4
        exact ⟨_, rfl, _, _, _, b.take (64 - o), b.drop (64 - o), _, q53, hdl.symm, (List.take_append_drop _ _).symm, by rw [List.length_append, hb1]; omega, B4, by simp, by rw [hdl]; exact s5, fun z hz hne => by obtain rfl := Option.some.inj hz; have := hnq _ rfl (by rintro rfl; simp at hne); show (adB qa oa c (64 - o)).block ≠ q; unfold adB; split <;> exact this, ud3⟩
  · rintro T w2 ⟨r0, hJ⟩
    go_upto_region 8 with fail
    refine v_loopM 1 (fun r T w2 => JT B b q w T w2 r) (fun r T w2 hh => by obtain ⟨a, c, P, D, R, h1, _⟩ := hh; rw [h1.get rfl]; rfl) hJ ?_
    clear hJ
    intro r T w2 hh
    obtain ⟨a2, c2, P, D, R2, q100, HJ⟩ := hh
    obtain ⟨rfl, hPD, hm, B2, hR2, s2, hn2, u2⟩ := HJ.out
    clear HJ
    have hpl : b.length = P.length + D.length := by rw [hPD, List.length_append]
    have hm2 := hm
    rw [List.length_append] at hm2
    by_cases hit : 64 ≤ D.length
    · go_upto_region 8 with fail
      refine wp_region_lit ?_
      refine q100.t (.slice a2 D.length c2) (ex_move rfl (q100.e (j := 1) rfl)) fun _ q101 => ?_;clear q100
      refine q101.t (.int .i64 ((D.length : Nat) : Int)) (ex_lenG rfl rfl Try.underlying71 (q101.e (j := 48) rfl)) fun _ q102 => ?_;clear q101
      refine q102.t (.bool (decide ((64 : Int) ≤ ((D.length : Nat) : Int)))) (ex_bin rfl (q102.e (j := 49) rfl) rfl (geqC _ _ _ _ _)) fun _ q103 => ?_;clear q102
      refine wpList_nil ?_
      have q103x := q103.a 50 rfl
      rw [decide_eq_true (by omega)] at q103x
      obtain ⟨qa, oa, hqa, hqal, _⟩ := s2.place (by rintro rfl; simp at hit)
      subst hqa
      have hcap := s2.cap
      have hnqa := hn2 _ rfl (by rintro rfl; simp at hit)
      go_upto_region 9 with fail
      refine wp_cond_true (ev q103x rfl) ?_
      clear q103x
      have q104 := (((Rp.nil q103.z).cons (q103.a 0 rfl)).cons (q103.a 1 rfl))
      clear q103
      go_upto_region 9 with fail
      refine vg_start (fun _ => false) (fun _ => True) (by kernel_rfl) ?_
      have hd : Below w2.heap.size w2 w2.drew := (Below.refl _ _).drew
      have hzd : w2.drew.heap.size = w2.heap.size := rfl
      generalize w2.drew = d at *
      have B2d := B2.later hd
      have s2d := s2.later hd
      have ud : Upd (fun k => k = q) w d := u2.trans18 (Upd.of_below hd) (fun _ _ h => h)
      have h64 : (D.take 64).length = 64 := by rw [List.length_take]; omega
      refine vg_takeW 0 true (.pointer (some ⟨q, 0, none⟩)) rfl (by kernel_rfl) (by kernel_rfl) (by kernel_rfl) (by kernel_rfl) (want_none rfl) (fun hc v => ex_move rfl (q104.e (j := 0) rfl)) rfl q104.z (by decide) (fun _ => trivial) (q104.k fun _ q105 => ?_);clear q104
      refine vg_takeW 1 true (.pointer (some ⟨q, 0, none⟩)) rfl (by kernel_rfl) (by kernel_rfl) (by kernel_rfl) (by kernel_rfl) (want_none rfl) (fun hc v => ex_nil rfl (q105.e (j := 51) rfl)) rfl q105.z (by decide) (fun _ => trivial) (q105.k fun _ q106 => ?_);clear q105
      refine vg_takeW 2 true (.pointer (some ⟨q, 1, none⟩)) rfl (by kernel_rfl) (by kernel_rfl) (by kernel_rfl) (by kernel_rfl) (want_none rfl) (fun hc v => ex_fa rfl (q106.e (j := 52) rfl) (faH q 1 1 (by decide) _)) rfl q106.z (by decide) (fun _ => trivial) (q106.k fun _ q107 => ?_);clear q106
      refine vg_takeW 3 true (.slice (some ⟨qa, oa, none⟩) D.length c2) rfl (by kernel_rfl) (by kernel_rfl) (by kernel_rfl) (by kernel_rfl) (want_none rfl) (fun hc v => ex_move rfl (q107.e (j := 1) rfl)) rfl q107.z (by decide) (fun _ => trivial) (q107.k fun _ q108 => ?_);clear q107
      refine vg_takeW 4 true (.slice (some ⟨qa, oa, none⟩) 64 c2) rfl (by kernel_rfl) (by kernel_rfl) (by kernel_rfl) (by kernel_rfl) (want_none rfl) (fun hc v => ex_sl19 rfl (q108.e (j := 54) rfl) rfl rfl rfl (slToB qa oa D.length c2 64 hit (by omega) _)) rfl q108.z (by decide) (fun _ => trivial) (q108.k fun _ q109 => ?_);clear q108
      refine vg_call 5 rfl (by kernel_rfl) (want_none rfl) (ex_call rfl (by simp only [List.map_toArray, List.map_cons, List.map_nil, (q109.e (j := 53) rfl), (q109.e (j := 55) rfl), evc] <;> rfl) rfl) (mix_any q true (stF (B ++ P)) R2 _ (D.take 64) (some ⟨qa, oa, none⟩) c2 d B2d (s2d.take 64 hit) h64) rfl q109.z (by decide) ?_
      rintro e d2 ⟨rfl, B3, u3⟩
      refine ⟨_, rfl, trivial, q109.k fun _ q110 => ?_⟩;clear q109
      have ud2 : Upd (fun k => k = q) w d2 := ud.trans18 u3 (fun _ _ h => h)
      have s3 : SlY yB9 d2 (some ⟨qa, oa, none⟩) D.length c2 D := s2d.upd u3 (fun z hz hne => hn2 z hz hne)
      refine vg_done (by kernel_rfl) ?_
      have q111 := (((Rp.nil q110.z).cons (q110.a 0 rfl)).cons (q110.a 1 rfl))
      clear q110
      go_upto_region 10 with fail
      refine wp_region_lit ?_
      refine q111.t (.slice (some ⟨qa, oa, none⟩) D.length c2) (ex_move rfl (q111.e (j := 1) rfl)) fun _ q112 => ?_;clear q111
      refine q112.t (.slice (some (adB qa oa c2 64)) (D.length - 64) (c2 - 64)) (ex_sl19 rfl (q112.e (j := 57) rfl) rfl rfl rfl (slFromB qa oa D.length c2 64 hit hcap _)) fun _ q113 => ?_;clear q112
      refine q113.t (.slice (some (adB qa oa c2 64)) (D.length - 64) (c2 - 64)) (ex_assign rfl (q113.e (j := 58) rfl)) fun _ q114 => ?_;clear q113
      have q115 := (((Rp.nil q114.z).cons (q114.a 0 rfl)).cons (q114.a 1 rfl))
      clear q114
      refine wpList_nil ?_
      have s5 := s3.from9 64 hit
      have hdl : (D.drop 64).length = D.length - 64 := List.length_drop ..
      have hst : stF (B ++ (P ++ D.take 64)) = blkF (stF (B ++ P)) (D.take 64) := by rw [← List.append_assoc]; exact stF_block _ _ hm h64
      rw [← hst] at B3
      exact ⟨_, D.length - 64, rfl, by omega, _, _, P ++ D.take 64, D.drop 64, R2, q115, hdl.symm, by rw [List.append_assoc, List.take_append_drop]; exact hPD, by rw [List.length_append, List.length_append, h64]; omega, B3, hR2, by rw [hdl]; exact s5, fun z hz hne => by obtain rfl := Option.some.inj hz; show (adB qa oa c2 64).block ≠ q; unfold adB; split <;> exact hnqa, ud2⟩
    · go_upto_region 8 with fail
      refine wp_region_lit ?_
      refine q100.t (.slice a2 D.length c2) (ex_move rfl (q100.e (j := 1) rfl)) fun _ q101 => ?_;clear q100
      refine q101.t (.int .i64 ((D.length : Nat) : Int)) (ex_lenG rfl rfl Try.underlying71 (q101.e (j := 48) rfl)) fun _ q102 => ?_;clear q101
      refine q102.t (.bool (decide ((64 : Int) ≤ ((D.length : Nat) : Int)))) (ex_bin rfl (q102.e (j := 49) rfl) rfl (geqC _ _ _ _ _)) fun _ q103 => ?_;clear q102
      refine wpList_nil ?_
      have q103x := q103.a 50 rfl
      rw [decide_eq_false (by omega)] at q103x
      go_upto_region 11 with fail
      refine wp_cond_false (ev q103x rfl) ?_
      clear q103x
      go_upto_region 11 with fail
      refine wp_region_lit ?_
      refine q103.t (.pointer (some ⟨q, 0, none⟩)) (ex_move rfl (q103.e (j := 0) rfl)) fun _ q104 => ?_;clear q103
      refine q104.t (.pointer (some ⟨q, 0, none⟩)) (ex_nil rfl (q104.e (j := 59) rfl)) fun _ q105 => ?_;clear q104
      refine q105.t (.pointer (some ⟨q, 9, none⟩)) (ex_fa rfl (q105.e (j := 60) rfl) (faH q 2 9 (by decide) _)) fun _ q106 => ?_;clear q105
      refine q106.t (.slice (some ⟨q, 9, none⟩) 64 64) (ex_sl19 rfl (q106.e (j := 61) rfl) rfl rfl rfl (slAll q _)) fun _ q107 => ?_;clear q106
      refine q107.t (.slice a2 D.length c2) (ex_move rfl (q107.e (j := 1) rfl)) fun _ q108 => ?_;clear q107
      obtain ⟨w3, hcp, B3, u3⟩ := copyH B2 (St.len _) hR2 0 64 64 (by omega) 3 s2
      have uw3 : Upd (fun k => k = q) w w3 := u2.trans18 u3 (fun _ _ h => h)
      refine vw (.int .i64 ((min D.length 64 : Nat) : Int)) w3 (want_none rfl) (ex_copy18 rfl (q108.e (j := 62) rfl) (q108.e (j := 63) rfl) hcp) rfl q108.z (by decide) (q108.k fun _ q109 => ?_);clear q108
      refine wpList_nil ?_
      go_wp2
      go_end0
      rw [List.take_of_length_le (show D.length ≤ 64 by omega), List.take_zero, List.nil_append, Nat.zero_add] at B3
      have e0 : B ++ b = (B ++ P) ++ D := by rw [hPD, List.append_assoc]
      have hls := stF_less (B ++ P) D (by omega)
      have hrm : rem9 (B ++ P) = [] := List.eq_nil_of_length_eq_zero (by rw [rem_len]; exact hm)
      refine ⟨rfl, ⟨D ++ R2.drop D.length, ?_, ?_, ?_⟩, uw3⟩
      · rw [e0, hls.1, ← e0, List.length_append]
        exact B3
      · rw [List.length_append, List.length_drop]
        omega
      · rw [e0, hls.2, hrm, List.nil_append, ← e0, List.length_append, show (B.length + b.length) % 64 = D.length by omega, List.take_left]
end Go.Proofs.Ytfafhlahbhopaaa
namespace Go.Proofs.Ytfafhlahbhopaaa
open Go.RowKit Go.Maps
open Classical
def fS (z : Nat) (g : Nat → Int) : Nat → List Int
  | 0 => (List.replicate 72 0).set 0 128
  | j + 1 => (fS z g j).set (1 + z + j) (g j)
theorem fS_len (z : Nat) (g : Nat → Int) : ∀ j, (fS z g j).length = 72
  | 0 => by simp [fS]
  | j + 1 => by rw [fS, List.length_set, fS_len z g j]
theorem fS_eq (z : Nat) (g : Nat → Int) (hz : z < 64) : ∀ j, j ≤ 8 → fS z g j = ([128] ++ List.replicate z 0 ++ (List.range j).map g) ++ List.replicate (71 - z - j) 0
  | 0, _ => by
    have e : (71 : Nat) = z + (71 - z) := by omega
    show (List.replicate 72 0).set 0 128 = _
    rw [show (72 : Nat) = 71 + 1 from rfl, List.replicate_succ, List.set_cons_zero]
    conv => lhs; rw [e, ← List.replicate_append_replicate]
    simp
  | j + 1, h => by
    have l1 : ([128] ++ List.replicate z 0 ++ (List.range j).map g).length = 1 + z + j := by simp; omega
    rw [fS, fS_eq z g hz j (by omega), List.set_append_right _ _ (by omega), l1, Nat.sub_self, show 71 - z - j = (71 - z - (j + 1)) + 1 by omega, List.replicate_succ, List.set_cons_zero, List.range_succ, List.map_append]
    simp
def lenG (n : Nat) (i : Nat) : Int := IntKind.u8.wrap (IntKind.u64.wrap (IntKind.u64.wrap (n : Int) * 8) / 2 ^ (56 - 8 * i))
theorem fS_fill (n : Nat) : (fS (zr n) (lenG n) 8).take (9 + zr n) = fill n := by
  have hz : zr n < 64 := Nat.mod_lt _ (by decide)
  have l1 : ([128] ++ List.replicate (zr n) 0 ++ (List.range 8).map (lenG n)).length = 9 + zr n := by simp; omega
  rw [fS_eq _ _ hz 8 (Nat.le_refl _), List.take_append_of_le_length (by omega), List.take_of_length_le (by omega)]
  rfl
theorem al72 (w : World) : (Instr.alloc 142 true (.tuple #[])).run Try.prog w = .ok (.pointer (some ⟨w.heap.size, 0, none⟩)) (w.alloc (.cells ((List.replicate 72 (0 : Int)).map bV).toArray 142)) := by kernel_rfl
theorem sl72 (q k : Nat) (h : k ≤ 72) (w : World) : (Instr.sliceAt 142 (.pointer (some ⟨q, 0, none⟩)) none (some (.int .i64 (k : Int))) none).run Try.prog w = .ok (.slice (some ⟨q, 0, none⟩) k 72) w := by
  have e1 : (0 : Int) ≤ (k : Int) := by omega
  have e2 : (k : Int) ≤ 72 := by omega
  go_simp
theorem mulQ (x y : Operand) (a : Int) (w : World) : (do eqGuard .mul 118 x y (.int .u64 a) (.int .u64 8); binOp .mul 118 (.int .u64 a) (.int .u64 8) : Sem Value).run Try.prog w = .ok (.int .u64 (IntKind.u64.wrap (a * 8))) w := by go_simp
theorem BB.sl0 {w : World} {q : Nat} {T : TypeId} {L : List Int} (h : BB w q T (L.map bV)) (hm : L.length ≤ maxLen) : SlY yB9 w (some ⟨q, 0, none⟩) L.length L.length L := by
  refine ⟨rfl, Nat.le_refl _, hm, (fun e => by cases e), fun x hx => .inr ⟨q, 0, (Option.some.inj hx).symm, h.lt, fun i x hx j v hv => ?_⟩⟩
  obtain ⟨hi, rfl⟩ := List.getElem?_eq_some_iff.1 hx
  have hj : j = 0 := by
    cases j with
    | zero => rfl
    | succ j => simp [yB9] at hv
  subst hj
  obtain rfl : Value.int .u8 L[i] = v := by simpa [yB9] using hv
  have := h.v9 hi
  rw [List.getD_eq_getElem?_getD, List.getElem?_eq_getElem hi] at this
  simpa [yB9] using this
def zB9 : Lay (SV Int) := yS Int 71 29
theorem kzB9 : zB9.Ok := kS Try.underlying29 (by kernel_rfl)
theorem ixBB (q o n c j : Nat) (hj : j < n) (w : World) : (Instr.indexAt 29 (.slice (some ⟨q, o, none⟩) n c) (.int .i64 (j : Int))).run Try.prog w = .ok (.pointer (some ⟨q, o + j, none⟩)) w := by
  have h1 : (j : Int) < (n : Int) := by omega
  go_simp
theorem ldBs {w : World} {q o : Nat} {a : Option Addr} {n c : Nat} (h : w.cell? ⟨q, o, none⟩ = some (.slice a n c)) : (Instr.loadAt 71 (.pointer (some ⟨q, o, none⟩))).run Try.prog w = .ok (.slice a n c) w := by go_simp
theorem bsBB (a : Option Addr) (n c : Nat) (w : World) : (Instr.buildSlice 29 1 #[(0, .slice a n c)]).run Try.prog w = .ok (.slice (some ⟨w.heap.size, 0, none⟩) 1 1) (w.alloc (.cells #[.slice a n c] 71)) := by go_simp
def flB (l : List (SV Int)) : List Int := l.flatMap (·.D)
theorem flB_at {l : List (SV Int)} {j : Nat} {x : SV Int} (h : l[j]? = some x) : flB (l.take (j + 1)) = flB (l.take j) ++ x.D := by
  obtain ⟨hj, rfl⟩ := List.getElem?_eq_some_iff.1 h
  unfold flB
  rw [List.take_succ_eq_append_getElem hj, List.flatMap_append, List.flatMap_cons, List.flatMap_nil, List.append_nil]
theorem flB_le (l : List (SV Int)) (j : Nat) : (flB (l.take j)).length ≤ (flB l).length := by
  conv => rhs; rw [← List.take_append_drop j l]
  unfold flB
  rw [List.flatMap_append, List.length_append]
  omega
theorem out_len (s : St) : (outB s).length = 32 := rfl
theorem sum_m (B : List Int) : ((sumF B).map bV).length = 32 := by rw [len_bV]; exact out_len _
set_option maxHeartbeats 2000000 in
theorem end19 (q : Nat) (B : List Int) (w : World) (hB : HI w q B) (hl : B.length < 4611686018427387000) :
    Calls Try.prog 71 #[.pointer (some ⟨q, 0, none⟩)] w fun e w' => e = .returned (.agg ((sumF B).map bV).toArray) ∧ Upd (fun k => k = q) w w' := by
  go_enter Try.func71, Try.ntmps71
  go_upto_region 0 with fail
  refine wp_region_lit ?_
  refine vl_gen (fun T => Rp T 46 [(0, gw true (.pointer (some ⟨q, 0, none⟩)))]) ((Rp.nil rfl).cons rfl) (fun Z0 q0 => ?_)
  have hql := hB.lt
  obtain ⟨w1, hw1⟩ : ∃ y, y = w.alloc (.cells ((List.replicate 32 (0 : Int)).map bV).toArray 24) := ⟨_, rfl⟩
  refine vw (.pointer (some ⟨w.heap.size, 0, none⟩)) w1 (want_none rfl) (ex_al rfl (by rw [hw1]; exact alH _)) rfl q0.z (by decide) (q0.k fun _ q1 => ?_);clear q0
  have Bw1 : BB w1 w.heap.size 24 ((List.replicate 32 (0 : Int)).map bV) := by rw [hw1]; exact BB.new _ _ _
  have bw1 : Below w.heap.size w w1 := by rw [hw1]; exact (Below.refl _ _).alloc (Nat.le_refl _) _
  have zw1 : w1.heap.size = w.heap.size + 1 := by rw [hw1]; exact World.size_alloc _ _
  clear hw1
  have hB1 := hB.later bw1
  obtain ⟨R, hBB, hR, hRt⟩ := hB1
  have cn := (hBB.cell 73).trans (hC_n (St.len _) hR)
  refine wpList_nil ?_
  go_upto_region 1 with fail
  refine wp_region_lit ?_
  refine q1.t (.pointer (some ⟨q, 0, none⟩)) (ex_move rfl (q1.e (j := 0) rfl)) fun _ q2 => ?_;clear q1
  refine q2.t (.pointer (some ⟨q, 0, none⟩)) (ex_nil rfl (q2.e (j := 7) rfl)) fun _ q3 => ?_;clear q2
  refine q3.t (.pointer (some ⟨q, 73, none⟩)) (ex_fa rfl (q3.e (j := 8) rfl) (faH q 3 73 (by decide) _)) fun _ q4 => ?_;clear q3
  refine q4.t (.int .i64 ((B.length : Nat) : Int)) (ex_ld rfl (q4.e (j := 9) rfl) (ldI18 cn)) fun _ q5 => ?_;clear q4
  refine q5.t (.int .u64 (IntKind.u64.wrap (B.length : Int))) (ex_cv19 rfl (q5.e (j := 10) rfl) (cvI_64 _ _)) fun _ q6 => ?_;clear q5
  refine q6.t (.int .u64 (IntKind.u64.wrap (IntKind.u64.wrap (B.length : Int) * 8))) (ex_bin rfl (q6.e (j := 11) rfl) rfl (mulQ _ _ _ _)) fun _ q7 => ?_;clear q6
  refine q7.t (.int .u64 (IntKind.u64.wrap (IntKind.u64.wrap (B.length : Int) * 8))) (ex_assign rfl (q7.e (j := 12) rfl)) fun _ q8 => ?_;clear q7
  refine wpList_nil ?_
  go_upto_region 2 with fail
  refine wp_region_lit ?_
  refine q8.t (.pointer (some ⟨q, 0, none⟩)) (ex_move rfl (q8.e (j := 0) rfl)) fun _ q9 => ?_;clear q8
  refine q9.t (.pointer (some ⟨q, 0, none⟩)) (ex_nil rfl (q9.e (j := 13) rfl)) fun _ q10 => ?_;clear q9
  refine q10.t (.pointer (some ⟨q, 73, none⟩)) (ex_fa rfl (q10.e (j := 14) rfl) (faH q 3 73 (by decide) _)) fun _ q11 => ?_;clear q10
  refine q11.t (.int .i64 ((B.length : Nat) : Int)) (ex_ld rfl (q11.e (j := 15) rfl) (ldI18 cn)) fun _ q12 => ?_;clear q11
  refine q12.t (.int .i64 ((B.length % 64 : Nat) : Int)) (ex_bin rfl (q12.e (j := 16) rfl) rfl (remC _ _ B.length 64 (by decide) (by omega) _)) fun _ q13 => ?_;clear q12
  refine q13.t (.int .i64 ((119 - B.length % 64 : Nat) : Int)) (ex_bin rfl rfl (q13.e (j := 17) rfl) (subC9 _ _ 119 (B.length % 64) (by omega) (by omega) _)) fun _ q14 => ?_;clear q13
  refine q14.t (.int .i64 ((zr B.length : Nat) : Int)) (ex_bin rfl (q14.e (j := 18) rfl) rfl (remC _ _ (119 - B.length % 64) 64 (by decide) (by omega) _)) fun _ q15 => ?_;clear q14
  refine q15.t (.int .i64 ((zr B.length : Nat) : Int)) (ex_assign rfl (q15.e (j := 19) rfl)) fun _ q16 => ?_;clear q15
  have q17 := (((((Rp.nil q16.z).cons (q16.a 0 rfl)).cons (q16.a 2 rfl)).cons (q16.a 3 rfl)).cons (q16.a 4 rfl))
  clear q16
  refine wpList_nil ?_
  go_upto_region 3 with fail
  refine wp_region_lit ?_
  have hz : zr B.length < 64 := Nat.mod_lt _ (by decide)
  obtain ⟨z, hzz9⟩ : ∃ z, z = zr B.length := ⟨_, rfl⟩
  rw [← hzz9] at q17 hz
  obtain ⟨w2, hw2⟩ : ∃ y, y = w1.alloc (.cells ((List.replicate 72 (0 : Int)).map bV).toArray 142) := ⟨_, rfl⟩
  refine vw (.pointer (some ⟨w1.heap.size, 0, none⟩)) w2 (want_none rfl) (ex_al rfl (by rw [hw2]; exact al72 _)) rfl q17.z (by decide) (q17.k fun _ q18 => ?_);clear q17
  have Bw2 : BB w2 w1.heap.size 142 ((List.replicate 72 (0 : Int)).map bV) := by rw [hw2]; exact BB.new _ _ _
  have bw2 : Below w1.heap.size w1 w2 := by rw [hw2]; exact (Below.refl _ _).alloc (Nat.le_refl _) _
  have zw2 : w2.heap.size = w1.heap.size + 1 := by rw [hw2]; exact World.size_alloc _ _
  clear hw2
  refine wpList_nil ?_
  go_upto_region 4 with fail
  refine wp_region_lit ?_
  refine q18.t (.pointer (some ⟨w1.heap.size, 0, none⟩)) (ex_ix rfl (q18.e (j := 5) rfl) rfl (ixA0 w1.heap.size 0 72 142 5 Try.underlying142 i1b (by decide) _)) fun _ q19 => ?_;clear q18
  have c0 := Bw2.v9 (j := 0) (by simp)
  obtain ⟨w3, hw3⟩ : ∃ y, y = w2.setCell ⟨w1.heap.size, 0, none⟩ (.int .u8 128) := ⟨_, rfl⟩
  refine vs w3 (want_none rfl) (ex_st rfl (q19.e (j := 20) rfl) rfl (by rw [hw3]; exact st8 c0 (Bw2.free _))) rfl ?_
  have B3 : BB w3 w1.heap.size 142 ((fS z (lenG B.length) 0).map bV) := by rw [hw3]; exact Bw2.setv _ _
  have u3 : Upd (fun k => k = w1.heap.size) w2 w3 := by rw [hw3]; exact upd1 _ _ _ _
  clear hw3
  have b3 : Below w.heap.size w w3 := (bw1.trans (bw2.mono (by omega))).trans (bel_ge u3 (by omega) (by omega))
  have B2 : BB w3 w.heap.size 24 ((List.replicate 32 (0 : Int)).map bV) := (Bw1.later bw2).upd u3 (by omega)
  have q20 := ((((((Rp.nil q19.z).cons (q19.a 0 rfl)).cons (q19.a 2 rfl)).cons (q19.a 3 rfl)).cons (q19.a 4 rfl)).cons (q19.a 5 rfl))
  clear q19
  refine wpList_nil ?_
  go_upto_region 5 with fail
  refine wp_region_lit ?_
  refine q20.t (.int .i64 ((0 : Nat) : Int)) (ex_move rfl rfl) fun _ q21 => ?_;clear q20
  have q22 := (((((((Rp.nil q21.z).cons (q21.a 0 rfl)).cons (q21.a 2 rfl)).cons (q21.a 3 rfl)).cons (q21.a 4 rfl)).cons (q21.a 5 rfl)).cons (q21.a 21 rfl))
  clear q21
  refine wpList_nil ?_
  go_upto_region 6 with fail
  refine v_loop 21 8 (fun j T wr => Rp T 46 [(21, gw true (.int .i64 ((j : Nat) : Int))), (5, gw true (.pointer (some ⟨w1.heap.size, 0, none⟩))), (4, gw true (.int .i64 ((z : Nat) : Int))), (3, gw true (.int .u64 (IntKind.u64.wrap (IntKind.u64.wrap (B.length : Int) * 8)))), (2, gw true (.pointer (some ⟨w.heap.size, 0, none⟩))), (0, gw true (.pointer (some ⟨q, 0, none⟩)))] ∧ Hid (BB wr w1.heap.size 142 ((fS z (lenG B.length) j).map bV) ∧ BB wr w.heap.size 24 ((List.replicate 32 (0 : Int)).map bV) ∧ Below w.heap.size w wr)) (fun j T w h => h.1.a 21 rfl) ⟨q22, B3, B2, b3⟩ ?_
  clear q22 B3 B2 b3 u3 Bw2 Bw1 c0
  intro j T wr hj hh
  obtain ⟨q100, HJ⟩ := hh
  obtain ⟨B3, B2, br⟩ := HJ.out
  clear HJ
  have zr2 := br.size
  have hl := fS_len z (lenG B.length) j
  by_cases hit : j < 8
  · have cj := B3.v9 (j := 1 + z + j) (by omega)
    go_upto_region 6 with fail
    refine wp_region_lit ?_
    refine q100.t (.bool true) (ex_bin rfl (q100.e (j := 21) rfl) rfl (ltT _ _ hit _)) fun _ q101 => ?_;clear q100
    refine wpList_nil ?_
    go_upto_region 7 with fail
    refine wp_cond_true (q101.e (j := 22) rfl) ?_
    go_upto_region 7 with fail
    refine wp_region_lit ?_
    refine q101.t (.int .i64 ((j : Nat) : Int)) (ex_move rfl (q101.e (j := 21) rfl)) fun _ q102 => ?_;clear q101
    refine q102.t (.int .i64 ((j : Nat) : Int)) (ex_assign rfl (q102.e (j := 23) rfl)) fun _ q103 => ?_;clear q102
    refine wpList_nil ?_
    go_upto_region 8 with fail
    refine wp_region_lit ?_
    refine q103.t (.int .i64 ((z : Nat) : Int)) (ex_move rfl (q103.e (j := 4) rfl)) fun _ q104 => ?_;clear q103
    refine q104.t (.int .i64 ((1 + z : Nat) : Int)) (ex_bin rfl rfl (q104.e (j := 24) rfl) (addC9 _ _ 1 z (by omega) _)) fun _ q105 => ?_;clear q104
    refine q105.t (.int .i64 ((j : Nat) : Int)) (ex_move rfl (q105.e (j := 6) rfl)) fun _ q106 => ?_;clear q105
    refine q106.t (.int .i64 ((1 + z + j : Nat) : Int)) (ex_bin rfl (q106.e (j := 25) rfl) (q106.e (j := 26) rfl) (addC9 _ _ (1 + z) j (by omega) _)) fun _ q107 => ?_;clear q106
    refine q107.t (.int .u64 (IntKind.u64.wrap (IntKind.u64.wrap (B.length : Int) * 8))) (ex_move rfl (q107.e (j := 3) rfl)) fun _ q108 => ?_;clear q107
    refine q108.t (.int .i64 ((j : Nat) : Int)) (ex_move rfl (q108.e (j := 6) rfl)) fun _ q109 => ?_;clear q108
    refine q109.t (.int .i64 ((8 * j : Nat) : Int)) (ex_bin rfl rfl (q109.e (j := 29) rfl) (mulC9 _ _ 8 j (by omega) _)) fun _ q110 => ?_;clear q109
    refine q110.t (.int .i64 ((56 - 8 * j : Nat) : Int)) (ex_bin rfl rfl (q110.e (j := 30) rfl) (subC9 _ _ 56 (8 * j) (by omega) (by omega) _)) fun _ q111 => ?_;clear q110
    refine q111.t (.int .u64 (IntKind.u64.wrap (IntKind.u64.wrap (B.length : Int) * 8) / 2 ^ (56 - 8 * j))) (ex_bin rfl (q111.e (j := 28) rfl) (q111.e (j := 31) rfl) (shrQi64 _ _ _ (56 - 8 * j) (by omega) _)) fun _ q112 => ?_;clear q111
    refine q112.t (.int .u8 (lenG B.length j)) (ex_cv19 rfl (q112.e (j := 32) rfl) (cv64_8 _ _)) fun _ q113 => ?_;clear q112
    refine q113.t (.pointer (some ⟨w1.heap.size, (1 + z + j), none⟩)) (ex_ix rfl (q113.e (j := 5) rfl) (q113.e (j := 27) rfl) (ixA0 w1.heap.size (1 + z + j) 72 142 5 Try.underlying142 i1b (by omega) _)) fun _ q114 => ?_;clear q113
    obtain ⟨d2, hd2⟩ : ∃ y, y = wr.setCell ⟨w1.heap.size, 1 + z + j, none⟩ (.int .u8 (lenG B.length j)) := ⟨_, rfl⟩
    refine vs d2 (want_none rfl) (ex_st rfl (q114.e (j := 34) rfl) (q114.e (j := 33) rfl) (by rw [hd2]; exact st8 cj (B3.free _))) rfl ?_
    have B3e : BB d2 w1.heap.size 142 ((fS z (lenG B.length) (j + 1)).map bV) := by rw [hd2]; exact B3.setv _ _
    have ue : Upd (fun k => k = w1.heap.size) wr d2 := by rw [hd2]; exact upd1 _ _ _ _
    have B2e := B2.upd ue (by omega)
    have be : Below w.heap.size w d2 := br.trans (bel_ge ue (by omega) (by omega))
    clear hd2
    have q115 := (((((((Rp.nil q114.z).cons (q114.a 0 rfl)).cons (q114.a 2 rfl)).cons (q114.a 3 rfl)).cons (q114.a 4 rfl)).cons (q114.a 5 rfl)).cons (q114.a 21 rfl))
    clear q114
    refine wpList_nil ?_
    go_upto_region 9 with fail
    refine wp_region_lit ?_
    refine q115.t (.int .i64 ((j + 1 : Nat) : Int)) (ex_bin rfl (q115.e (j := 21) rfl) rfl (add1C _ _ j (by omega) _)) fun _ q116 => ?_;clear q115
    refine q116.t (.int .i64 ((j + 1 : Nat) : Int)) (ex_move rfl (q116.e (j := 35) rfl)) fun _ q117 => ?_;clear q116
    have q118 := (((((((Rp.nil q117.z).cons (q117.a 0 rfl)).cons (q117.a 2 rfl)).cons (q117.a 3 rfl)).cons (q117.a 4 rfl)).cons (q117.a 5 rfl)).cons (q117.a 21 rfl))
    clear q117
    refine wpList_nil ?_
    exact ⟨_, rfl, hit, q118, B3e, B2e, be⟩
  · obtain rfl : j = 8 := by omega
    go_upto_region 6 with fail
    refine wp_region_lit ?_
    refine q100.t (.bool false) (ex_bin rfl (q100.e (j := 21) rfl) rfl (ltF _ _ hit _)) fun _ q101 => ?_;clear q100
    refine wpList_nil ?_
    go_upto_region 10 with fail
    refine wp_cond_false (q101.e (j := 22) rfl) ?_
    go_upto_region 10 with fail
    refine wp_region_lit ?_
    refine q101.t (.pointer (some ⟨q, 0, none⟩)) (ex_move rfl (q101.e (j := 0) rfl)) fun _ q102 => ?_;clear q101
    refine q102.t (.int .i64 ((z : Nat) : Int)) (ex_move rfl (q102.e (j := 4) rfl)) fun _ q103 => ?_;clear q102
    refine q103.t (.int .i64 ((1 + z : Nat) : Int)) (ex_bin rfl rfl (q103.e (j := 37) rfl) (addC9 _ _ 1 z (by omega) _)) fun _ q104 => ?_;clear q103
    refine q104.t (.int .i64 ((1 + z + 8 : Nat) : Int)) (ex_bin rfl (q104.e (j := 38) rfl) rfl (addC9 _ _ (1 + z) 8 (by omega) _)) fun _ q105 => ?_;clear q104
    refine q105.t (.slice (some ⟨w1.heap.size, 0, none⟩) (1 + z + 8) 72) (ex_sl19 rfl (q105.e (j := 5) rfl) rfl (congrArg some (q105.e (j := 39) rfl)) rfl (sl72 w1.heap.size (1 + z + 8) (by omega) _)) fun _ q106 => ?_;clear q105
    have hfl := fill_len B.length
    have sF := (B3.sl0 (by rw [hl]; unfold maxLen; decide)).take (1 + z + 8) (by rw [hl]; omega)
    rw [hl, show 1 + z + 8 = 9 + z by omega, hzz9, fS_fill] at sF
    rw [← hzz9] at hfl
    have hsl : 1 + z + 8 = (fill B.length).length := by omega
    rw [hsl] at q106
    have hzl : 9 + zr B.length = (fill B.length).length := by rw [← hzz9]; omega
    rw [hzl] at sF
    refine vcallP (want_none rfl) (ex_call rfl (by simp only [List.map_toArray, List.map_cons, List.map_nil, (q106.e (j := 36) rfl), (q106.e (j := 40) rfl), evc] <;> rfl) rfl) (take19 q B (fill B.length) (some ⟨w1.heap.size, 0, none⟩) 72 wr (hB.later br) sF (fun z0 hz0 _ => by obtain rfl := Option.some.inj hz0; show w1.heap.size ≠ q; omega) (by omega)) rfl q106.z (by decide) ?_
    rintro e v1 ⟨rfl, hI, uv⟩
    refine ⟨_, rfl, q106.k fun _ q107 => ?_⟩;clear q106
    have B2v := B2.upd uv (by omega)
    obtain ⟨R2, hB2, hR2, _⟩ := hI
    have uwv : Upd (fun k => k = q) w v1 := (Upd.of_below br).trans18 uv (fun _ _ h => h)
    have zv := uwv.size
    have q108 := (((Rp.nil q107.z).cons (q107.a 0 rfl)).cons (q107.a 2 rfl))
    clear q107
    refine wpList_nil ?_
    go_upto_region 11 with fail
    refine wp_region_lit ?_
    refine q108.t (.pointer (some ⟨q, 0, none⟩)) (ex_move rfl (q108.e (j := 0) rfl)) fun _ q109 => ?_;clear q108
    refine q109.t (.pointer (some ⟨q, 0, none⟩)) (ex_nil rfl (q109.e (j := 42) rfl)) fun _ q110 => ?_;clear q109
    refine q110.t (.pointer (some ⟨q, 1, none⟩)) (ex_fa rfl (q110.e (j := 43) rfl) (faH q 1 1 (by decide) _)) fun _ q111 => ?_;clear q110
    refine vcallP (want_none rfl) (ex_call rfl (by simp only [List.map_toArray, List.map_cons, List.map_nil, (q111.e (j := 44) rfl), evc] <;> rfl) rfl) ((hash_any q true _ R2 _ v1 hB2).mono fun e w9 h9 => (show e = .returned (.agg ((sumF B).map bV).toArray) ∧ Below v1.heap.size v1 w9 from h9)) rfl q111.z (by decide) ?_
    rintro e v2 ⟨rfl, bv⟩
    refine ⟨_, rfl, q111.k fun _ q112 => ?_⟩;clear q111
    have B2w := B2v.later bv
    have uw2 : Upd (fun k => k = q) w v2 := uwv.trans18 (Upd.of_below bv) (fun _ _ h => h)
    obtain ⟨v3, hv3⟩ : ∃ y, y = v2.setCells w.heap.size 0 ((sumF B).map bV) := ⟨_, rfl⟩
    refine vs v3 (want_none rfl) (ex_st rfl (q112.e (j := 2) rfl) (q112.e (j := 45) rfl) (by rw [hv3]; exact B2w.st 24 _ (by rw [sum_m]; rfl) (by rw [List.size_toArray, sum_m]; exact i32h) (one_b _))) rfl ?_
    have Bv3 : BB v3 w.heap.size 24 ((sumF B).map bV) := by rw [hv3]; exact B2w.whole _ (by rw [sum_m]; rfl)
    have uv3 : Upd (fun k => k = w.heap.size) v2 v3 := by rw [hv3]; exact upd18 _ _ _ _
    clear hv3
    have uw3 : Upd (fun k => k = q) w v3 := uw2.trans18 uv3 (fun i hi e => by omega)
    refine wpList_nil ?_
    go_wp2
    exact Bv3.res rfl (q112.a 2 rfl) Try.underlying24 rfl (by rw [sum_m]; exact i32h) ⟨rfl, uw3⟩
set_option maxHeartbeats 2000000 in
theorem join19 (l : List (SV Int)) (a : Option Addr) (c : Nat) (w : World) (h : SlY zB9 w a l.length c l) (hp : ∀ x ∈ l, SlY yB9 w x.a x.D.length x.c x.D) (hl : (flB l).length < 4611686018427387000) (hll : l.length < 4611686018427387000) :
    Calls Try.prog 41 #[.slice a l.length c] w fun e w' => e = .returned (.agg ((sumF (flB l)).map bV).toArray) ∧ Below w.heap.size w w' := by
  go_enter Try.func41, Try.ntmps41
  go_upto_region 0 with fail
  refine wp_region_lit ?_
  refine vl_gen (fun T => Rp T 17 [(0, gw true (.slice a l.length c))]) ((Rp.nil rfl).cons rfl) (fun Z0 q0 => ?_)
  obtain ⟨w1, hw1⟩ : ∃ y, y = w.alloc (.cells ((List.replicate 32 (0 : Int)).map bV).toArray 24) := ⟨_, rfl⟩
  refine vw (.pointer (some ⟨w.heap.size, 0, none⟩)) w1 (want_none rfl) (ex_al rfl (by rw [hw1]; exact alH _)) rfl q0.z (by decide) (q0.k fun _ q1 => ?_);clear q0
  have Bw1 : BB w1 w.heap.size 24 ((List.replicate 32 (0 : Int)).map bV) := by rw [hw1]; exact BB.new _ _ _
  have bw1 : Below w.heap.size w w1 := by rw [hw1]; exact (Below.refl _ _).alloc (Nat.le_refl _) _
  have zw1 : w1.heap.size = w.heap.size + 1 := by rw [hw1]; exact World.size_alloc _ _
  clear hw1
  refine wpList_nil ?_
  go_upto_region 1 with fail
  refine wp_region_lit ?_
  refine vcallP (want_none rfl) (ex_call (args := #[]) rfl (by simp) rfl) (fresh_any w1) rfl q1.z (by decide) ?_
  rintro e w2 ⟨rfl, bf⟩
  refine ⟨_, rfl, q1.k fun _ q2 => ?_⟩;clear q1
  have zf := bf.size
  have Bh2 := Bw1.later bf
  obtain ⟨w3, hw3⟩ : ∃ y, y = w2.alloc (.cells (hC false (List.replicate 8 0) (List.replicate 64 0) 0).toArray 109) := ⟨_, rfl⟩
  refine vw (.pointer (some ⟨w2.heap.size, 0, none⟩)) w3 (want_none rfl) (ex_al rfl (by rw [hw3]; exact alHs _)) rfl q2.z (by decide) (q2.k fun _ q3 => ?_);clear q2
  have Bw3 : BB w3 w2.heap.size 109 (hC false (List.replicate 8 0) (List.replicate 64 0) 0) := by rw [hw3]; exact BB.new _ _ _
  have bw3 : Below w2.heap.size w2 w3 := by rw [hw3]; exact (Below.refl _ _).alloc (Nat.le_refl _) _
  have zw3 : w3.heap.size = w2.heap.size + 1 := by rw [hw3]; exact World.size_alloc _ _
  clear hw3
  have Bh3 := Bh2.later bw3
  obtain ⟨w4, hw4⟩ : ∃ y, y = w3.setCells w2.heap.size 0 (hC true iv.l (List.replicate 64 0) 0) := ⟨_, rfl⟩
  refine vs w4 (want_none rfl) (ex_st rfl (q3.e (j := 3) rfl) (q3.e (j := 6) rfl) (by rw [hw4]; exact Bw3.st 109 _ rfl i74 (by kernel_rfl))) rfl ?_
  have B4 : BB w4 w2.heap.size 109 (hC true iv.l (List.replicate 64 0) 0) := by rw [hw4]; exact Bw3.whole _ rfl
  have u4 : Upd (fun k => k = w2.heap.size) w3 w4 := by rw [hw4]; exact upd18 _ _ _ _
  clear hw4 Bw3
  have Bh4 := Bh3.upd u4 (by omega)
  have b4 : Below w.heap.size w w4 := ((bw1.trans (bf.mono (by omega))).trans (bw3.mono (by omega))).trans (bel_ge u4 (by omega) (by omega))
  have I4 : HI w4 w2.heap.size (flB (l.take 0)) := by rw [List.take_zero]; exact ⟨List.replicate 64 0, B4, by simp, rfl⟩
  have q4 := ((((Rp.nil q3.z).cons (q3.a 0 rfl)).cons (q3.a 2 rfl)).cons (q3.a 3 rfl))
  clear q3
  refine wpList_nil ?_
  go_upto_region 2 with fail
  refine wp_region_lit ?_
  refine q4.t (.slice a l.length c) (ex_move rfl (q4.e (j := 0) rfl)) fun _ q5 => ?_;clear q4
  refine q5.t (.int .i64 ((l.length : Nat) : Int)) (ex_lenG rfl rfl Try.underlying29 (q5.e (j := 7) rfl)) fun _ q6 => ?_;clear q5
  refine q6.t (.int .i64 ((0 : Nat) : Int)) (ex_move rfl rfl) fun _ q7 => ?_;clear q6
  have q8 := ((((((Rp.nil q7.z).cons (q7.a 2 rfl)).cons (q7.a 3 rfl)).cons (q7.a 7 rfl)).cons (q7.a 8 rfl)).cons (q7.a 9 rfl))
  clear q7
  refine wpList_nil ?_
  go_upto_region 3 with fail
  refine v_loop 9 l.length (fun j T wr => Rp T 17 [(9, gw true (.int .i64 ((j : Nat) : Int))), (8, gw true (.int .i64 ((l.length : Nat) : Int))), (7, gw true (.slice a l.length c)), (3, gw true (.pointer (some ⟨w2.heap.size, 0, none⟩))), (2, gw true (.pointer (some ⟨w.heap.size, 0, none⟩)))] ∧ Hid (HI wr w2.heap.size (flB (l.take j)) ∧ BB wr w.heap.size 24 ((List.replicate 32 (0 : Int)).map bV) ∧ Below w.heap.size w wr)) (fun j T w h => h.1.a 9 rfl) ⟨q8, I4, Bh4, b4⟩ ?_
  clear q8 I4 Bh4 b4 B4 Bh3 Bh2 Bw1 u4
  intro j T wr hj hh
  obtain ⟨q100, HJ⟩ := hh
  obtain ⟨I, B2, br⟩ := HJ.out
  clear HJ
  have zr2 := br.size
  by_cases hit : j < l.length
  · obtain ⟨x, hx⟩ : ∃ x, l[j]? = some x := ⟨_, List.getElem?_eq_getElem hit⟩
    have hua := flB_at hx
    have hle := flB_le l (j + 1)
    rw [hua, List.length_append] at hle
    obtain ⟨qa, oa, hqa, hqal, hlie⟩ := h.place (by rintro rfl; simp at hit)
    have hcx : wr.cell? ⟨qa, oa + j, none⟩ = some (.slice x.a x.D.length x.c) := by
      have := (br.cell (p := ⟨qa, oa + j * zB9.k + 0, none⟩) hqal).trans (hlie j x hx 0 _ rfl)
      simpa [zB9, yS] using this
    have hxs := hp x (List.mem_of_getElem? hx)
    have hxr := hxs.on br (Nat.le_refl _)
    go_upto_region 3 with fail
    refine wp_region_lit ?_
    refine q100.t (.bool true) (ex_bin rfl (q100.e (j := 9) rfl) (q100.e (j := 8) rfl) (ltT _ _ hit _)) fun _ q101 => ?_;clear q100
    refine wpList_nil ?_
    go_upto_region 4 with fail
    refine wp_cond_true (q101.e (j := 10) rfl) ?_
    go_upto_region 4 with fail
    refine wp_region_lit ?_
    refine q101.t (.pointer (some ⟨qa, (oa + j), none⟩)) (ex_ix rfl (q101.e (j := 7) rfl) (q101.e (j := 9) rfl) (by rw [hqa]; exact ixBB qa oa l.length c j hit _)) fun _ q102 => ?_;clear q101
    refine q102.t (.slice x.a x.D.length x.c) (ex_ld rfl (q102.e (j := 11) rfl) (ldBs hcx)) fun _ q103 => ?_;clear q102
    refine q103.t (.slice x.a x.D.length x.c) (ex_assign rfl (q103.e (j := 12) rfl)) fun _ q104 => ?_;clear q103
    refine wpList_nil ?_
    go_upto_region 5 with fail
    refine wp_region_lit ?_
    refine q104.t (.slice x.a x.D.length x.c) (ex_move rfl (q104.e (j := 5) rfl)) fun _ q105 => ?_;clear q104
    refine vcallP (want_none rfl) (ex_call rfl (by simp only [List.map_toArray, List.map_cons, List.map_nil, (q105.e (j := 3) rfl), (q105.e (j := 13) rfl), evc] <;> rfl) rfl) (take19 w2.heap.size (flB (l.take j)) x.D x.a x.c wr I hxr (fun z hz hne => by obtain ⟨q9, o9, e9, h9, _⟩ := hxs.place hne; rw [hz] at e9; obtain rfl := Option.some.inj e9; show q9 ≠ w2.heap.size; omega) (by omega)) rfl q105.z (by decide) ?_
    rintro e v1 ⟨rfl, I2, uv⟩
    refine ⟨_, rfl, q105.k fun _ q106 => ?_⟩;clear q105
    have B3 := B2.upd uv (by omega)
    have bv : Below w.heap.size w v1 := br.trans (bel_ge uv (by omega) (by omega))
    rw [← hua] at I2
    refine wpList_nil ?_
    go_upto_region 6 with fail
    refine wp_region_lit ?_
    refine q106.t (.int .i64 ((j + 1 : Nat) : Int)) (ex_bin rfl (q106.e (j := 9) rfl) rfl (add1C _ _ j (by omega) _)) fun _ q107 => ?_;clear q106
    refine q107.t (.int .i64 ((j + 1 : Nat) : Int)) (ex_move rfl (q107.e (j := 15) rfl)) fun _ q108 => ?_;clear q107
    have q109 := ((((((Rp.nil q108.z).cons (q108.a 2 rfl)).cons (q108.a 3 rfl)).cons (q108.a 7 rfl)).cons (q108.a 8 rfl)).cons (q108.a 9 rfl))
    clear q108
    refine wpList_nil ?_
    exact ⟨_, rfl, hit, q109, I2, B3, bv⟩
  · obtain rfl : j = l.length := by omega
    rw [List.take_length] at I
    go_upto_region 3 with fail
    refine wp_region_lit ?_
    refine q100.t (.bool false) (ex_bin rfl (q100.e (j := 9) rfl) (q100.e (j := 8) rfl) (ltF _ _ hit _)) fun _ q101 => ?_;clear q100
    refine wpList_nil ?_
    go_upto_region 7 with fail
    refine wp_cond_false (q101.e (j := 10) rfl) ?_
    go_upto_region 7 with fail
    refine wp_region_lit ?_
    refine vcallP (want_none rfl) (ex_call rfl (by simp only [List.map_toArray, List.map_cons, List.map_nil, (q101.e (j := 3) rfl), evc] <;> rfl) rfl) (end19 w2.heap.size (flB l) wr I (by omega)) rfl q101.z (by decide) ?_
    rintro e v1 ⟨rfl, uv⟩
    refine ⟨_, rfl, q101.k fun _ q102 => ?_⟩;clear q101
    have B3 := B2.upd uv (by omega)
    have bv : Below w.heap.size w v1 := br.trans (bel_ge uv (by omega) (by omega))
    obtain ⟨v3, hv3⟩ : ∃ y, y = v1.setCells w.heap.size 0 ((sumF (flB l)).map bV) := ⟨_, rfl⟩
    refine vs v3 (want_none rfl) (ex_st rfl (q102.e (j := 2) rfl) (q102.e (j := 16) rfl) (by rw [hv3]; exact B3.st 24 _ (by rw [sum_m]; rfl) (by rw [List.size_toArray, sum_m]; exact i32h) (one_b _))) rfl ?_
    have Bv3 : BB v3 w.heap.size 24 ((sumF (flB l)).map bV) := by rw [hv3]; exact B3.whole _ (by rw [sum_m]; rfl)
    have uv3 : Upd (fun k => k = w.heap.size) v1 v3 := by rw [hv3]; exact upd18 _ _ _ _
    clear hv3
    have b3 : Below w.heap.size w v3 := bv.trans (bel_ge uv3 bv.size (Nat.le_refl _))
    refine wpList_nil ?_
    go_wp2
    exact Bv3.res rfl (q102.a 2 rfl) Try.underlying24 rfl (by rw [sum_m]; exact i32h) ⟨rfl, b3⟩
set_option maxHeartbeats 2000000 in
theorem sum19 (b : List Int) (a : Option Addr) (c : Nat) (w : World) (h : SlY yB9 w a b.length c b) (hl : b.length < 4611686018427387000) :
    Calls Try.prog 64 #[.slice a b.length c] w fun e w' => e = .returned (.agg ((sumF b).map bV).toArray) ∧ Below w.heap.size w w' := by
  go_enter Try.func64, Try.ntmps64
  go_upto_region 0 with fail
  refine wp_region_lit ?_
  refine vl_gen (fun T => Rp T 6 [(0, gw true (.slice a b.length c))]) ((Rp.nil rfl).cons rfl) (fun Z0 q0 => ?_)
  obtain ⟨w1, hw1⟩ : ∃ y, y = w.alloc (.cells ((List.replicate 32 (0 : Int)).map bV).toArray 24) := ⟨_, rfl⟩
  refine vw (.pointer (some ⟨w.heap.size, 0, none⟩)) w1 (want_none rfl) (ex_al rfl (by rw [hw1]; exact alH _)) rfl q0.z (by decide) (q0.k fun _ q1 => ?_);clear q0
  have Bw1 : BB w1 w.heap.size 24 ((List.replicate 32 (0 : Int)).map bV) := by rw [hw1]; exact BB.new _ _ _
  have bw1 : Below w.heap.size w w1 := by rw [hw1]; exact (Below.refl _ _).alloc (Nat.le_refl _) _
  have zw1 : w1.heap.size = w.heap.size + 1 := by rw [hw1]; exact World.size_alloc _ _
  clear hw1
  refine wpList_nil ?_
  go_upto_region 1 with fail
  refine wp_region_lit ?_
  refine q1.t (.slice a b.length c) (ex_move rfl (q1.e (j := 0) rfl)) fun _ q2 => ?_;clear q1
  obtain ⟨w2, hw2⟩ : ∃ y, y = w1.alloc (.cells #[.slice a b.length c] 71) := ⟨_, rfl⟩
  refine vw (.slice (some ⟨w1.heap.size, 0, none⟩) 1 1) w2 (want_none rfl) (ex_bs18 rfl (q2.e (j := 3) rfl) (by rw [hw2]; exact bsBB _ _ _ _)) rfl q2.z (by decide) (q2.k fun _ q3 => ?_);clear q2
  have s2 : SlY zB9 w2 (some ⟨w1.heap.size, 0, none⟩) 1 1 [⟨a, c, b⟩] := by rw [hw2]; exact sl_box (Y := zB9) w1 ⟨a, c, b⟩ 71
  have bw2 : Below w1.heap.size w1 w2 := by rw [hw2]; exact (Below.refl _ _).alloc (Nat.le_refl _) _
  clear hw2
  have z2 := bw2.size
  have hs2 := (h.on bw1 (Nat.le_refl _)).on bw2 (Nat.le_refl _)
  have e1 : flB [⟨a, c, b⟩] = b := by simp [flB]
  refine vcallP (want_none rfl) (ex_call rfl (by simp only [List.map_toArray, List.map_cons, List.map_nil, (q3.e (j := 4) rfl), evc] <;> rfl) rfl) (join19 [⟨a, c, b⟩] _ 1 w2 s2 (fun x hx => by obtain rfl := List.mem_singleton.1 hx; exact hs2) (by rw [e1]; omega) (by simp)) rfl q3.z (by decide) ?_
  rintro e v1 ⟨rfl, bv⟩
  refine ⟨_, rfl, q3.k fun _ q4 => ?_⟩;clear q3
  have B2 := (Bw1.later bw2).later bv
  have bw : Below w.heap.size w v1 := (bw1.trans (bw2.mono (by omega))).trans (bv.mono (by omega))
  rw [e1] at q4
  obtain ⟨v3, hv3⟩ : ∃ y, y = v1.setCells w.heap.size 0 ((sumF b).map bV) := ⟨_, rfl⟩
  refine vs v3 (want_none rfl) (ex_st rfl (q4.e (j := 2) rfl) (q4.e (j := 5) rfl) (by rw [hv3]; exact B2.st 24 _ (by rw [sum_m]; rfl) (by rw [List.size_toArray, sum_m]; exact i32h) (one_b _))) rfl ?_
  have Bv3 : BB v3 w.heap.size 24 ((sumF b).map bV) := by rw [hv3]; exact B2.whole _ (by rw [sum_m]; rfl)
  have uv3 : Upd (fun k => k = w.heap.size) v1 v3 := by rw [hv3]; exact upd18 _ _ _ _
  clear hv3
  have b3 : Below w.heap.size w v3 := bw.trans (bel_ge uv3 bw.size (Nat.le_refl _))
  refine wpList_nil ?_
  go_wp2
  exact Bv3.res rfl (q4.a 2 rfl) Try.underlying24 rfl (by rw [sum_m]; exact i32h) ⟨rfl, b3⟩
end Go.Proofs.Ytfafhlahbhopaaa
namespace Go.Proofs.Ytfafhlahbhopaaa
open Go.RowKit Go.Maps
open Classical
end Go.Proofs.Ytfafhlahbhopaaa
namespace Go.Proofs.Ytfafhlahbhopaaa
open Go.RowKit Go.Maps
open Classical
structure Hb (h : List Int) : Prop where
  len : h.length = 32
  in_ : ∀ x ∈ h, 0 ≤ x ∧ x < 256
theorem part_b (h : List Int) (i : Nat) (hi : i < h.length) (w : World) : (part 5 (h.map bV).toArray i).run Try.prog w = .ok (.int .u8 (h.getD i 0)) w := by
  have e1 : (isAgg 5).run Try.prog w = .ok false w := by kernel_rfl
  have e2 : (h.map bV).toArray[i]? = some (.int .u8 (h.getD i 0)) := by
    rw [List.getElem?_toArray, List.getElem?_map, List.getD_eq_getElem?_getD, List.getElem?_eq_getElem hi]
    rfl
  unfold part
  rw [Sem.run_bind, e1, Result.andThen_ok]
  simp [e2]
theorem items_b {h k : List Int} (hl : h.length = 32) (kl : k.length = 32) (d : Nat) (w : World) : ∀ is : List Nat, (∀ i ∈ is, i < 32) → (Op.eqItems (d + 1) 5 1 (h.map bV).toArray (k.map bV).toArray is).run Try.prog w = .ok (is.all fun i => h.getD i 0 == k.getD i 0) w
  | [], _ => rfl
  | i :: is, hi => by
    have h0 : i < 32 := hi i (by simp)
    rw [Op.eqItems, Nat.mul_one, Sem.run_bind, part_b h i (by omega), Result.andThen_ok, Sem.run_bind, part_b k i (by omega), Result.andThen_ok, Sem.run_bind, run_equalIn_int w d 5 .u8 .u8 _ _ Try.underlying5, Result.andThen_ok, List.all_cons]
    cases he : h.getD i 0 == k.getD i 0 with
    | false => rfl
    | true =>
      rw [if_neg (by simp), items_b hl kl d w is (fun j hj => hi j (by simp [hj])), Bool.true_and]
theorem all_eq {h k : List Int} (hl : h.length = 32) (kl : k.length = 32) : ((List.range 32).all fun i => h.getD i 0 == k.getD i 0) = decide (h = k) := by
  rw [Bool.eq_iff_iff, List.all_eq_true, decide_eq_true_eq]
  constructor
  · intro e
    apply List.ext_getElem (by omega)
    intro i h1 h2
    have := e i (List.mem_range.2 (by omega))
    rw [List.getD_eq_getElem?_getD, List.getD_eq_getElem?_getD, List.getElem?_eq_getElem h1, List.getElem?_eq_getElem h2] at this
    simpa using this
  · rintro rfl i _
    simp
theorem eqH {h k : List Int} (hl : h.length = 32) (kl : k.length = 32) (w : World) : (Op.equal 24 (.agg (h.map bV).toArray) (.agg (k.map bV).toArray)).run Try.prog w = .ok (decide (h = k)) w := by
  have hi0 := i1b
  rw [Option.map_eq_some_iff] at hi0
  obtain ⟨i, hi, _⟩ := hi0
  have hc : Try.prog.cellsOf 5 = 1 := by kernel_rfl
  have := run_equalIn_array (P := Try.prog) w 9999 (h.map bV).toArray (k.map bV).toArray Try.underlying24 hi
  rw [hc, items_b hl kl 9998 w _ (fun i hi => List.mem_range.1 hi), all_eq hl kl] at this
  exact this
theorem gdH (x y : Operand) (op : BinOp) (A B : Array Value) (w : World) (h : op = .eql ∨ op = .neq) : (eqGuard op 24 x y (.agg A) (.agg B)).run Try.prog w = .ok () w := by
  have e : (Try.prog.eqGuardType Try.prog.depth 24) = false := by kernel_rfl
  rcases h with rfl | rfl
  · unfold eqGuard
    simp [e]
  · unfold eqGuard
    simp [e]
theorem eqlH (x y : Operand) {h k : List Int} (hl : h.length = 32) (kl : k.length = 32) (w : World) : (do eqGuard .eql 24 x y (.agg (h.map bV).toArray) (.agg (k.map bV).toArray); binOp .eql 24 (.agg (h.map bV).toArray) (.agg (k.map bV).toArray) : Sem Value).run Try.prog w = .ok (.bool (decide (h = k))) w := by
  rw [Sem.run_bind, gdH x y .eql _ _ w (.inl rfl), Result.andThen_ok]
  show (do pure (.bool (← Op.equal 24 (.agg (h.map bV).toArray) (.agg (k.map bV).toArray))) : Sem Value).run Try.prog w = _
  rw [Sem.run_bind, eqH hl kl]
  rfl
theorem neqH (x y : Operand) {h k : List Int} (hl : h.length = 32) (kl : k.length = 32) (w : World) : (do eqGuard .neq 24 x y (.agg (h.map bV).toArray) (.agg (k.map bV).toArray); binOp .neq 24 (.agg (h.map bV).toArray) (.agg (k.map bV).toArray) : Sem Value).run Try.prog w = .ok (.bool (!decide (h = k))) w := by
  rw [Sem.run_bind, gdH x y .neq _ _ w (.inr rfl), Result.andThen_ok]
  show (do pure (.bool (!(← Op.equal 24 (.agg (h.map bV).toArray) (.agg (k.map bV).toArray)))) : Sem Value).run Try.prog w = _
  rw [Sem.run_bind, eqH hl kl]
  rfl
theorem ex_mk19 {o : Oper} {ρ : Operand → Value} {s : TypeId} {x y : Operand} {X Y V : Value} {w w' : World} (ho : o.op = .makeSlice s x y) (hx : ρ x = X) (hy : ρ y = Y) (hr : (Instr.makeSlice s X Y).run Try.prog w = .ok V w') : (execOp ρ o).run Try.prog w = .ok (.value V) w' := by
  unfold execOp
  simp only [ho, hx, hy, Sem.run_bind, hr, Result.andThen_ok]
  rfl
theorem cv_str {w : World} {a : Option Addr} {n c : Nat} {l : List Int} (h : SlY yB9 w a n c l) (hne : l ≠ []) : (Go.convert 71 9 (.slice a n c)).run Try.prog w = .ok (.string (strOfNums l)) w := by
  obtain ⟨q, o, rfl, _, _⟩ := h.place hne
  refine run_convert_bytes_arg w 71 5 Try.underlying71 Try.underlying5 q o n c l h.len (fun i hi => ?_) 9 Try.underlying9
  obtain ⟨q', o', e, _, hc⟩ := h.b9 (j := i) (by rw [h.len]; exact hi)
  obtain ⟨rfl, rfl⟩ : q = q' ∧ o = o' := by simpa using e
  exact hc
theorem slM (w : World) (L : List Int) (e : TypeId) (fr : Nat × Nat) (hm : L.length ≤ maxLen) : SlY yB9 (w.alloc (.cells (L.map bV).toArray e fr)) (some ⟨w.heap.size, 0, none⟩) L.length L.length L := by
  refine ⟨rfl, Nat.le_refl _, hm, (fun e => by cases e), fun x hx => .inr ⟨w.heap.size, 0, (Option.some.inj hx).symm, by rw [World.size_alloc]; omega, fun i x hx j v hv => ?_⟩⟩
  obtain ⟨hi, rfl⟩ := List.getElem?_eq_some_iff.1 hx
  have hj : j = 0 := by
    cases j with
    | zero => rfl
    | succ j => simp [yB9] at hv
  subst hj
  obtain rfl : Value.int .u8 L[i] = v := by simpa [yB9] using hv
  have hb := World.alloc_heap_new w (.cells (L.map bV).toArray e fr)
  unfold World.cell?
  simp only [hb]
  simp [yB9, List.getElem?_eq_getElem hi, bV]
theorem ex_bs3 {o : Oper} {ρ : Operand → Value} {s : TypeId} {x y z : Operand} {X Y Z V : Value} {w w' : World} (ho : o.op = .buildSlice s 3 #[(0, x), (1, y), (2, z)]) (hx : ρ x = X) (hy : ρ y = Y) (hz : ρ z = Z) (hr : (Instr.buildSlice s 3 #[(0, X), (1, Y), (2, Z)]).run Try.prog w = .ok V w') : (execOp ρ o).run Try.prog w = .ok (.value V) w' := by
  unfold execOp
  simp only [ho, List.map_toArray, List.map_cons, List.map_nil, hx, hy, hz, Sem.run_bind, hr, Result.andThen_ok]
  rfl
end Go.Proofs.Ytfafhlahbhopaaa
