import Derived.Test.YtomiifnhcojilaaS0
import Derived.Laws.BitsAllLaws
namespace Go.Proofs.Ytomiifnhcojilaa
open Go.RowKit Go.Maps
open Classical
set_option linter.unusedVariables false
set_option linter.unusedSimpArgs false

/-! The digest, as functions of lists of numbers. -/
def xo (a b : Int) : Int := bits .xor .u32 a b
def an (a b : Int) : Int := bits .and .u32 a b
def nt (a : Int) : Int := bits .xor .u32 4294967295 a
def ad (a b : Int) : Int := IntKind.u32.wrap (a + b)
def ror9 (x : Int) (n : Nat) : Int := bits .or .u32 (x / 2 ^ n) (IntKind.u32.wrap (x * 2 ^ (32 - n)))
/-- The block's words, the first i bytes being in. -/
def wS (b : List Int) : Nat → List Int
  | 0 => List.replicate 64 0
  | i + 1 => (wS b i).set (i / 4) (bits .or .u32 (IntKind.u32.wrap ((wS b i).getD (i / 4) 0 * 2 ^ 8)) (IntKind.u32.wrap (b.getD i 0)))
def s09 (x : Int) : Int := xo (xo (ror9 x 7) (ror9 x 18)) (x / 2 ^ 3)
def s19 (y : Int) : Int := xo (xo (ror9 y 17) (ror9 y 19)) (y / 2 ^ 10)
def nxw (W : List Int) (i : Nat) : Int := ad (ad (ad (W.getD (i - 16) 0) (s09 (W.getD (i - 15) 0))) (W.getD (i - 7) 0)) (s19 (W.getD (i - 2) 0))
def wT (b : List Int) : Nat → List Int
  | 0 => wS b 64
  | i + 1 => (wT b i).set (i + 16) (nxw (wT b i) (i + 16))
def wrds (b : List Int) : List Int := wT b 48
theorem wS_len (b : List Int) : ∀ i, (wS b i).length = 64
  | 0 => by simp [wS]
  | i + 1 => by rw [wS, List.length_set, wS_len b i]
theorem wT_len (b : List Int) : ∀ i, (wT b i).length = 64
  | 0 => wS_len b 64
  | i + 1 => by rw [wT, List.length_set, wT_len b i]
/-- The eight words. -/
structure St where
  a : Int
  b : Int
  c : Int
  d : Int
  e : Int
  f : Int
  g : Int
  h : Int
def t19 (s : St) (k w : Int) : Int := ad (ad (ad (ad s.h (xo (xo (ror9 s.e 6) (ror9 s.e 11)) (ror9 s.e 25))) (xo (an s.e s.f) (an (nt s.e) s.g))) k) w
def t29 (s : St) : Int := ad (xo (xo (ror9 s.a 2) (ror9 s.a 13)) (ror9 s.a 22)) (xo (xo (an s.a s.b) (an s.a s.c)) (an s.b s.c))
def rnd (s : St) (k w : Int) : St := ⟨ad (t19 s k w) (t29 s), s.a, s.b, s.c, ad s.d (t19 s k w), s.e, s.f, s.g⟩
def rN (K W : List Int) (s : St) : Nat → St
  | 0 => s
  | i + 1 => rnd (rN K W s i) (K.getD i 0) (W.getD i 0)
def St.l (s : St) : List Int := [s.a, s.b, s.c, s.d, s.e, s.f, s.g, s.h]
def St.ad (s t : St) : St := ⟨Proofs.Ytomiifnhcojilaa.ad s.a t.a, Proofs.Ytomiifnhcojilaa.ad s.b t.b, Proofs.Ytomiifnhcojilaa.ad s.c t.c, Proofs.Ytomiifnhcojilaa.ad s.d t.d, Proofs.Ytomiifnhcojilaa.ad s.e t.e, Proofs.Ytomiifnhcojilaa.ad s.f t.f, Proofs.Ytomiifnhcojilaa.ad s.g t.g, Proofs.Ytomiifnhcojilaa.ad s.h t.h⟩
def kT9 : List Int := [0x428a2f98, 0x71374491, 0xb5c0fbcf, 0xe9b5dba5, 0x3956c25b, 0x59f111f1, 0x923f82a4, 0xab1c5ed5,
  0xd807aa98, 0x12835b01, 0x243185be, 0x550c7dc3, 0x72be5d74, 0x80deb1fe, 0x9bdc06a7, 0xc19bf174,
  0xe49b69c1, 0xefbe4786, 0x0fc19dc6, 0x240ca1cc, 0x2de92c6f, 0x4a7484aa, 0x5cb0a9dc, 0x76f988da,
  0x983e5152, 0xa831c66d, 0xb00327c8, 0xbf597fc7, 0xc6e00bf3, 0xd5a79147, 0x06ca6351, 0x14292967,
  0x27b70a85, 0x2e1b2138, 0x4d2c6dfc, 0x53380d13, 0x650a7354, 0x766a0abb, 0x81c2c92e, 0x92722c85,
  0xa2bfe8a1, 0xa81a664b, 0xc24b8b70, 0xc76c51a3, 0xd192e819, 0xd6990624, 0xf40e3585, 0x106aa070,
  0x19a4c116, 0x1e376c08, 0x2748774c, 0x34b0bcb5, 0x391c0cb3, 0x4ed8aa4a, 0x5b9cca4f, 0x682e6ff3,
  0x748f82ee, 0x78a5636f, 0x84c87814, 0x8cc70208, 0x90befffa, 0xa4506ceb, 0xbef9a3f7, 0xc67178f2]
def iv : St := ⟨0x6a09e667, 0xbb67ae85, 0x3c6ef372, 0xa54ff53a, 0x510e527f, 0x9b05688c, 0x1f83d9ab, 0x5be0cd19⟩
/-- A block. -/
def blkF (s : St) (b : List Int) : St := s.ad (rN kT9 (wrds b) s 64)
/-- n blocks. -/
def rnB : Nat → St → List Int → St
  | 0, s, _ => s
  | n + 1, s, B => rnB n (blkF s (B.take 64)) (B.drop 64)
theorem rnB_app : ∀ (n : Nat) (s : St) (B C : List Int), 64 * n ≤ B.length → rnB n s (B ++ C) = rnB n s B
  | 0, _, _, _, _ => rfl
  | n + 1, s, B, C, h => by
    rw [rnB, rnB, List.take_append_of_le_length (by omega), List.drop_append_of_le_length (by omega)]
    exact rnB_app n _ _ _ (by rw [List.length_drop]; omega)
theorem rnB_add : ∀ (m n : Nat) (s : St) (B : List Int), rnB (m + n) s B = rnB n (rnB m s B) (B.drop (64 * m))
  | 0, n, s, B => by simp [rnB]
  | m + 1, n, s, B => by
    rw [show m + 1 + n = (m + n) + 1 by omega, rnB, rnB, rnB_add m n, List.drop_drop, show 64 + 64 * m = 64 * (m + 1) by omega]
/-- The state behind all whole blocks. -/
def stF (B : List Int) : St := rnB (B.length / 64) iv B
def rem9 (B : List Int) : List Int := B.drop (64 * (B.length / 64))
theorem rem_len (B : List Int) : (rem9 B).length = B.length % 64 := by rw [rem9, List.length_drop]; omega
/-- A whole block's worth behind bytes that end a block. -/
theorem stF_block (B b : List Int) (hB : B.length % 64 = 0) (hb : b.length = 64) : stF (B ++ b) = blkF (stF B) b := by
  unfold stF
  have hl : (B ++ b).length / 64 = B.length / 64 + 1 := by rw [List.length_append]; omega
  have hd : (B ++ b).drop (64 * (B.length / 64)) = b := by
    rw [show 64 * (B.length / 64) = B.length by omega]
    simp
  rw [hl, rnB_add, hd, rnB_app _ _ _ _ (by omega), rnB, rnB, List.take_of_length_le (by omega)]
theorem stF_less (B b : List Int) (h : B.length % 64 + b.length < 64) : stF (B ++ b) = stF B ∧ rem9 (B ++ b) = rem9 B ++ b := by
  have hl : (B ++ b).length / 64 = B.length / 64 := by rw [List.length_append]; omega
  refine ⟨?_, ?_⟩
  · unfold stF
    rw [hl, rnB_app _ _ _ _ (by omega)]
  · unfold rem9
    rw [hl, List.drop_append_of_le_length (by omega)]
theorem stF_fill (B b : List Int) (h : B.length % 64 + b.length = 64) : stF (B ++ b) = blkF (stF B) (rem9 B ++ b) := by
  have e : B ++ b = (B.take (64 * (B.length / 64))) ++ (rem9 B ++ b) := by rw [← List.append_assoc, rem9, List.take_append_drop]
  have hl : (B.take (64 * (B.length / 64))).length = 64 * (B.length / 64) := by rw [List.length_take]; omega
  rw [e, stF_block _ _ (by omega) (by rw [List.length_append, rem_len]; omega)]
  congr 1
  unfold stF
  rw [hl, show 64 * (B.length / 64) / 64 = B.length / 64 by omega]
  conv => rhs; rw [show B = B.take (64 * (B.length / 64)) ++ B.drop (64 * (B.length / 64)) from (List.take_append_drop _ _).symm]
  have h2 : (B.take (64 * (B.length / 64)) ++ B.drop (64 * (B.length / 64))).length / 64 = B.length / 64 := by rw [List.take_append_drop]
  rw [h2, rnB_app _ _ _ _ (by omega)]
/-- What is filled in. -/
def zr (n : Nat) : Nat := (119 - n % 64) % 64
def lenB (n : Nat) : List Int := (List.range 8).map fun i => IntKind.u8.wrap (IntKind.u64.wrap (IntKind.u64.wrap (n : Int) * 8) / 2 ^ (56 - 8 * i))
def fill (n : Nat) : List Int := [128] ++ List.replicate (zr n) 0 ++ lenB n
theorem fill_len (n : Nat) : (fill n).length = 9 + zr n := by simp [fill, lenB]; omega
theorem fill_mod (n : Nat) : (n + (fill n).length) % 64 = 0 := by rw [fill_len, zr]; omega
/-- The state's bytes. -/
def outB (s : St) : List Int := (List.range 32).map fun i => IntKind.u8.wrap (s.l.getD (i / 4) 0 / 2 ^ (24 - 8 * (i % 4)))
def sumF (B : List Int) : List Int := outB (stF (B ++ fill B.length))

end Go.Proofs.Ytomiifnhcojilaa
