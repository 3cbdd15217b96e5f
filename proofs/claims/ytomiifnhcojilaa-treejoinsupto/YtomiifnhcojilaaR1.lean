import Derived.Test.YtomiifnhcojilaaGSq
import Derived.Test.YtomiifnhcojilaaWl
namespace Go.Proofs.Ytomiifnhcojilaa
open Go.RowKit Go.Maps
open Classical
set_option linter.unusedVariables false
set_option linter.unusedSimpArgs false

/-! Digests, heads and paths, as plain functions. -/
structure Hs where
  v : List Int
  p : v.length = 32
  r : ∀ x ∈ v, (0 : Int) ≤ x ∧ x < 256
theorem Hs.ext20 {a b : Hs} (h : a.v = b.v) : a = b := by
  obtain ⟨a, p, r⟩ := a
  obtain ⟨b, q, s⟩ := b
  cases h
  rfl
def Hs.cs (h : Hs) : List Value := h.v.map bV
def Hs.val (h : Hs) : Value := .agg (h.v.map bV).toArray
theorem rep_by (n : Nat) : ∀ x ∈ List.replicate n (0 : Int), (0 : Int) ≤ x ∧ x < 256 := fun x hx => by
  have := List.eq_of_mem_replicate hx
  omega
def zH : Hs := ⟨List.replicate 32 0, rfl, rep_by 32⟩
def yH : Lay Hs := ⟨24, 42, 32, 32, Hs.cs, zH⟩
theorem kH : yH.Ok := ⟨by decide, fun x => by show (x.v.map bV).length = 32; rw [List.length_map, x.p], fun x u h => by
    obtain ⟨y, _, rfl⟩ := List.mem_map.1 h
    rfl, Try.underlying42, ⟨.agg ((List.replicate 32 (0 : Int)).map bV).toArray, by kernel_rfl, rfl⟩⟩
theorem outB_by (s : St) : ∀ x ∈ outB s, (0 : Int) ≤ x ∧ x < 256 := fun x hx => by
  unfold outB at hx
  obtain ⟨i, _, rfl⟩ := List.mem_map.1 hx
  rw [IntKind.wrap_u8]
  omega
def sH (B : List Int) : Hs := ⟨sumF B, out_len _, outB_by _⟩
def u6 (x : Int) : Nat := (IntKind.u64.wrap x).toNat
theorem u6_lt (x : Int) : u6 x < 2 ^ 64 := by unfold u6; rw [IntKind.wrap_u64]; omega
def eN (x : En) : Nat → Int
  | 0 => x.c
  | 1 => x.n
  | 2 => x.o.k
  | _ => x.o.s
def fN (x : En) : Nat → List Int
  | 0 => []
  | j + 1 => fN x j ++ M.form (u6 (eN x j))
def eB (x : En) : List Int := fN x 4 ++ M.form x.o.v.size ++ Wi.sb x.o.v
theorem form_le (v : Nat) (h : v < 2 ^ 64) : (M.form v).length ≤ 9 := by rw [M.form_length]; have := M.nb_le v h; omega
theorem fN_le (x : En) : ∀ j, (fN x j).length ≤ 9 * j
  | 0 => by simp [fN]
  | j + 1 => by rw [fN, List.length_append]; have := fN_le x j; have := form_le _ (u6_lt (eN x j)); omega
theorem sb_len (s : ByteArray) : (Wi.sb s).length = s.size := by unfold Wi.sb; rw [List.length_map, Array.length_toList]; rfl
theorem eB_le (x : En) (h : x.o.v.size < 2 ^ 64) : (eB x).length ≤ 45 + x.o.v.size := by
  rw [eB, List.length_append, List.length_append, sb_len]
  have := fN_le x 4
  have := form_le _ h
  omega
theorem fN_by (x : En) : ∀ j, ∀ z ∈ fN x j, (0 : Int) ≤ z ∧ z < 256
  | 0 => by simp [fN]
  | j + 1 => fun z hz => by
    rw [fN, List.mem_append] at hz
    exact hz.elim (fN_by x j z) (M.form_byte _ (u6_lt _) z)
theorem sb_by (s : ByteArray) : ∀ z ∈ Wi.sb s, (0 : Int) ≤ z ∧ z < 256 := fun z hz => by
  obtain ⟨b, _, rfl⟩ := List.mem_map.1 hz
  have := b.toNat_lt
  omega
theorem eB_by (x : En) (h : x.o.v.size < 2 ^ 64) : ∀ z ∈ eB x, (0 : Int) ≤ z ∧ z < 256 := fun z hz => by
  rw [eB, List.mem_append, List.mem_append] at hz
  exact hz.elim (fun h' => h'.elim (fN_by x 4 z) (M.form_byte _ h z)) (sb_by _ z)
def lf (x : En) : Hs := sH ([0] ++ eB x)
def nd (a b : Hs) : Hs := sH ([1] ++ a.v ++ b.v)
/-- The greatest power of two below n. -/
def lft (n : Nat) : Nat := 2 ^ Nat.log2 (n - 1)
theorem lft_b {n : Nat} (h : 2 ≤ n) : 1 ≤ lft n ∧ lft n < n ∧ n ≤ 2 * lft n := by
  have h1 := Nat.log2_self_le (n := n - 1) (by omega)
  have h2 := Nat.lt_log2_self (n := n - 1)
  rw [Nat.pow_succ] at h2
  have h3 : 0 < 2 ^ Nat.log2 (n - 1) := Nat.pow_pos (by decide)
  unfold lft
  omega
def hdF : Nat → List Hs → Hs
  | 0, _ => zH
  | f + 1, L => if L.length ≤ 1 then L.headD (sH []) else nd (hdF f (L.take (lft L.length))) (hdF f (L.drop (lft L.length)))
theorem hdF_eq : ∀ (f g : Nat) (L : List Hs), L.length < f → L.length < g → hdF f L = hdF g L
  | 0, _, _, h, _ => by omega
  | _ + 1, 0, _, _, h => by omega
  | f + 1, g + 1, L, hf, hg => by
    rw [hdF, hdF]
    by_cases h : L.length ≤ 1
    · rw [if_pos h, if_pos h]
    · have b := lft_b (n := L.length) (by omega)
      rw [if_neg h, if_neg h, hdF_eq f g (L.take (lft L.length)) (by rw [List.length_take]; omega) (by rw [List.length_take]; omega), hdF_eq f g (L.drop (lft L.length)) (by rw [List.length_drop]; omega) (by rw [List.length_drop]; omega)]
def hd (L : List Hs) : Hs := hdF (L.length + 1) L
theorem hd_0 : hd [] = sH [] := rfl
theorem hd_1 (x : Hs) : hd [x] = x := rfl
theorem hd_2 (L : List Hs) (h : 2 ≤ L.length) : hd L = nd (hd (L.take (lft L.length))) (hd (L.drop (lft L.length))) := by
  have b := lft_b h
  conv => lhs; rw [hd, hdF, if_neg (by omega)]
  rw [hd, hd, hdF_eq L.length ((L.take (lft L.length)).length + 1) (L.take (lft L.length)) (by rw [List.length_take]; omega) (by omega), hdF_eq L.length ((L.drop (lft L.length)).length + 1) (L.drop (lft L.length)) (by rw [List.length_drop]; omega) (by omega)]
/-- The path of a place. -/
def puF : Nat → List Hs → Nat → List Hs
  | 0, _, _ => []
  | f + 1, L, p => if L.length ≤ 1 then [] else if p ≤ lft L.length then puF f (L.take (lft L.length)) p ++ [hd (L.drop (lft L.length))] else puF f (L.drop (lft L.length)) (p - lft L.length) ++ [hd (L.take (lft L.length))]
theorem puF_eq : ∀ (f g : Nat) (L : List Hs) (p : Nat), L.length < f → L.length < g → puF f L p = puF g L p
  | 0, _, _, _, h, _ => by omega
  | _ + 1, 0, _, _, _, h => by omega
  | f + 1, g + 1, L, p, hf, hg => by
    rw [puF, puF]
    by_cases h : L.length ≤ 1
    · rw [if_pos h, if_pos h]
    · have b := lft_b (n := L.length) (by omega)
      rw [if_neg h, if_neg h, puF_eq f g (L.take (lft L.length)) p (by rw [List.length_take]; omega) (by rw [List.length_take]; omega), puF_eq f g (L.drop (lft L.length)) _ (by rw [List.length_drop]; omega) (by rw [List.length_drop]; omega)]
def pu (L : List Hs) (p : Nat) : List Hs := puF (L.length + 1) L p
theorem pu_1 (L : List Hs) (p : Nat) (h : L.length = 1) : pu L p = [] := by rw [pu, puF, if_pos (by omega)]
theorem pu_l (L : List Hs) (p : Nat) (h : 2 ≤ L.length) (hp : p ≤ lft L.length) : pu L p = pu (L.take (lft L.length)) p ++ [hd (L.drop (lft L.length))] := by
  have b := lft_b h
  conv => lhs; rw [pu, puF, if_neg (by omega), if_pos hp]
  rw [pu, puF_eq _ ((L.take (lft L.length)).length + 1) _ _ (by rw [List.length_take]; omega) (by omega)]
theorem pu_r (L : List Hs) (p : Nat) (h : 2 ≤ L.length) (hp : ¬ p ≤ lft L.length) : pu L p = pu (L.drop (lft L.length)) (p - lft L.length) ++ [hd (L.take (lft L.length))] := by
  have b := lft_b h
  conv => lhs; rw [pu, puF, if_neg (by omega), if_neg hp]
  rw [pu, puF_eq _ ((L.drop (lft L.length)).length + 1) _ _ (by rw [List.length_drop]; omega) (by omega)]
/-- The path from the first m to all. -/
def paF : Nat → List Hs → Nat → Bool → List Hs
  | 0, _, _, _ => []
  | f + 1, L, m, wh => if m = L.length then bif wh then [] else [hd L] else if L.length ≤ 1 then [] else if m ≤ lft L.length then paF f (L.take (lft L.length)) m wh ++ [hd (L.drop (lft L.length))] else paF f (L.drop (lft L.length)) (m - lft L.length) false ++ [hd (L.take (lft L.length))]
theorem paF_eq : ∀ (f g : Nat) (L : List Hs) (m : Nat) (wh : Bool), L.length < f → L.length < g → paF f L m wh = paF g L m wh
  | 0, _, _, _, _, h, _ => by omega
  | _ + 1, 0, _, _, _, _, h => by omega
  | f + 1, g + 1, L, m, wh, hf, hg => by
    rw [paF, paF]
    by_cases h : L.length ≤ 1
    · rw [if_pos h, if_pos h]
    · have b := lft_b (n := L.length) (by omega)
      rw [if_neg h, if_neg h, paF_eq f g (L.take (lft L.length)) m wh (by rw [List.length_take]; omega) (by rw [List.length_take]; omega), paF_eq f g (L.drop (lft L.length)) _ _ (by rw [List.length_drop]; omega) (by rw [List.length_drop]; omega)]
def pa (L : List Hs) (m : Nat) (wh : Bool) : List Hs := paF (L.length + 1) L m wh
theorem pa_e (L : List Hs) (wh : Bool) : pa L L.length wh = bif wh then [] else [hd L] := by rw [pa, paF, if_pos rfl]
theorem pa_l (L : List Hs) (m : Nat) (wh : Bool) (h : 2 ≤ L.length) (hm : m ≤ lft L.length) : pa L m wh = pa (L.take (lft L.length)) m wh ++ [hd (L.drop (lft L.length))] := by
  have b := lft_b h
  conv => lhs; rw [pa, paF, if_neg (by omega), if_neg (by omega), if_pos hm]
  rw [pa, paF_eq _ ((L.take (lft L.length)).length + 1) _ _ _ (by rw [List.length_take]; omega) (by omega)]
theorem pa_r (L : List Hs) (m : Nat) (wh : Bool) (h : 2 ≤ L.length) (hn : m ≠ L.length) (hm : ¬ m ≤ lft L.length) : pa L m wh = pa (L.drop (lft L.length)) (m - lft L.length) false ++ [hd (L.take (lft L.length))] := by
  have b := lft_b h
  conv => lhs; rw [pa, paF, if_neg hn, if_neg (by omega), if_neg hm]
  rw [pa, paF_eq _ ((L.drop (lft L.length)).length + 1) _ _ _ (by rw [List.length_drop]; omega) (by omega)]
/-- How long a path is. -/
def suF : Nat → Nat → Nat → Nat
  | 0, _, _ => 0
  | f + 1, p, n => if n ≤ 1 then 0 else if p ≤ lft n then 1 + suF f p (lft n) else 1 + suF f (p - lft n) (n - lft n)
theorem suF_eq : ∀ (f g p n : Nat), n < f → n < g → suF f p n = suF g p n
  | 0, _, _, _, h, _ => by omega
  | _ + 1, 0, _, _, _, h => by omega
  | f + 1, g + 1, p, n, hf, hg => by
    rw [suF, suF]
    by_cases h : n ≤ 1
    · rw [if_pos h, if_pos h]
    · have b := lft_b (n := n) (by omega)
      rw [if_neg h, if_neg h, suF_eq f g p (lft n) (by omega) (by omega), suF_eq f g (p - lft n) (n - lft n) (by omega) (by omega)]
def su (p n : Nat) : Nat := suF (n + 1) p n
theorem su_1 (p : Nat) : su p 1 = 0 := rfl
theorem su_l (p n : Nat) (h : 2 ≤ n) (hp : p ≤ lft n) : su p n = 1 + su p (lft n) := by
  have b := lft_b h
  conv => lhs; rw [su, suF, if_neg (by omega), if_pos hp]
  rw [su, suF_eq _ (lft n + 1) _ _ (by omega) (by omega)]
theorem su_r (p n : Nat) (h : 2 ≤ n) (hp : ¬ p ≤ lft n) : su p n = 1 + su (p - lft n) (n - lft n) := by
  have b := lft_b h
  conv => lhs; rw [su, suF, if_neg (by omega), if_neg hp]
  rw [su, suF_eq _ (n - lft n + 1) _ _ (by omega) (by omega)]
def saF : Nat → Nat → Nat → Bool → Nat
  | 0, _, _, _ => 0
  | f + 1, m, n, wh => if m = n then bif wh then 0 else 1 else if n ≤ 1 then 0 else if m ≤ lft n then 1 + saF f m (lft n) wh else 1 + saF f (m - lft n) (n - lft n) false
theorem saF_eq : ∀ (f g m n : Nat) (wh : Bool), n < f → n < g → saF f m n wh = saF g m n wh
  | 0, _, _, _, _, h, _ => by omega
  | _ + 1, 0, _, _, _, _, h => by omega
  | f + 1, g + 1, m, n, wh, hf, hg => by
    rw [saF, saF]
    by_cases h : n ≤ 1
    · rw [if_pos h, if_pos h]
    · have b := lft_b (n := n) (by omega)
      rw [if_neg h, if_neg h, saF_eq f g m (lft n) wh (by omega) (by omega), saF_eq f g (m - lft n) (n - lft n) false (by omega) (by omega)]
def sa (m n : Nat) (wh : Bool) : Nat := saF (n + 1) m n wh
theorem sa_e (n : Nat) (wh : Bool) : sa n n wh = bif wh then 0 else 1 := by rw [sa, saF, if_pos rfl]
theorem sa_l (m n : Nat) (wh : Bool) (h : 2 ≤ n) (hm : m ≤ lft n) : sa m n wh = 1 + sa m (lft n) wh := by
  have b := lft_b h
  conv => lhs; rw [sa, saF, if_neg (by omega), if_neg (by omega), if_pos hm]
  rw [sa, saF_eq _ (lft n + 1) _ _ _ (by omega) (by omega)]
theorem sa_r (m n : Nat) (wh : Bool) (h : 2 ≤ n) (hn : m ≠ n) (hm : ¬ m ≤ lft n) : sa m n wh = 1 + sa (m - lft n) (n - lft n) false := by
  have b := lft_b h
  conv => lhs; rw [sa, saF, if_neg hn, if_neg (by omega), if_neg hm]
  rw [sa, saF_eq _ (n - lft n + 1) _ _ _ (by omega) (by omega)]
/-- What one comes to. -/
def clF : Nat → Hs → Nat → Nat → List Hs → Hs
  | 0, h, _, _, _ => h
  | f + 1, h, p, n, P => if n ≤ 1 then h else if p ≤ lft n then nd (clF f h p (lft n) (P.take (P.length - 1))) (P.getD (P.length - 1) zH) else nd (P.getD (P.length - 1) zH) (clF f h (p - lft n) (n - lft n) (P.take (P.length - 1)))
theorem clF_eq : ∀ (f g : Nat) (h : Hs) (p n : Nat) (P : List Hs), n < f → n < g → clF f h p n P = clF g h p n P
  | 0, _, _, _, _, _, h, _ => by omega
  | _ + 1, 0, _, _, _, _, _, h => by omega
  | f + 1, g + 1, x, p, n, P, hf, hg => by
    rw [clF, clF]
    by_cases h : n ≤ 1
    · rw [if_pos h, if_pos h]
    · have b := lft_b (n := n) (by omega)
      rw [if_neg h, if_neg h, clF_eq f g x p (lft n) _ (by omega) (by omega), clF_eq f g x (p - lft n) (n - lft n) _ (by omega) (by omega)]
def cl (h : Hs) (p n : Nat) (P : List Hs) : Hs := clF (n + 1) h p n P
theorem cl_1 (h : Hs) (p : Nat) (P : List Hs) : cl h p 1 P = h := rfl
theorem cl_l (x : Hs) (p n : Nat) (P : List Hs) (h : 2 ≤ n) (hp : p ≤ lft n) : cl x p n P = nd (cl x p (lft n) (P.take (P.length - 1))) (P.getD (P.length - 1) zH) := by
  have b := lft_b h
  conv => lhs; rw [cl, clF, if_neg (by omega), if_pos hp]
  rw [cl, clF_eq _ (lft n + 1) _ _ _ _ (by omega) (by omega)]
theorem cl_r (x : Hs) (p n : Nat) (P : List Hs) (h : 2 ≤ n) (hp : ¬ p ≤ lft n) : cl x p n P = nd (P.getD (P.length - 1) zH) (cl x (p - lft n) (n - lft n) (P.take (P.length - 1))) := by
  have b := lft_b h
  conv => lhs; rw [cl, clF, if_neg (by omega), if_neg hp]
  rw [cl, clF_eq _ (n - lft n + 1) _ _ _ _ (by omega) (by omega)]
def cbF : Nat → Hs → Nat → Nat → Bool → List Hs → Hs × Hs
  | 0, h, _, _, _, _ => (h, h)
  | f + 1, h, m, n, wh, P => if m = n then bif wh then (h, h) else (P.getD 0 zH, P.getD 0 zH) else if n ≤ 1 then (h, h) else if m ≤ lft n then ((cbF f h m (lft n) wh (P.take (P.length - 1))).1, nd (cbF f h m (lft n) wh (P.take (P.length - 1))).2 (P.getD (P.length - 1) zH)) else (nd (P.getD (P.length - 1) zH) (cbF f h (m - lft n) (n - lft n) false (P.take (P.length - 1))).1, nd (P.getD (P.length - 1) zH) (cbF f h (m - lft n) (n - lft n) false (P.take (P.length - 1))).2)
theorem cbF_eq : ∀ (f g : Nat) (h : Hs) (m n : Nat) (wh : Bool) (P : List Hs), n < f → n < g → cbF f h m n wh P = cbF g h m n wh P
  | 0, _, _, _, _, _, _, h, _ => by omega
  | _ + 1, 0, _, _, _, _, _, _, h => by omega
  | f + 1, g + 1, x, m, n, wh, P, hf, hg => by
    rw [cbF, cbF]
    by_cases h : n ≤ 1
    · rw [if_pos h, if_pos h]
    · have b := lft_b (n := n) (by omega)
      rw [if_neg h, if_neg h, cbF_eq f g x m (lft n) wh _ (by omega) (by omega), cbF_eq f g x (m - lft n) (n - lft n) false _ (by omega) (by omega)]
def cb (h : Hs) (m n : Nat) (wh : Bool) (P : List Hs) : Hs × Hs := cbF (n + 1) h m n wh P
theorem cb_e (h : Hs) (n : Nat) (wh : Bool) (P : List Hs) : cb h n n wh P = bif wh then (h, h) else (P.getD 0 zH, P.getD 0 zH) := by rw [cb, cbF, if_pos rfl]
theorem cb_l (x : Hs) (m n : Nat) (wh : Bool) (P : List Hs) (h : 2 ≤ n) (hm : m ≤ lft n) : cb x m n wh P = ((cb x m (lft n) wh (P.take (P.length - 1))).1, nd (cb x m (lft n) wh (P.take (P.length - 1))).2 (P.getD (P.length - 1) zH)) := by
  have b := lft_b h
  conv => lhs; rw [cb, cbF, if_neg (by omega), if_neg (by omega), if_pos hm]
  rw [cb, cbF_eq _ (lft n + 1) _ _ _ _ _ (by omega) (by omega)]
theorem cb_r (x : Hs) (m n : Nat) (wh : Bool) (P : List Hs) (h : 2 ≤ n) (hn : m ≠ n) (hm : ¬ m ≤ lft n) : cb x m n wh P = (nd (P.getD (P.length - 1) zH) (cb x (m - lft n) (n - lft n) false (P.take (P.length - 1))).1, nd (P.getD (P.length - 1) zH) (cb x (m - lft n) (n - lft n) false (P.take (P.length - 1))).2) := by
  have b := lft_b h
  conv => lhs; rw [cb, cbF, if_neg hn, if_neg (by omega), if_neg hm]
  rw [cb, cbF_eq _ (n - lft n + 1) _ _ _ _ _ (by omega) (by omega)]

end Go.Proofs.Ytomiifnhcojilaa
