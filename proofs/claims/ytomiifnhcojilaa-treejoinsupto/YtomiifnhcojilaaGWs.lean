import Derived.Test.YtomiifnhcojilaaCo
import Derived.Test.YtomiifnhcojilaaHo
import Derived.Deep.RegionLaw
import Derived.Test.YtomiifnhcojilaaWl
namespace Go.Proofs.Ytomiifnhcojilaa.Wi
open Go.RowKit
set_option linter.unusedVariables false

/-- What is wrong of a frame but for its sum. -/
def outErr (f : List Int) : Int := if 32768 < f.length then 11 else if f.length < 12 then 10 else if f.take 4 = M.magic then coErr f.length (told f) else 13
theorem outErr_range {f : List Int} (h : outErr f = 0) : 12 ≤ f.length ∧ f.length ≤ 32768 ∧ f.take 4 = M.magic ∧ f.length = told f + 12 := by
  unfold outErr at h
  split at h
  · cases h
  · split at h
    · cases h
    · split at h
      · unfold coErr at h
        split at h
        · cases h
        · split at h
          · cases h
          · rename_i h1 h2 h3 h4 h5
            exact ⟨by omega, by omega, h3, by omega⟩
      · cases h

/-- What is wrong of a frame, and its body. -/
def opErr (f : List Int) : Int := if outErr f = 0 then if M.sum (f.take (f.length - 4)) = M.rl (f.drop (f.length - 4)) then 0 else 14 else outErr f
def opBody (f : List Int) : List Int := if opErr f = 0 then (f.drop 8).take (f.length - 12) else []
theorem opErr_out {f : List Int} (h : outErr f ≠ 0) : opErr f = outErr f := by unfold opErr; rw [if_neg h]
theorem opErr_sum {f : List Int} (h : outErr f = 0) (h2 : M.sum (f.take (f.length - 4)) ≠ M.rl (f.drop (f.length - 4))) : opErr f = 14 := by unfold opErr; rw [if_pos h, if_neg h2]
theorem opErr_ok {f : List Int} (h : outErr f = 0) (h2 : M.sum (f.take (f.length - 4)) = M.rl (f.drop (f.length - 4))) : opErr f = 0 := by unfold opErr; rw [if_pos h, if_pos h2]
theorem opBody_bad {f : List Int} (h : opErr f ≠ 0) : opBody f = [] := by unfold opBody; rw [if_neg h]
theorem opBody_ok {f : List Int} (h : opErr f = 0) : opBody f = (f.drop 8).take (f.length - 12) := by unfold opBody; rw [if_pos h]

theorem ret_tup {k : IntKind} {v : Value} {a b : Int} (h : a = b) : Ending.returned (.tuple #[v, .int k a]) = .returned (.tuple #[v, .int k b]) := by rw [h]

end Go.Proofs.Ytomiifnhcojilaa.Wi

namespace Go.Proofs.Ytomiifnhcojilaa.Wi
open Go.RowKit
set_option linter.unusedVariables false

theorem be4 (n : Nat) : M.be n 4 = [M.beAt n 0, M.beAt n 1, M.beAt n 2, M.beAt n 3] := rfl
theorem le4 (n : Nat) : M.le n 4 = [M.leAt n 0, M.leAt n 1, M.leAt n 2, M.leAt n 3] := rfl
theorem rb_be (n : Nat) (h : n < 4294967296) : M.rb (M.be n 4) = n := by
  rw [be4]
  simp only [M.rb, List.foldl_cons, List.foldl_nil, M.beAt, Int.toNat_natCast, Nat.shiftRight_eq_div_pow]
  simp
  omega
theorem rl_le (n : Nat) (h : n < 4294967296) : M.rl (M.le n 4) = n := by
  rw [le4]
  simp only [M.rl, M.leAt, Int.toNat_natCast, Nat.shiftRight_eq_div_pow]
  simp
  omega
theorem four (l : List Int) (h : l.length = 4) : ∃ a b c d, l = [a, b, c, d] := by
  match l, h with
  | [a, b, c, d], _ => exact ⟨a, b, c, d, rfl⟩
theorem be_rb (l : List Int) (h : l.length = 4) (hb : ∀ z ∈ l, 0 ≤ z ∧ z < 256) : M.be (M.rb l) 4 = l := by
  obtain ⟨a, b, c, d, rfl⟩ := four l h
  have h1 := hb a (by simp); have h2 := hb b (by simp); have h3 := hb c (by simp); have h4 := hb d (by simp)
  rw [be4]
  simp only [M.rb, List.foldl_cons, List.foldl_nil, M.beAt, Nat.shiftRight_eq_div_pow, List.cons.injEq, and_true]
  simp
  omega
theorem le_rl (l : List Int) (h : l.length = 4) (hb : ∀ z ∈ l, 0 ≤ z ∧ z < 256) : M.le (M.rl l) 4 = l := by
  obtain ⟨a, b, c, d, rfl⟩ := four l h
  have h1 := hb a (by simp); have h2 := hb b (by simp); have h3 := hb c (by simp); have h4 := hb d (by simp)
  rw [le4]
  simp only [M.rl, M.leAt, Nat.shiftRight_eq_div_pow, List.cons.injEq, and_true]
  simp
  omega

theorem frame_take4 (l : List Int) : (M.frame l).take 4 = M.magic := by
  unfold M.frame M.bare
  rw [List.append_assoc, List.append_assoc]
  exact List.take_left' rfl
theorem frame_told (l : List Int) (h : l.length < 4294967296) : told (M.frame l) = l.length := by
  unfold told M.frame M.bare
  rw [List.append_assoc, List.append_assoc, List.drop_left' (show M.magic.length = 4 from rfl), List.take_left' (M.be_length _ _), rb_be _ h]
theorem frame_out (l : List Int) (h : l.length ≤ 32756) : outErr (M.frame l) = 0 := by
  unfold outErr
  rw [M.frame_length, if_neg (by omega), if_neg (by omega), if_pos (frame_take4 l), frame_told l (by omega)]
  exact coErr_ok (by omega) (by omega)
theorem frame_head (l : List Int) : (M.frame l).take (l.length + 8) = M.bare l := List.take_left' (M.bare_length l)
theorem frame_tail (l : List Int) : (M.frame l).drop (l.length + 8) = M.le (M.sum (M.bare l)) 4 := List.drop_left' (M.bare_length l)
theorem frame_err (l : List Int) (h : l.length ≤ 32756) (hb : ∀ z ∈ l, 0 ≤ z ∧ z < 256) : opErr (M.frame l) = 0 := by
  refine opErr_ok (frame_out l h) ?_
  rw [M.frame_length, show l.length + 12 - 4 = l.length + 8 from by omega, frame_head, frame_tail, rl_le _ (M.sum_lt _ (fun z hz => (M.bare_byte l hb z hz).2))]
theorem frame_body (l : List Int) (h : l.length ≤ 32756) (hb : ∀ z ∈ l, 0 ≤ z ∧ z < 256) : opBody (M.frame l) = l := by
  rw [opBody_ok (frame_err l h hb), M.frame_length, show l.length + 12 - 12 = l.length from by omega]
  unfold M.frame M.bare
  rw [List.append_assoc, List.drop_left' (by simp [M.magic, M.be_length]), List.take_left' rfl]
theorem open_frame (f : List Int) (hb : ∀ z ∈ f, 0 ≤ z ∧ z < 256) (h : opErr f = 0) : M.frame (opBody f) = f ∧ (opBody f).length ≤ 32756 := by
  have hout : outErr f = 0 := by
    by_cases h1 : outErr f = 0
    · exact h1
    · rw [opErr_out h1] at h; exact absurd h h1
  have hsum : M.sum (f.take (f.length - 4)) = M.rl (f.drop (f.length - 4)) := by
    by_cases h1 : M.sum (f.take (f.length - 4)) = M.rl (f.drop (f.length - 4))
    · exact h1
    · rw [opErr_sum hout h1] at h; cases h
  obtain ⟨r1, r2, r3, r4⟩ := outErr_range hout
  have hB := opBody_ok h
  have hlen : (opBody f).length = told f := by rw [hB]; simp; omega
  have hbare : M.bare (opBody f) = f.take (f.length - 4) := by
    unfold M.bare
    rw [hlen, ← r3]
    have e1 : M.be (told f) 4 = (f.drop 4).take 4 := be_rb _ (by simp; omega) (fun z hz => hb z (List.mem_of_mem_drop (List.mem_of_mem_take hz)))
    rw [e1, hB]
    have e2 : f.take 4 ++ (f.drop 4).take 4 = f.take 8 := by rw [← List.take_add]
    rw [e2, show f.length - 4 = 8 + (f.length - 12) from by omega, List.take_add]
  refine ⟨?_, by omega⟩
  unfold M.frame
  rw [hbare, hsum, le_rl _ (by simp; omega) (fun z hz => hb z (List.mem_of_mem_drop hz)), List.take_append_drop]
theorem opBody_byte (f : List Int) (hb : ∀ z ∈ f, 0 ≤ z ∧ z < 256) : ∀ z ∈ opBody f, 0 ≤ z ∧ z < 256 := by
  unfold opBody
  split
  · exact fun z hz => hb z (List.mem_of_mem_drop (List.mem_of_mem_take hz))
  · intro z hz; cases hz

end Go.Proofs.Ytomiifnhcojilaa.Wi

namespace Go.Proofs.Ytomiifnhcojilaa.Wi
open Go.RowKit
set_option linter.unusedVariables false

theorem be_eq (n j : Nat) : ((n : Int) / 2 ^ (24 - 8 * j) % 256) = M.beAt n j := by
  unfold M.beAt
  rw [Nat.shiftRight_eq_div_pow]
  simp
theorem le_eq (n j : Nat) : ((n : Int) / 2 ^ (8 * j) % 256) = M.leAt n j := by
  unfold M.leAt
  rw [Nat.shiftRight_eq_div_pow]
  simp
theorem sb_magic : sb { data := #[97, 109, 110, 49] } = M.magic := rfl

/-- 'make([]byte, 0, n)'. -/
theorem mk_own (w : World) {ops : Array Oper} {rest : List Oper} {o : Oper} {a : Act} {Q : Exit → Act → World → Prop} (hgd : o.guard = none) (c : Operand)
    (hop : o.op = Op.makeSlice 73 (.const (.int .i64 0)) c) (C : Int) (n : Nat) (hc : a.eval c = .int .i64 C) (hC : C = (n : Int)) (hm : n ≤ 281474976710656)
    (hK : ∀ w', Own w.heap.size w' (.slice (some ⟨w.heap.size, 0, none⟩) 0 n) [] → Below w.heap.size w w' → wpList Try.prog ops Q rest (a.put o.dst (.slice (some ⟨w.heap.size, 0, none⟩) 0 n)) w') : wpList Try.prog ops Q (o :: rest) a w := by
  obtain ⟨i0, hi, hz0, hz1, hz2⟩ := info_parts Try.info5
  refine wpList_make_own w hgd (.const (.int .i64 0)) c 73 hop w.heap.size 5 i0 (.int .u8 0) 1 Try.underlying73 hi hz0 hz1 .i64 .i64 C n rfl hc hC (by rw [hz2]; omega) (by unfold maxLen; omega) (Nat.le_refl _) ?_
  intro w' h1 h2
  exact hK w' h1 ((Below.refl _ _).grown h2 (Nat.le_refl _) (fun k hk => by cases hk))

end Go.Proofs.Ytomiifnhcojilaa.Wi

namespace Go.Proofs.Ytomiifnhcojilaa.Wi
open Go.RowKit
set_option linter.unusedVariables false

theorem st_odd (s : Nat) (h : s < 4294967296) (ho : s % 2 = 1) : bits .xor .u32 ((s : Int) / 2) 3988292384 = ((M.st s : Nat) : Int) := by
  have e3 : ((s : Int) / (2 : Int)) = ((s >>> 1 : Nat) : Int) := by rw [Nat.shiftRight_eq_div_pow]; omega
  have h2 : s >>> 1 < 4294967296 := by rw [Nat.shiftRight_eq_div_pow]; omega
  rw [e3]
  refine (u32_xor_nat (s >>> 1) 3988292384 h2 (by omega)).trans ?_
  unfold M.st
  rw [Nat.and_one_is_mod, ho]
theorem st_even (s : Nat) (ho : s % 2 = 0) : ((s : Int) / 2) = ((M.st s : Nat) : Int) := by
  have e3 : ((s : Int) / (2 : Int)) = ((s >>> 1 : Nat) : Int) := by rw [Nat.shiftRight_eq_div_pow]; omega
  rw [e3]
  unfold M.st
  rw [Nat.and_one_is_mod, ho]
  simp
theorem odd_test (s : Nat) (h : s < 4294967296) : (bits .and .u32 (s : Int) 1 == 1) = decide (s % 2 = 1) := by
  have e1 : bits .and .u32 (s : Int) 1 = ((s &&& 1 : Nat) : Int) := u32_and_nat s 1 h (by omega)
  rw [e1, Nat.and_one_is_mod]
  have h2 : s % 2 < 2 := Nat.mod_lt _ (by omega)
  generalize s % 2 = b at *
  match b, h2 with
  | 0, _ | 1, _ => rfl
theorem not_bits' (a : Nat) (ha : a < 4294967296) : bits .xor .u32 (a : Int) 4294967295 = ((4294967295 ^^^ a : Nat) : Int) := by
  have := u32_xor_nat a 4294967295 ha (by omega)
  rw [Nat.xor_comm]
  exact this

theorem Own.kept {B : Nat} {w w' : World} {v : Value} {l : List Int} (h : Own B w v l) (hb : Below w.heap.size w w') : Own B w' v l := by
  refine ⟨h.1, ?_⟩
  rcases h.2 with h2 | ⟨g, c, cur, h1, h2, h3, r⟩
  · exact Or.inl h2
  · exact Or.inr ⟨g, c, cur, h1, h2, by rw [hb.block g ((World.ownsRow.lt h g (by rw [h1]; rfl)).2)]; exact h3, r⟩
theorem own_built (w : World) (C : Array Value) (n : Nat) (l : List Int) (hn : l.length = n) (hC : C.toList = bs l) (hm : n ≤ maxLen) : Own w.heap.size (w.alloc (.cells C 5)) (.slice (some ⟨w.heap.size, 0, none⟩) n n) l := by
  subst hn
  have hsz : C.size = l.length := by rw [← Array.length_toList, hC]; simp [bs]
  refine ⟨by simp [bs], .inr ⟨w.heap.size, l.length, C, rfl, Nat.le_refl _, heap_alloc_new w _, Nat.le_refl _, hm, by rw [hsz, Nat.mul_one], ?_⟩⟩
  rw [hC]
  exact List.take_of_length_le (by simp [bs])
theorem be4_vals (n : Nat) (h : n < 4294967296) : bs (M.be n 4) = [.int .u8 ((n : Int) / 16777216), .int .u8 ((n : Int) / 65536 % 256), .int .u8 ((n : Int) / 256 % 256), .int .u8 ((n : Int) % 256)] := by
  rw [be4]
  simp only [bs, List.map_cons, List.map_nil, M.beAt, Nat.shiftRight_eq_div_pow, List.cons.injEq, Value.int.injEq, true_and, and_true]
  simp
  omega

theorem le_be (S : Nat) : M.le S 4 = [M.beAt S 3, M.beAt S 2, M.beAt S 1, M.beAt S 0] := by
  rw [le4]
  rfl
/-- 'append' of bytes, in a region that draws its order. -/
theorem step_bytes {ops : Array Oper} {o : Oper} {a : Act} {w : World} {K : Act → World → Prop} {Q : Exit → Act → World → Prop} {E : Prop} (hg : o.guard = none) (s x : Operand)
    (ho : o.op = .call { callee := .builtin .append, args := #[s, x], argTypes := #[73, 73] }) (B : Nat) (l : List Int) (v : Value) (hs : a.eval s = v)
    (ad : Addr) (m c : Nat) (hx : a.eval x = .slice (some ad) m c) (news : List Int) (hm : news.length = m) (hc : Row w ad news) (hown : Own B w v l) (hB : B ≤ w.heap.size) (hb : l.length + m ≤ 140737488355328)
    (hK : ∀ v' w', Own B w' v' (l ++ news) → Keeps v v' m → w.grownBy w' v.ownBlock → K (a.put o.dst v') w') :
    if Region.wanted o (yielded ops a.tmps) = true then Oper.wp Try.prog o a w K Q else E := by
  have hw : Region.wanted o (yielded ops a.tmps) = true := by simp [Region.wanted, hg]
  rw [if_pos hw]
  obtain ⟨i0, hi, hz0, hz1, hz2⟩ := info_parts Try.info5
  refine wp_append_own w s x 73 ho B 5 i0 (.int .u8 0) 1 1 Try.underlying73 hi hz0 hz1 hz2 rfl (by decide) v l.length (bs l) hs hown ad m c (bs news) hx (by simp [bs, hm]) ?_ (bs_oneCell _) (by unfold maxLen; omega) (by omega) hB ?_
  · intro j u hu
    have hj : j < news.length := by simpa [bs] using (List.getElem?_eq_some_iff.1 hu).1
    rw [hc j hj, ← hu]
    simp [bs, hj, List.getD]
  · intro v' w' h2 h3 h4
    refine hK v' w' ?_ ?_ h3
    · unfold Own; rw [bs_append, List.length_append, hm]; exact h2
    · intro hp he
      obtain ⟨k1, k2⟩ := h4.1 he
      rcases hp with hp | hp
      · exact hp k1
      · omega

end Go.Proofs.Ytomiifnhcojilaa.Wi

namespace Go.Proofs.Ytomiifnhcojilaa.Wi
open Go.RowKit
set_option linter.unusedVariables false

/-- What laying a thing down comes to: its error, its bytes. -/
def ptErr (K N m : Int) (s : ByteArray) : Int := if K = 0 then 0 else if K = 1 then (if N < 0 then 3 else 0) else if K = 2 then (if N < 0 ∨ m < 0 then 3 else if m < N then 11 else 0) else if m < 0 then 3 else if m < (s.size : Int) then 11 else 0
def ptBytes (K V N : Int) (s : ByteArray) : List Int := if K = 0 then M.form V.toNat else if K = 1 ∨ K = 2 then M.form N.toNat else M.form s.size ++ sb s
/-- A Writer in either state. -/
def WSt (w : World) (b : Nat) (l : List Int) (E : Int) : Prop := (E = 0 ∧ WOk w b l) ∨ (E ≠ 0 ∧ WBad w b E)
def putV (K V N m : Int) (s : ByteArray) : Value := .agg #[.int .i64 K, .int .u64 V, .int .i64 N, .int .i64 m, .string s]
theorem WBad.later {w w' : World} {b : Nat} {E : Int} (h : WBad w b E) (hb : Below w.heap.size w w') : WBad w' b E :=
  ⟨Nat.lt_of_lt_of_le h.lt hb.size, h.ne, cell_later hb h.c0, cell_later hb h.c1, cell_later hb h.c2, (hb.frozen (p := ⟨b, 0, none⟩) h.lt).trans h.f0, (hb.frozen (p := ⟨b, 1, none⟩) h.lt).trans h.f1, (hb.frozen (p := ⟨b, 2, none⟩) h.lt).trans h.f2⟩
theorem WOk.later {w w' : World} {b : Nat} {l : List Int} (h : WOk w b l) (hb : Below w.heap.size w w') : WOk w' b l := by
  rcases h with ⟨e, h⟩ | ⟨q, g, n, c, h⟩
  · exact .inl ⟨e, Nat.lt_of_lt_of_le h.lt hb.size, cell_later hb h.c0, cell_later hb h.c1, cell_later hb h.c2, (hb.frozen (p := ⟨b, 0, none⟩) h.lt).trans h.f0, (hb.frozen (p := ⟨b, 1, none⟩) h.lt).trans h.f1, (hb.frozen (p := ⟨b, 2, none⟩) h.lt).trans h.f2⟩
  · have lt : b < w.heap.size := Nat.lt_trans h.lt h.ltq
    exact .inr ⟨q, g, n, c, h.lt, Nat.lt_of_lt_of_le h.ltq hb.size, h.len, cell_later hb h.c0, cell_later hb h.c1, cell_later hb h.c2, (hb.frozen (p := ⟨b, 0, none⟩) lt).trans h.f0, (hb.frozen (p := ⟨b, 1, none⟩) lt).trans h.f1, (hb.frozen (p := ⟨b, 2, none⟩) lt).trans h.f2, cell_later hb h.cq, (hb.frozen (p := ⟨q, 0, none⟩) h.ltq).trans h.fq, h.own.kept hb⟩

end Go.Proofs.Ytomiifnhcojilaa.Wi

namespace Go.Proofs.Ytomiifnhcojilaa.Wi
open Go.RowKit
set_option linter.unusedVariables false

/-- A thing that is laid down. -/
structure Pt where
  K : Int
  V : Int
  N : Int
  m : Int
  s : ByteArray
def Pt.err (p : Pt) : Int := ptErr p.K p.N p.m p.s
def Pt.bytes (p : Pt) : List Int := ptBytes p.K p.V p.N p.s
def Pt.val (p : Pt) : Value := putV p.K p.V p.N p.m p.s
def Pt.fits (p : Pt) : Prop := 0 ≤ p.V ∧ p.V < 18446744073709551616 ∧ -9223372036854775808 ≤ p.N ∧ p.N ≤ 9223372036854775807 ∧ -9223372036854775808 ≤ p.m ∧ p.m ≤ 9223372036854775807
def allBytes (P : List Pt) : List Int := P.flatMap Pt.bytes
def firstErr : List Pt → Int
  | [] => 0
  | p :: r => if p.err = 0 then firstErr r else p.err
theorem allBytes_snoc (P : List Pt) (p : Pt) : allBytes (P ++ [p]) = allBytes P ++ p.bytes := by simp [allBytes]
theorem firstErr_snoc (P : List Pt) (p : Pt) : firstErr (P ++ [p]) = if firstErr P = 0 then p.err else firstErr P := by
  induction P with
  | nil =>
    by_cases h : p.err = 0
    · simp [firstErr, h]
    · simp [firstErr, h]
  | cons q r ih =>
    by_cases h : q.err = 0
    · have e1 : firstErr (q :: r) = firstErr r := by simp [firstErr, h]
      have e2 : firstErr (q :: r ++ [p]) = firstErr (r ++ [p]) := by simp [firstErr, h]
      rw [e2, ih]
      simp only [e1]
    · have e1 : firstErr (q :: r) = q.err := by simp [firstErr, h]
      have e2 : firstErr (q :: r ++ [p]) = q.err := by simp [firstErr, h]
      rw [e2]
      simp only [e1, if_neg h]
theorem firstErr_zero (P : List Pt) : firstErr P = 0 ↔ ∀ p ∈ P, p.err = 0 := by
  induction P with
  | nil => simp [firstErr]
  | cons q r ih =>
    simp only [firstErr]
    by_cases h : q.err = 0
    · rw [if_pos h, ih]; simp [h]
    · rw [if_neg h]; simp [h]
theorem take_snoc (P : List Pt) (k : Nat) (h : k < P.length) : P.take (k + 1) = P.take k ++ [P[k]] := by rw [List.take_add_one, List.getElem?_eq_getElem h]; rfl
/-- The things that come in: five cells each. -/
def Puts (w : World) (a : Option Addr) (P : List Pt) : Prop := ∀ i (h : i < P.length), P[i].fits ∧ ∃ b o, a = some ⟨b, o, none⟩ ∧ w.cell? ⟨b, o + i * 5, none⟩ = some (.int .i64 P[i].K) ∧ w.cell? ⟨b, o + i * 5 + 1, none⟩ = some (.int .u64 P[i].V) ∧ w.cell? ⟨b, o + i * 5 + 2, none⟩ = some (.int .i64 P[i].N) ∧ w.cell? ⟨b, o + i * 5 + 3, none⟩ = some (.int .i64 P[i].m) ∧ w.cell? ⟨b, o + i * 5 + 4, none⟩ = some (.string P[i].s)

theorem wbytes_bad (b : Nat) (E : Int) (w : World) (h : WBad w b E) :
    Calls Try.prog 78 #[.pointer (some ⟨b, 0, none⟩)] w fun e w' => e = .returned (.tuple #[.slice none 0 0, .int .i64 E]) ∧ ∃ k, w' = w.drewN k := by
  obtain ⟨lt, ne, c0, c1, c2, f0, f1, f2⟩ := h
  have hb : (E != 0) = true := by simp [ne]
  go_enter Try.func78, Try.ntmps78
  go_wp2
  go_quiet (fail)
  go_wp2
  go_ret2
  exact ⟨rfl, _, rfl⟩
end Go.Proofs.Ytomiifnhcojilaa.Wi

namespace Go.Proofs.Ytomiifnhcojilaa.Wi
open Go.RowKit
set_option linter.unusedVariables false

/-- What reading a number from the head of bytes comes to: the error, the number, how many bytes. -/
def tnErr : List Int → Int
  | [] => 10
  | k :: d => if 8 < k then 12 else if (d.length : Int) < k then 10 else if 0 < k ∧ d.getD 0 0 = 0 then 12 else 0
def tnVal (l : List Int) : Nat := if tnErr l = 0 then M.rb ((l.drop 1).take (l.getD 0 0).toNat) else 0
def tnSize (l : List Int) : Nat := if tnErr l = 0 then 1 + (l.getD 0 0).toNat else 0
theorem tn_bad {l : List Int} (h : tnErr l ≠ 0) : tnVal l = 0 ∧ tnSize l = 0 := by unfold tnVal tnSize; rw [if_neg h, if_neg h]; exact ⟨rfl, rfl⟩
theorem ret3 {a b c : Int} {a' b' c' : Int} (h1 : a = a') (h2 : b = b') (h3 : c = c') : Ending.returned (.tuple #[.int .u64 a, .int .i64 b, .int .i64 c]) = .returned (.tuple #[.int .u64 a', .int .i64 b', .int .i64 c']) := by rw [h1, h2, h3]

/-- What a call of takeNumber comes to. -/
def TnPost (l : List Int) (w : World) (e : Ending) (w' : World) : Prop := e = .returned (.tuple #[.int .u64 (tnVal l), .int .i64 (tnSize l), .int .i64 (tnErr l)]) ∧ ∃ k, w' = w.drewN k
theorem TnPost.mk_bad {l : List Int} {w : World} {E : Int} (k : Nat) (h : tnErr l = E) (hE : E ≠ 0) : TnPost l w (.returned (.tuple #[.int .u64 0, .int .i64 0, .int .i64 E])) (w.drewN k) := by
  obtain ⟨h1, h2⟩ := tn_bad (l := l) (by rw [h]; exact hE)
  exact ⟨ret3 (by rw [h1]; rfl) (by rw [h2]; rfl) h.symm, k, rfl⟩

theorem rb_step64 (v : Nat) (z : Int) (hv : v < 72057594037927936) (h0 : 0 ≤ z) (h1 : z < 256) : bits .or .u64 ((v : Int) * 256 % 18446744073709551616) (z % 18446744073709551616) = ((v * 256 + z.toNat : Nat) : Int) := by
  obtain ⟨n, rfl⟩ := Int.eq_ofNat_of_zero_le h0
  have e1 : ((v : Int) * 256 % 18446744073709551616) = ((v * 2 ^ 8 : Nat) : Int) := by omega
  have e2 : ((n : Int) % 18446744073709551616) = (n : Int) := by omega
  rw [e1, e2, u64_or_nat _ _ (by omega) (by omega), M.or_low v n 8 (by omega)]
  simp

theorem tnErr_form {k : Int} {d : List Int} (h : 8 < k) : tnErr (k :: d) = 12 := by simp only [tnErr]; rw [if_pos h]
theorem tnErr_short {k : Int} {d : List Int} (h : ¬ 8 < k) (h2 : (d.length : Int) < k) : tnErr (k :: d) = 10 := by simp only [tnErr]; rw [if_neg h, if_pos h2]
theorem tnErr_zero {k : Int} {d : List Int} (h : ¬ 8 < k) (h2 : ¬ (d.length : Int) < k) (h3 : 0 < k) (h4 : d.getD 0 0 = 0) : tnErr (k :: d) = 12 := by simp only [tnErr]; rw [if_neg h, if_neg h2, if_pos ⟨h3, h4⟩]
theorem tnErr_ok {k : Int} {d : List Int} (h : ¬ 8 < k) (h2 : ¬ (d.length : Int) < k) (h3 : ¬ (0 < k ∧ d.getD 0 0 = 0)) : tnErr (k :: d) = 0 := by simp only [tnErr]; rw [if_neg h, if_neg h2, if_neg h3]
theorem TnPost.mk_ok {k : Int} {d : List Int} {w : World} (j : Nat) (h : tnErr (k :: d) = 0) {v s : Int} (hv : v = (M.rb (d.take k.toNat) : Nat)) (hs : s = ((1 + k.toNat : Nat) : Int)) : TnPost (k :: d) w (.returned (.tuple #[.int .u64 v, .int .i64 s, .int .i64 0])) (w.drewN j) := by
  refine ⟨ret3 ?_ ?_ h.symm, j, rfl⟩
  · unfold tnVal; rw [if_pos h, hv]; rfl
  · unfold tnSize; rw [if_pos h, hs]; rfl

end Go.Proofs.Ytomiifnhcojilaa.Wi
