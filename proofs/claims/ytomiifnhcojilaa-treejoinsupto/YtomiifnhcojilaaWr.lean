import Derived.Test.YtomiifnhcojilaaNum
import Derived.Lib.AppendStr
import Derived.Deep.QuietTactic
import Derived.BigQuiet
namespace Go.Proofs.Ytomiifnhcojilaa.Wi
open Go.RowKit
set_option linter.unusedVariables false

/-- A string's bytes. -/
def sb (s : ByteArray) : List Int := s.data.toList.map fun b => (b.toNat : Int)
theorem sb_length (s : ByteArray) : (sb s).length = s.size := by
  rw [sb, List.length_map, Array.length_toList]
  rfl
theorem sb_cells (s : ByteArray) : Lib.strCells s = bs (sb s) := by simp [Lib.strCells, bs, sb]
theorem sb_byte (s : ByteArray) : ∀ z ∈ sb s, 0 ≤ z ∧ z < 256 := by
  intro z hz
  simp only [sb, List.mem_map] at hz
  obtain ⟨b, _, rfl⟩ := hz
  have := b.toNat_lt
  omega

/-- 'append' of a string's bytes onto a slice of bytes that the call owns. -/
theorem app_str (w : World) {ops : Array Oper} {rest : List Oper} {o : Oper} {a : Act} {Q : Exit → Act → World → Prop} (hgd : o.guard = none) (sl x : Operand)
    (ho : o.op = .call { callee := .builtin .append, args := #[sl, x], argTypes := #[73, 9] }) (B : Nat) (l : List Int) (v : Value) (hs : a.eval sl = v)
    (s : ByteArray) (hx : a.eval x = .string s) (hown : Own B w v l) (hB : B ≤ w.heap.size) (hb : l.length + s.size ≤ 140737488355328)
    (h : ∀ v' w', Own B w' v' (l ++ sb s) → Keeps v v' s.size → w.grownBy w' v.ownBlock → wpList Try.prog ops Q rest (a.put o.dst v') w') : wpList Try.prog ops Q (o :: rest) a w := by
  obtain ⟨i0, hi, hz0, hz1, hz2⟩ := info_parts Try.info5
  refine Lib.wpList_append_own_string w hgd sl x 73 9 ho B 5 i0 Try.underlying73 Try.underlying9 hi hz0 hz1 hz2 v l.length (bs l) hs hown s hx (by unfold maxLen; omega) hb hB ?_
  intro v' w' h2 h3 h4
  refine h v' w' ?_ ?_ h3
  · unfold Own; rw [bs_append, List.length_append, sb_length, ← sb_cells]; exact h2
  · intro hp he
    obtain ⟨k1, k2⟩ := h4.1 he
    rcases hp with hp | hp
    · exact hp k1
    · omega

/-- A Writer at the head of block b, as new. -/
structure WNew (w : World) (b : Nat) : Prop where
  lt : b < w.heap.size
  c0 : w.cell? ⟨b, 0, none⟩ = some (.pointer none)
  c1 : w.cell? ⟨b, 1, none⟩ = some (.int .i64 0)
  c2 : w.cell? ⟨b, 2, none⟩ = some (.int .i64 0)
  f0 : w.frozen? ⟨b, 0, none⟩ = false
  f1 : w.frozen? ⟨b, 1, none⟩ = false
  f2 : w.frozen? ⟨b, 2, none⟩ = false
/-- A Writer at the head of block b with a pile at block q that holds the bytes l, without an error. -/
structure WHas (w : World) (b q : Nat) (s : Option Addr) (n c : Nat) (l : List Int) : Prop where
  lt : b < q
  ltq : q < w.heap.size
  len : n = l.length
  c0 : w.cell? ⟨b, 0, none⟩ = some (.pointer (some ⟨q, 0, none⟩))
  c1 : w.cell? ⟨b, 1, none⟩ = some (.int .i64 n)
  c2 : w.cell? ⟨b, 2, none⟩ = some (.int .i64 0)
  f0 : w.frozen? ⟨b, 0, none⟩ = false
  f1 : w.frozen? ⟨b, 1, none⟩ = false
  f2 : w.frozen? ⟨b, 2, none⟩ = false
  cq : w.cell? ⟨q, 0, none⟩ = some (.slice s n c)
  fq : w.frozen? ⟨q, 0, none⟩ = false
  own : Own (q + 1) w (.slice s n c) l
/-- A Writer at the head of block b that has laid down the bytes l, without an error. -/
def WOk (w : World) (b : Nat) (l : List Int) : Prop := (l = [] ∧ WNew w b) ∨ ∃ q g n c, WHas w b q (some ⟨g, 0, none⟩) n c l

set_option maxHeartbeats 400000 in
theorem own_nil (b : Nat) (w : World) (hb : b < w.heap.size) (h0 : w.cell? ⟨b, 0, none⟩ = some (.pointer none)) (f0 : w.frozen? ⟨b, 0, none⟩ = false) :
    Calls Try.prog 109 #[.pointer (some ⟨b, 0, none⟩)] w fun e w' => e = .returned (.pointer (some ⟨w.heap.size, 0, none⟩)) ∧
      w' = (w.setCell ⟨b, 0, none⟩ (.pointer (some ⟨w.heap.size, 0, none⟩))).alloc (.cells #[.slice none 0 0] 149) := by
  go_enter Try.func109, Try.ntmps109
  go_wp2
  go_ret
  exact ⟨rfl, rfl⟩

set_option maxHeartbeats 400000 in
theorem own_has (b q n : Nat) (s : Option Addr) (c : Nat) (w : World) (h0 : w.cell? ⟨b, 0, none⟩ = some (.pointer (some ⟨q, 0, none⟩))) (h1 : w.cell? ⟨b, 1, none⟩ = some (.int .i64 n)) (hq : w.cell? ⟨q, 0, none⟩ = some (.slice s n c)) :
    Calls Try.prog 109 #[.pointer (some ⟨b, 0, none⟩)] w fun e w' => e = .returned (.pointer (some ⟨q, 0, none⟩)) ∧ ∃ k, w' = w.drewN k := by
  go_enter Try.func109, Try.ntmps109
  go_wp2
  go_quiet (fail)
  go_wp2
  go_ret
  exact ⟨rfl, _, rfl⟩

theorem own_any (B b : Nat) (l : List Int) (w : World) (hB : B ≤ b) (h : WOk w b l) :
    Calls Try.prog 109 #[.pointer (some ⟨b, 0, none⟩)] w fun e w' => ∃ q s n c, e = .returned (.pointer (some ⟨q, 0, none⟩)) ∧ WHas w' b q s n c l ∧ Below B w w' := by
  rcases h with ⟨rfl, h⟩ | ⟨q, g, n, c, h⟩
  · refine (own_nil b w h.lt h.c0 h.f0).mono ?_
    rintro e w' ⟨rfl, rfl⟩
    have hlt := h.lt
    refine ⟨w.heap.size, none, 0, 0, rfl, ⟨h.lt, by simp, rfl, ?_, ?_, ?_, ?_, ?_, ?_, ?_, ?_, Own.nil _ _⟩, ((Below.refl B w).setCell hB _).alloc (by simp; omega) _⟩
    all_goals obtain ⟨_, c0, c1, c2, f0, f1, f2⟩ := h
    all_goals go_simp
  · refine (own_has b q n (some ⟨g, 0, none⟩) c w h.c0 h.c1 h.cq).mono ?_
    rintro e w' ⟨rfl, k, rfl⟩
    exact ⟨q, _, n, c, rfl, ⟨h.lt, h.ltq, h.len, h.c0, h.c1, h.c2, h.f0, h.f1, h.f2, h.cq, h.fq, h.own⟩, below_drewN (Below.refl _ _) k⟩

theorem Own.shape {B : Nat} {w : World} {v : Value} {l : List Int} (h : Own B w v l) (hn : v ≠ .slice none 0 0) : ∃ g c, v = .slice (some ⟨g, 0, none⟩) l.length c ∧ B ≤ g ∧ g < w.heap.size := by
  have hl := World.ownsRow.lt h
  rcases h.2 with ⟨h1, _⟩ | ⟨g, c, _, h1, h2, _⟩
  · exact absurd h1 hn
  · exact ⟨g, c, h1, h2, (hl g (by rw [h1]; rfl)).2⟩

theorem Own.setCell_below {B : Nat} {w : World} {v : Value} {l : List Int} (h : Own B w v l) {a : Addr} (ha : a.block < B) (u : Value) : Own B (w.setCell a u) v l := ownsRow_setCell_below h ha u

set_option maxHeartbeats 400000 in
theorem lay_any (B b : Nat) (l : List Int) (x : Nat) (t : ByteArray) (w : World) (hB : B ≤ b) (h : WOk w b l) (hx : x < 2 ^ 64) (hl : l.length + 9 + t.size ≤ 140737488355328) :
    Calls Try.prog 97 #[.pointer (some ⟨b, 0, none⟩), .int .u64 x, .string t] w fun e w' => e = .returned (.tuple #[]) ∧ WOk w' b (l ++ M.form x ++ sb t) ∧ Below B w w' := by
  have hnb := M.nb_le x hx
  have HX := hide hx
  have HL := hide hl
  clear hx hl
  go_enter Try.func97, Try.ntmps97
  go_wp2_with fail
  refine (own_any B b l w hB h).mono ?_
  clear h
  rintro e w1 ⟨q, s, n, c, rfl, hw, hb1⟩
  obtain ⟨hlt, hltq, hlen, c0, c1, c2, f0, f1, f2, cq, fq, ho⟩ := hw
  have HLEN := hide hlen
  clear hlen
  go_wp2_with fail
  refine (appendNumber_any (q + 1) _ l x _ ho (by omega) HX.out (by have := HL.out; omega)).mono ?_
  clear ho
  rintro e w2 ⟨v2, rfl, ho2, hn2, hb2⟩
  have hs2 := hb2.size
  go_wp2_with (at_builtin; go_must (refine app_str _ rfl (.tmp 15) (.tmp 16) rfl (q + 1) (l ++ M.form x) v2 rfl t rfl ho2 ?zB ?zb ?zk))
  case zB => omega
  case zb => have := HL.out; simp [M.form_length]; omega
  case zk =>
    intro v3 w3 ho3 hn3 hg3
    have hb3 : Below (q + 1) w1 w3 := ho2.grown hb2 hg3 (by omega)
    have hs3 := hb3.size
    obtain ⟨g, c3, hv3, hg1, hg2⟩ := ho3.shape (hn3 (.inl hn2))
    subst hv3
    clear hn3 hg3 hn2 hb2 ho2
    rw [← List.append_assoc] at ho3
    generalize hLL : l ++ M.form x ++ sb t = L at *
    rw [show l ++ (M.form x ++ sb t) = L from by rw [← hLL, List.append_assoc]]
    generalize hNN : L.length = N at *
    have HLL := hide hLL
    have HNN := hide hNN
    clear hLL hNN
    have d0 := (hb3.cell (p := ⟨b, 0, none⟩) (by show b < q + 1; omega)).trans c0
    have d1 := (hb3.cell (p := ⟨b, 1, none⟩) (by show b < q + 1; omega)).trans c1
    have d2 := (hb3.cell (p := ⟨b, 2, none⟩) (by show b < q + 1; omega)).trans c2
    have e0 := (hb3.frozen (p := ⟨b, 0, none⟩) (by show b < q + 1; omega)).trans f0
    have e1 := (hb3.frozen (p := ⟨b, 1, none⟩) (by show b < q + 1; omega)).trans f1
    have e2 := (hb3.frozen (p := ⟨b, 2, none⟩) (by show b < q + 1; omega)).trans f2
    have dq := (hb3.cell (p := ⟨q, 0, none⟩) (by show q < q + 1; omega)).trans cq
    have eq := (hb3.frozen (p := ⟨q, 0, none⟩) (by show q < q + 1; omega)).trans fq
    clear c0 c1 c2 f0 f1 f2 cq fq
    go_wp2
    go_end0
    rw [HLL.out]
    refine ⟨rfl, Or.inr ⟨q, g, N, c3, ⟨hlt, by simp; omega, HNN.out.symm, ?_, ?_, ?_, ?_, ?_, ?_, ?_, ?_, ?_⟩⟩, hb1.trans (((hb3.mono (by omega)).setCell (by show B ≤ q; omega) _).setCell hB _)⟩
    all_goals first | (exact (ho3.setCell_below (by show q < q + 1; omega) _).setCell_below (by show b < q + 1; omega) _) | go_simp

end Go.Proofs.Ytomiifnhcojilaa.Wi
