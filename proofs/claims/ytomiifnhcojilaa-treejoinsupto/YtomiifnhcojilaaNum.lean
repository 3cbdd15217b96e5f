import Derived.Test.YtomiifnhcojilaaLen
namespace Go.Proofs.Ytomiifnhcojilaa.Wi
open Go.RowKit
set_option linter.unusedVariables false

theorem bitLenAux_bl : ∀ (f x : Nat), x < 2 ^ f → Lib.bitLenAux f x = M.bl x
  | 0, x, h => by
    obtain rfl : x = 0 := by simpa using h
    rfl
  | f + 1, x, h => by
    simp only [Lib.bitLenAux]
    split
    · rename_i hx; subst hx; rfl
    · rename_i hx
      rw [bitLenAux_bl f (x / 2) (by rw [Nat.pow_succ] at h; omega), M.bl_half x hx]
theorem len64_any (x : Nat) (w : World) (h : x < 2 ^ 64) :
    Calls Try.prog 102 #[.int .u64 x] w fun e w' => e = .returned (.int .i64 (M.bl x)) ∧ w' = w := by
  have := len64_raw x w (by omega) (by omega)
  rw [show Lib.bitLen (x : Int).toNat = M.bl x from by rw [Int.toNat_natCast]; exact bitLenAux_bl 64 x h] at this
  exact this

theorem Try.info5 : (Try.prog.info? 5).map (fun i => (i.zero, i.size, i.bytes)) = some (some (.int .u8 0), 1, 1) := by kernel_rfl
/-- Bytes as they lie in memory. -/
def bs (l : List Int) : List Value := l.map (Value.int .u8)
theorem bs_append (a b : List Int) : bs (a ++ b) = bs a ++ bs b := by simp [bs]
theorem bs_oneCell (l : List Int) : ∀ u ∈ bs l, u.oneCell' = true := ints_oneCell .u8 l
/-- The slice v is the call's own, from block B on, and holds the bytes l. -/
def Own (B : Nat) (w : World) (v : Value) (l : List Int) : Prop := w.ownsRow B 5 1 v l.length (bs l)
theorem Own.alloc {B : Nat} {w : World} {v : Value} {l : List Int} (h : Own B w v l) (o : Obj) : Own B (w.alloc o) v l := World.ownsRow.alloc h o
theorem Own.nil (B : Nat) (w : World) : Own B w (.slice none 0 0) [] := World.ownsRow_nil w B 5 1
theorem Own.grown {B : Nat} {w0 w w' : World} {v : Value} {l : List Int} (ho : Own B w v l) (h0 : Below B w0 w) (hg : w.grownBy w' v.ownBlock) (hB : B ≤ w.heap.size) : Below B w0 w' :=
  h0.grown hg hB (fun k hk => (World.ownsRow.lt ho k hk).1)

/-- The new value is nil only if the old one was and nothing came. -/
def Keeps (v v' : Value) (m : Nat) : Prop := v ≠ .slice none 0 0 ∨ 0 < m → v' ≠ .slice none 0 0
/-- 'append' of bytes that lie somewhere onto a slice of bytes that the call owns. -/
theorem app_any (w : World) {ops : Array Oper} {rest : List Oper} {o : Oper} {a : Act} {Q : Exit → Act → World → Prop} (hgd : o.guard = none) (s x : Operand)
    (ho : o.op = .call { callee := .builtin .append, args := #[s, x], argTypes := #[73, 73] }) (B : Nat) (l : List Int) (v : Value) (hs : a.eval s = v)
    (ad : Addr) (m c : Nat) (hx : a.eval x = .slice (some ad) m c) (news : List Int) (hm : news.length = m) (hown : Own B w v l)
    (hnews : ∀ j, j < m → w.cell? (ad.add j) = some (.int .u8 (news.getD j 0))) (hB : B ≤ w.heap.size) (hb : l.length + m ≤ 140737488355328)
    (h : ∀ v' w', Own B w' v' (l ++ news) → Keeps v v' m → w.grownBy w' v.ownBlock → wpList Try.prog ops Q rest (a.put o.dst v') w') : wpList Try.prog ops Q (o :: rest) a w := by
  obtain ⟨i0, hi, hz0, hz1, hz2⟩ := info_parts Try.info5
  refine wpList_append_own _ hgd s x 73 ho B 5 i0 (.int .u8 0) 1 1 Try.underlying73 hi hz0 hz1 hz2 rfl (by decide) v l.length (bs l) hs hown ad m c (bs news) hx (by simp [bs, hm]) ?_ (bs_oneCell _) (by unfold maxLen; omega) (by omega) hB ?_
  · intro j u hu
    have hj : j < news.length := by simpa [bs] using (List.getElem?_eq_some_iff.1 hu).1
    rw [hnews j (by omega), ← hu]
    simp [bs, hj, List.getD]
  · intro v' w' h2 h3 h4
    refine h v' w' ?_ ?_ h3
    · unfold Own; rw [bs_append, List.length_append, hm]; exact h2
    · intro hp he
      obtain ⟨k1, k2⟩ := h4.1 he
      rcases hp with hp | hp
      · exact hp k1
      · omega
/-- 'append' of one byte that has just been laid. -/
theorem app_one (w : World) {ops : Array Oper} {rest : List Oper} {o : Oper} {a : Act} {Q : Exit → Act → World → Prop} (hgd : o.guard = none) (s x : Operand)
    (ho : o.op = .call { callee := .builtin .append, args := #[s, x], argTypes := #[73, 73] }) (B : Nat) (l : List Int) (v : Value) (hs : a.eval s = v)
    (ad : Addr) (hx : a.eval x = .slice (some ad) 1 1) (y : Int) (hc : w.cell? ad = some (.int .u8 y)) (hown : Own B w v l) (hB : B ≤ w.heap.size) (hb : l.length + 1 ≤ 140737488355328)
    (h : ∀ v' w', Own B w' v' (l ++ [y]) → v' ≠ .slice none 0 0 → w.grownBy w' v.ownBlock → wpList Try.prog ops Q rest (a.put o.dst v') w') : wpList Try.prog ops Q (o :: rest) a w := by
  refine app_any w hgd s x ho B l v hs ad 1 1 hx [y] rfl hown ?_ hB hb fun v' w' h1 h2 h3 => h v' w' h1 (h2 (.inr (by omega))) h3
  intro j hj
  obtain rfl : j = 0 := by omega
  obtain ⟨b, o, s⟩ := ad
  exact hc

theorem dig_eq (x k j : Nat) : ((x : Int) / 2 ^ (8 * (k - 1 - j)) % 256) = M.dig x k j := by
  unfold M.dig
  rw [Nat.shiftRight_eq_div_pow]
  simp
set_option maxHeartbeats 400000 in
theorem appendNumber_any (B : Nat) (v : Value) (l : List Int) (x : Nat) (w : World) (hown : Own B w v l) (hB : B ≤ w.heap.size) (hx : x < 2 ^ 64) (hl : l.length + 9 ≤ 140737488355328) :
    Calls Try.prog 110 #[v, .int .u64 x] w fun e w' => ∃ v', e = .returned v' ∧ Own B w' v' (l ++ M.form x) ∧ v' ≠ .slice none 0 0 ∧ Below B w w' := by
  have hk8 := M.nb_le x hx
  have hbl : M.bl x ≤ 64 := (M.bl_le x 64).2 hx
  have HC := len64_any x
  have hc := fun w => HC w hx
  clear HC
  have HX := hide hx
  have HL := hide hl
  clear hx hl
  go_enter Try.func110, Try.ntmps110
  go_wp2_with fail
  refine (hc _).mono ?_
  clear hc
  rintro e w' ⟨rfl, rfl⟩
  go_wp2_with (at_builtin; go_must (refine app_one _ rfl (.tmp 11) (.tmp 14) rfl B l v rfl _ rfl (((M.bl x : Int) + 7) / 8) ?zc ?zown ?zB ?zb ?zk))
  case zc => simp
  case zown => exact hown.alloc _
  case zB => simp; omega
  case zb => have := HL.out; omega
  case zk =>
    intro v1 w1 h1 h2 h3
    have hb1 : Below B w' w1 := (hown.alloc _).grown ((Below.refl B w').alloc hB (.cells #[.int .u8 (((M.bl x : Int) + 7) / 8)] 5)) h3 (by simp; omega)
    clear h3 hown
    have ek : (((M.bl x : Int) + 7) / 8) = ((M.nb x : Nat) : Int) := by unfold M.nb; omega
    rw [ek, ← M.pre_zero] at h1
    rw [ek]
    go_wp2_with fail
    go_loopw [0, 6, 17] (fun b _ i wr => ∃ j : Nat, j ≤ M.nb x ∧ i = .int .i64 j ∧ Own B wr b (l ++ M.pre x j) ∧ Below B w' wr ∧ b ≠ .slice none 0 0) (fun _ _ i _ => M.nb x - (intOf i).toNat)
    case atStart => exact ⟨0, Nat.zero_le _, rfl, h1, hb1, h2⟩
    case round =>
      obtain ⟨j, hj, rfl, hr, hbr, hn⟩ := hrel
      have hsr := hbr.size
      by_cases hlt : j < M.nb x
      · go_wp2_with (at_builtin; go_must (refine app_one _ rfl (.tmp 20) (.tmp 29) rfl B (l ++ M.pre x j) u0 rfl _ rfl ((x : Int) / 2 ^ (8 * (M.nb x - 1 - j)) % 256) ?zc ?zown ?zB ?zb ?zk))
        case zc => simp
        case zown => exact hr.alloc _
        case zB => simp; omega
        case zb => have := HL.out; simp [M.pre_length]; omega
        case zk =>
          intro v2 w2 k1 k2 k3
          have hb2 : Below B w' w2 := (hr.alloc _).grown (hbr.alloc (by omega) (.cells #[.int .u8 ((x : Int) / 2 ^ (8 * (M.nb x - 1 - j)) % 256)] 5)) k3 (by simp; omega)
          have k4 : Own B w2 v2 (l ++ M.pre x (j + 1)) := by rw [M.pre_succ, ← dig_eq]; exact k1
          clear k1 k3 hr hbr
          go_wp2
          go_roundw
          case rel => exact ⟨j + 1, by omega, by go_num, k4, hb2, k2⟩
          case measure => simp [intOf]; omega
      · obtain rfl : j = M.nb x := by omega
        go_wp2
        go_ret
        exact ⟨_, rfl, hr, hn, hbr⟩
#print axioms appendNumber_any

end Go.Proofs.Ytomiifnhcojilaa.Wi
