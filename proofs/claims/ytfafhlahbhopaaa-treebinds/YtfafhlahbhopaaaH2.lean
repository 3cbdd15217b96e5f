import Derived.Test.YtfafhlahbhopaaaRows
import Derived.WalkKit
import Derived.WalkSpells
import Derived.WalkLawsBesides
import Derived.Lib.BitFns
import Derived.Deep.Light
import Derived.Lib.AppendStr
import Derived.Deep.QuietTactic
import Derived.BigQuiet
import Derived.Laws.AppendOwnNone
import Derived.Deep.RegionWith
import Derived.Lib.SlBytesConst
import Derived.Test.YtfafhlahbhopaaaH1
set_option maxRecDepth 100000
set_option linter.unusedVariables false
set_option linter.unusedSimpArgs false
/- The plain mathematics of wire: the sum (a CRC, bit by bit) over natural numbers below 2^32. -/
namespace Go.Proofs.Ytfafhlahbhopaaa.M
def st (s : Nat) : Nat := (s >>> 1) ^^^ (3988292384 * (s &&& 1))
def stN : Nat → Nat → Nat
  | 0, s => s
  | k + 1, s => st (stN k s)
def upd (s : Nat) (z : Int) : Nat := stN 8 (s ^^^ z.toNat)
def bl (v : Nat) : Nat := if v = 0 then 0 else Nat.log2 v + 1
theorem bl_le (v j : Nat) : bl v ≤ j ↔ v < 2 ^ j := by
  unfold bl
  by_cases h : v = 0
  · subst h; simp [Nat.pow_pos]
  · rw [if_neg h]
    have := Nat.log2_lt (k := j) h
    omega
theorem bl_shift (v j : Nat) (h : 2 ^ j ≤ v) : bl v = bl (v / 2 ^ j) + j := by
  apply Nat.le_antisymm
  · rw [bl_le, Nat.pow_add]
    have h2 : v / 2 ^ j < 2 ^ bl (v / 2 ^ j) := (bl_le _ _).1 (Nat.le_refl _)
    exact (Nat.div_lt_iff_lt_mul (Nat.pow_pos (by omega))).1 h2
  · have h1 : j < bl v := by
      apply Nat.lt_of_not_le
      intro hle
      have := (bl_le v j).1 hle
      omega
    have h3 : v < 2 ^ bl v := (bl_le _ _).1 (Nat.le_refl _)
    have h4 : bl (v / 2 ^ j) ≤ bl v - j := by
      rw [bl_le, Nat.div_lt_iff_lt_mul (Nat.pow_pos (by omega)), ← Nat.pow_add]
      rwa [Nat.sub_add_cancel (by omega)]
    omega
theorem bl_half (v : Nat) (h : v ≠ 0) : bl v = 1 + bl (v / 2) := by
  by_cases h1 : v = 1
  · subst h1; decide
  · have := bl_shift v 1 (by omega)
    rw [Nat.pow_one] at this
    omega
def nb (v : Nat) : Nat := (bl v + 7) / 8
def dig (v k i : Nat) : Int := ((v >>> (8 * (k - 1 - i)) % 256 : Nat) : Int)
def digs (v k j : Nat) : List Int := (List.range j).map (dig v k)
def form (v : Nat) : List Int := (nb v : Int) :: digs v (nb v) (nb v)
theorem digs_succ (v k j : Nat) : digs v k (j + 1) = digs v k j ++ [dig v k j] := by simp [digs, List.range_succ]
theorem digs_length (v k j : Nat) : (digs v k j).length = j := by simp [digs]
theorem nb_le (v : Nat) (h : v < 2 ^ 64) : nb v ≤ 8 := by have := (bl_le v 64).2 h; unfold nb; omega
theorem form_length (v : Nat) : (form v).length = nb v + 1 := by simp [form, digs_length]
def pre (v j : Nat) : List Int := (nb v : Int) :: digs v (nb v) j
theorem pre_zero (v : Nat) : pre v 0 = [(nb v : Int)] := rfl
theorem pre_succ (v j : Nat) : pre v (j + 1) = pre v j ++ [dig v (nb v) j] := by simp [pre, digs_succ]
theorem pre_length (v j : Nat) : (pre v j).length = j + 1 := by simp [pre, digs_length]
def beAt (n i : Nat) : Int := ((n >>> (24 - 8 * i) % 256 : Nat) : Int)
def be (n j : Nat) : List Int := (List.range j).map (beAt n)
end Go.Proofs.Ytfafhlahbhopaaa.M
namespace Go.Proofs.Ytfafhlahbhopaaa.Wi
open Go.RowKit
theorem ret_int {k : IntKind} {a b : Int} (h : a = b) : Ending.returned (.int k a) = .returned (.int k b) := by rw [h]
theorem hide {p : Prop} (h : p) : Hid p := h
theorem tab_size : Lib.len8tab.size = 256 := by decide
theorem tab_at (y : Int) (h : y.toNat < Lib.len8tab.size) (h0 : 0 ≤ y) (h1 : y ≤ 255) : ((Lib.len8tab[y.toNat]'h).toNat : Int) = (Lib.bitLen y.toNat : Nat) := by
  rw [← Lib.len8_of y h0 h1]
  unfold Lib.len8
  rw [getElem?_pos Lib.len8tab y.toNat h]
  rfl
theorem way (k : Nat) (x y : Int) (h : y.toNat < Lib.len8tab.size) (hk : k ≤ 56) (h0 : 0 ≤ y) (h1 : y ≤ 255) (e : y.toNat = x.toNat / 2 ^ k) (hx : 2 ^ k ≤ x.toNat) (hm : x.toNat < 2 ^ 64) :
    wrap64 ((k : Int) + wrap64 ((Lib.len8tab[y.toNat]'h).toNat : Int)) = (Lib.bitLen x.toNat : Nat) := by
  have hl := Lib.bitLen_le8' y h0 h1
  rw [tab_at y h h0 h1, Lib.bitLen_shift k x.toNat hx hm, ← e]
  unfold wrap64
  omega
theorem way0 (y : Int) (h : y.toNat < Lib.len8tab.size) (h0 : 0 ≤ y) (h1 : y ≤ 255) :
    wrap64 ((Lib.len8tab[y.toNat]'h).toNat : Int) = (Lib.bitLen y.toNat : Nat) := by
  have hl := Lib.bitLen_le8' y h0 h1
  rw [tab_at y h h0 h1]
  unfold wrap64
  omega
theorem way00 (y : Int) (h : y.toNat < Lib.len8tab.size) (h0 : 0 ≤ y) (h1 : y ≤ 255) :
    wrap64 (wrap64 ((Lib.len8tab[y.toNat]'h).toNat : Int)) = (Lib.bitLen y.toNat : Nat) := by
  rw [way0 y h h0 h1]
  have hl := Lib.bitLen_le8' y h0 h1
  unfold wrap64
  omega
set_option maxHeartbeats 1000000 in
theorem len64_raw (x : Int) (w : World) (h0 : 0 ≤ x) (h1 : x ≤ 18446744073709551615) :
    Calls Try.prog 98 #[.int .u64 x] w fun e w' => e = .returned (.int .i64 (Lib.bitLen x.toNat)) ∧ w' = w := by
  go_enter Try.func98, Try.ntmps98
  go_wp2
  all_goals first
    | (go_ret; refine ⟨ret_int ?_, rfl⟩; go_light)
    | (exfalso; go_light; have hs := tab_size; omega)
  all_goals first
    | exact way 56 x _ _ (by omega) (by omega) (by omega) (by omega) (by omega) (by omega)
    | exact way 48 x _ _ (by omega) (by omega) (by omega) (by omega) (by omega) (by omega)
    | exact way 40 x _ _ (by omega) (by omega) (by omega) (by omega) (by omega) (by omega)
    | exact way 32 x _ _ (by omega) (by omega) (by omega) (by omega) (by omega) (by omega)
    | exact way 24 x _ _ (by omega) (by omega) (by omega) (by omega) (by omega) (by omega)
    | exact way 16 x _ _ (by omega) (by omega) (by omega) (by omega) (by omega) (by omega)
    | exact way 8 x _ _ (by omega) (by omega) (by omega) (by omega) (by omega) (by omega)
    | exact way00 x _ (by omega) (by omega)
    | exact way0 x _ (by omega) (by omega)
theorem bitLenAux_bl : ∀ (f x : Nat), x < 2 ^ f → Lib.bitLenAux f x = M.bl x
  | 0, x, h => by
    obtain rfl : x = 0 := by simpa using h
    rfl
  | f + 1, x, h => by
    simp only [Lib.bitLenAux]
    split
    · rename_i hx; subst hx; rfl
    · rename_i hx
      rw [bitLenAux_bl f (x / 2) (by rw [Nat.pow_succ] at h; omega), M.bl_half x hx]
theorem len64_any (x : Nat) (w : World) (h : x < 2 ^ 64) :
    Calls Try.prog 98 #[.int .u64 x] w fun e w' => e = .returned (.int .i64 (M.bl x)) ∧ w' = w := by
  have := len64_raw x w (by omega) (by omega)
  rw [show Lib.bitLen (x : Int).toNat = M.bl x from by rw [Int.toNat_natCast]; exact bitLenAux_bl 64 x h] at this
  exact this
theorem Try.info5 : (Try.prog.info? 5).map (fun i => (i.zero, i.size, i.bytes)) = some (some (.int .u8 0), 1, 1) := by kernel_rfl
def bs (l : List Int) : List Value := l.map (Value.int .u8)
theorem bs_append (a b : List Int) : bs (a ++ b) = bs a ++ bs b := by simp [bs]
theorem bs_oneCell (l : List Int) : ∀ u ∈ bs l, u.oneCell' = true := ints_oneCell .u8 l
def Own (B : Nat) (w : World) (v : Value) (l : List Int) : Prop := w.ownsRow B 5 1 v l.length (bs l)
theorem Own.alloc {B : Nat} {w : World} {v : Value} {l : List Int} (h : Own B w v l) (o : Obj) : Own B (w.alloc o) v l := World.ownsRow.alloc h o
theorem Own.nil (B : Nat) (w : World) : Own B w (.slice none 0 0) [] := World.ownsRow_nil w B 5 1
theorem Own.grown {B : Nat} {w0 w w' : World} {v : Value} {l : List Int} (ho : Own B w v l) (h0 : Below B w0 w) (hg : w.grownBy w' v.ownBlock) (hB : B ≤ w.heap.size) : Below B w0 w' :=
  h0.grown hg hB (fun k hk => (World.ownsRow.lt ho k hk).1)
def Keeps (v v' : Value) (m : Nat) : Prop := v ≠ .slice none 0 0 ∨ 0 < m → v' ≠ .slice none 0 0
theorem app_any (w : World) {ops : Array Oper} {rest : List Oper} {o : Oper} {a : Act} {Q : Exit → Act → World → Prop} (hgd : o.guard = none) (s x : Operand)
    (ho : o.op = .call { callee := .builtin .append, args := #[s, x], argTypes := #[71, 71] }) (B : Nat) (l : List Int) (v : Value) (hs : a.eval s = v)
    (ad : Addr) (m c : Nat) (hx : a.eval x = .slice (some ad) m c) (news : List Int) (hm : news.length = m) (hown : Own B w v l)
    (hnews : ∀ j, j < m → w.cell? (ad.add j) = some (.int .u8 (news.getD j 0))) (hB : B ≤ w.heap.size) (hb : l.length + m ≤ 140737488355328)
    (h : ∀ v' w', Own B w' v' (l ++ news) → Keeps v v' m → w.grownBy w' v.ownBlock → wpList Try.prog ops Q rest (a.put o.dst v') w') : wpList Try.prog ops Q (o :: rest) a w := by
  obtain ⟨i0, hi, hz0, hz1, hz2⟩ := info_parts Try.info5
  refine wpList_append_own _ hgd s x 71 ho B 5 i0 (.int .u8 0) 1 1 Try.underlying71 hi hz0 hz1 hz2 rfl (by decide) v l.length (bs l) hs hown ad m c (bs news) hx (by simp [bs, hm]) ?_ (bs_oneCell _) (by unfold maxLen; omega) (by omega) hB ?_
  · intro j u hu
    have hj : j < news.length := by simpa [bs] using (List.getElem?_eq_some_iff.1 hu).1
    rw [hnews j (by omega), ← hu]
    simp [bs, hj, List.getD]
  · intro v' w' h2 h3 h4
    refine h v' w' ?_ ?_ h3
    · unfold Own; rw [bs_append, List.length_append, hm]; exact h2
    · intro hp he
      obtain ⟨k1, k2⟩ := h4.1 he
      rcases hp with hp | hp
      · exact hp k1
      · omega
theorem app_one (w : World) {ops : Array Oper} {rest : List Oper} {o : Oper} {a : Act} {Q : Exit → Act → World → Prop} (hgd : o.guard = none) (s x : Operand)
    (ho : o.op = .call { callee := .builtin .append, args := #[s, x], argTypes := #[71, 71] }) (B : Nat) (l : List Int) (v : Value) (hs : a.eval s = v)
    (ad : Addr) (hx : a.eval x = .slice (some ad) 1 1) (y : Int) (hc : w.cell? ad = some (.int .u8 y)) (hown : Own B w v l) (hB : B ≤ w.heap.size) (hb : l.length + 1 ≤ 140737488355328)
    (h : ∀ v' w', Own B w' v' (l ++ [y]) → v' ≠ .slice none 0 0 → w.grownBy w' v.ownBlock → wpList Try.prog ops Q rest (a.put o.dst v') w') : wpList Try.prog ops Q (o :: rest) a w := by
  refine app_any w hgd s x ho B l v hs ad 1 1 hx [y] rfl hown ?_ hB hb fun v' w' h1 h2 h3 => h v' w' h1 (h2 (.inr (by omega))) h3
  intro j hj
  obtain rfl : j = 0 := by omega
  obtain ⟨b, o, s⟩ := ad
  exact hc
theorem dig_eq (x k j : Nat) : ((x : Int) / 2 ^ (8 * (k - 1 - j)) % 256) = M.dig x k j := by
  unfold M.dig
  rw [Nat.shiftRight_eq_div_pow]
  simp
set_option maxHeartbeats 400000 in
theorem appendNumber_any (B : Nat) (v : Value) (l : List Int) (x : Nat) (w : World) (hown : Own B w v l) (hB : B ≤ w.heap.size) (hx : x < 2 ^ 64) (hl : l.length + 9 ≤ 140737488355328) :
    Calls Try.prog 106 #[v, .int .u64 x] w fun e w' => ∃ v', e = .returned v' ∧ Own B w' v' (l ++ M.form x) ∧ v' ≠ .slice none 0 0 ∧ Below B w w' := by
  have hk8 := M.nb_le x hx
  have hbl : M.bl x ≤ 64 := (M.bl_le x 64).2 hx
  have HC := len64_any x
  have hc := fun w => HC w hx
  clear HC
  have HX := hide hx
  have HL := hide hl
  clear hx hl
  go_enter Try.func106, Try.ntmps106
  go_wp2_with fail
  refine (hc _).mono ?_
  clear hc
  rintro e w' ⟨rfl, rfl⟩
  go_wp2_with (at_builtin; go_must (refine app_one _ rfl (.tmp 11) (.tmp 14) rfl B l v rfl _ rfl (((M.bl x : Int) + 7) / 8) ?zc ?zown ?zB ?zb ?zk))
  case zc => simp
  case zown => exact hown.alloc _
  case zB => simp; omega
  case zb => have := HL.out; omega
  case zk =>
    intro v1 w1 h1 h2 h3
    have hb1 : Below B w' w1 := (hown.alloc _).grown ((Below.refl B w').alloc hB (.cells #[.int .u8 (((M.bl x : Int) + 7) / 8)] 5)) h3 (by simp; omega)
    clear h3 hown
    have ek : (((M.bl x : Int) + 7) / 8) = ((M.nb x : Nat) : Int) := by unfold M.nb; omega
    rw [ek, ← M.pre_zero] at h1
    rw [ek]
    go_wp2_with fail
    go_loopw [0, 6, 17] (fun b _ i wr => ∃ j : Nat, j ≤ M.nb x ∧ i = .int .i64 j ∧ Own B wr b (l ++ M.pre x j) ∧ Below B w' wr ∧ b ≠ .slice none 0 0) (fun _ _ i _ => M.nb x - (intOf i).toNat)
    case atStart => exact ⟨0, Nat.zero_le _, rfl, h1, hb1, h2⟩
    case round =>
      obtain ⟨j, hj, rfl, hr, hbr, hn⟩ := hrel
      have hsr := hbr.size
      by_cases hlt : j < M.nb x
      · go_wp2_with (at_builtin; go_must (refine app_one _ rfl (.tmp 20) (.tmp 29) rfl B (l ++ M.pre x j) u0 rfl _ rfl ((x : Int) / 2 ^ (8 * (M.nb x - 1 - j)) % 256) ?zc ?zown ?zB ?zb ?zk))
        case zc => simp
        case zown => exact hr.alloc _
        case zB => simp; omega
        case zb => have := HL.out; simp [M.pre_length]; omega
        case zk =>
          intro v2 w2 k1 k2 k3
          have hb2 : Below B w' w2 := (hr.alloc _).grown (hbr.alloc (by omega) (.cells #[.int .u8 ((x : Int) / 2 ^ (8 * (M.nb x - 1 - j)) % 256)] 5)) k3 (by simp; omega)
          have k4 : Own B w2 v2 (l ++ M.pre x (j + 1)) := by rw [M.pre_succ, ← dig_eq]; exact k1
          clear k1 k3 hr hbr
          go_wp2
          go_roundw
          case rel => exact ⟨j + 1, by omega, by go_num, k4, hb2, k2⟩
          case measure => simp [intOf]; omega
      · obtain rfl : j = M.nb x := by omega
        go_wp2
        go_ret
        exact ⟨_, rfl, hr, hn, hbr⟩
def sb (s : ByteArray) : List Int := s.data.toList.map fun b => (b.toNat : Int)
theorem sb_length (s : ByteArray) : (sb s).length = s.size := by
  rw [sb, List.length_map, Array.length_toList]
  rfl
theorem sb_cells (s : ByteArray) : Lib.strCells s = bs (sb s) := by simp [Lib.strCells, bs, sb]
theorem app_str (w : World) {ops : Array Oper} {rest : List Oper} {o : Oper} {a : Act} {Q : Exit → Act → World → Prop} (hgd : o.guard = none) (sl x : Operand)
    (ho : o.op = .call { callee := .builtin .append, args := #[sl, x], argTypes := #[71, 9] }) (B : Nat) (l : List Int) (v : Value) (hs : a.eval sl = v)
    (s : ByteArray) (hx : a.eval x = .string s) (hown : Own B w v l) (hB : B ≤ w.heap.size) (hb : l.length + s.size ≤ 140737488355328)
    (h : ∀ v' w', Own B w' v' (l ++ sb s) → Keeps v v' s.size → w.grownBy w' v.ownBlock → wpList Try.prog ops Q rest (a.put o.dst v') w') : wpList Try.prog ops Q (o :: rest) a w := by
  obtain ⟨i0, hi, hz0, hz1, hz2⟩ := info_parts Try.info5
  refine Lib.wpList_append_own_string w hgd sl x 71 9 ho B 5 i0 Try.underlying71 Try.underlying9 hi hz0 hz1 hz2 v l.length (bs l) hs hown s hx (by unfold maxLen; omega) hb hB ?_
  intro v' w' h2 h3 h4
  refine h v' w' ?_ ?_ h3
  · unfold Own; rw [bs_append, List.length_append, sb_length, ← sb_cells]; exact h2
  · intro hp he
    obtain ⟨k1, k2⟩ := h4.1 he
    rcases hp with hp | hp
    · exact hp k1
    · omega
structure WNew (w : World) (b : Nat) : Prop where
  lt : b < w.heap.size
  c0 : w.cell? ⟨b, 0, none⟩ = some (.pointer none)
  c1 : w.cell? ⟨b, 1, none⟩ = some (.int .i64 0)
  c2 : w.cell? ⟨b, 2, none⟩ = some (.int .i64 0)
  f0 : w.frozen? ⟨b, 0, none⟩ = false
  f1 : w.frozen? ⟨b, 1, none⟩ = false
  f2 : w.frozen? ⟨b, 2, none⟩ = false
structure WHas (w : World) (b q : Nat) (s : Option Addr) (n c : Nat) (l : List Int) : Prop where
  lt : b < q
  ltq : q < w.heap.size
  len : n = l.length
  c0 : w.cell? ⟨b, 0, none⟩ = some (.pointer (some ⟨q, 0, none⟩))
  c1 : w.cell? ⟨b, 1, none⟩ = some (.int .i64 n)
  c2 : w.cell? ⟨b, 2, none⟩ = some (.int .i64 0)
  f0 : w.frozen? ⟨b, 0, none⟩ = false
  f1 : w.frozen? ⟨b, 1, none⟩ = false
  f2 : w.frozen? ⟨b, 2, none⟩ = false
  cq : w.cell? ⟨q, 0, none⟩ = some (.slice s n c)
  fq : w.frozen? ⟨q, 0, none⟩ = false
  own : Own (q + 1) w (.slice s n c) l
def WOk (w : World) (b : Nat) (l : List Int) : Prop := (l = [] ∧ WNew w b) ∨ ∃ q g n c, WHas w b q (some ⟨g, 0, none⟩) n c l
set_option maxHeartbeats 400000 in
theorem own_nil (b : Nat) (w : World) (hb : b < w.heap.size) (h0 : w.cell? ⟨b, 0, none⟩ = some (.pointer none)) (f0 : w.frozen? ⟨b, 0, none⟩ = false) :
    Calls Try.prog 105 #[.pointer (some ⟨b, 0, none⟩)] w fun e w' => e = .returned (.pointer (some ⟨w.heap.size, 0, none⟩)) ∧
      w' = (w.setCell ⟨b, 0, none⟩ (.pointer (some ⟨w.heap.size, 0, none⟩))).alloc (.cells #[.slice none 0 0] 147) := by
  go_enter Try.func105, Try.ntmps105
  go_wp2
  go_ret
  exact ⟨rfl, rfl⟩
set_option maxHeartbeats 400000 in
theorem own_has (b q n : Nat) (s : Option Addr) (c : Nat) (w : World) (h0 : w.cell? ⟨b, 0, none⟩ = some (.pointer (some ⟨q, 0, none⟩))) (h1 : w.cell? ⟨b, 1, none⟩ = some (.int .i64 n)) (hq : w.cell? ⟨q, 0, none⟩ = some (.slice s n c)) :
    Calls Try.prog 105 #[.pointer (some ⟨b, 0, none⟩)] w fun e w' => e = .returned (.pointer (some ⟨q, 0, none⟩)) ∧ ∃ k, w' = w.drewN k := by
  go_enter Try.func105, Try.ntmps105
  go_wp2
  go_quiet (fail)
  go_wp2
  go_ret
  exact ⟨rfl, _, rfl⟩
theorem own_any (B b : Nat) (l : List Int) (w : World) (hB : B ≤ b) (h : WOk w b l) :
    Calls Try.prog 105 #[.pointer (some ⟨b, 0, none⟩)] w fun e w' => ∃ q s n c, e = .returned (.pointer (some ⟨q, 0, none⟩)) ∧ WHas w' b q s n c l ∧ Below B w w' := by
  rcases h with ⟨rfl, h⟩ | ⟨q, g, n, c, h⟩
  · refine (own_nil b w h.lt h.c0 h.f0).mono ?_
    rintro e w' ⟨rfl, rfl⟩
    have hlt := h.lt
    refine ⟨w.heap.size, none, 0, 0, rfl, ⟨h.lt, by simp, rfl, ?_, ?_, ?_, ?_, ?_, ?_, ?_, ?_, Own.nil _ _⟩, ((Below.refl B w).setCell hB _).alloc (by simp; omega) _⟩
    all_goals obtain ⟨_, c0, c1, c2, f0, f1, f2⟩ := h
    all_goals go_simp
  · refine (own_has b q n (some ⟨g, 0, none⟩) c w h.c0 h.c1 h.cq).mono ?_
    rintro e w' ⟨rfl, k, rfl⟩
    exact ⟨q, _, n, c, rfl, ⟨h.lt, h.ltq, h.len, h.c0, h.c1, h.c2, h.f0, h.f1, h.f2, h.cq, h.fq, h.own⟩, below_drewN (Below.refl _ _) k⟩
theorem Own.shape {B : Nat} {w : World} {v : Value} {l : List Int} (h : Own B w v l) (hn : v ≠ .slice none 0 0) : ∃ g c, v = .slice (some ⟨g, 0, none⟩) l.length c ∧ B ≤ g ∧ g < w.heap.size := by
  have hl := World.ownsRow.lt h
  rcases h.2 with ⟨h1, _⟩ | ⟨g, c, _, h1, h2, _⟩
  · exact absurd h1 hn
  · exact ⟨g, c, h1, h2, (hl g (by rw [h1]; rfl)).2⟩
theorem Own.setCell_below {B : Nat} {w : World} {v : Value} {l : List Int} (h : Own B w v l) {a : Addr} (ha : a.block < B) (u : Value) : Own B (w.setCell a u) v l := ownsRow_setCell_below h ha u
set_option maxHeartbeats 400000 in
theorem lay_any (B b : Nat) (l : List Int) (x : Nat) (t : ByteArray) (w : World) (hB : B ≤ b) (h : WOk w b l) (hx : x < 2 ^ 64) (hl : l.length + 9 + t.size ≤ 140737488355328) :
    Calls Try.prog 93 #[.pointer (some ⟨b, 0, none⟩), .int .u64 x, .string t] w fun e w' => e = .returned (.tuple #[]) ∧ WOk w' b (l ++ M.form x ++ sb t) ∧ Below B w w' := by
  have hnb := M.nb_le x hx
  have HX := hide hx
  have HL := hide hl
  clear hx hl
  go_enter Try.func93, Try.ntmps93
  go_wp2_with fail
  refine (own_any B b l w hB h).mono ?_
  clear h
  rintro e w1 ⟨q, s, n, c, rfl, hw, hb1⟩
  obtain ⟨hlt, hltq, hlen, c0, c1, c2, f0, f1, f2, cq, fq, ho⟩ := hw
  have HLEN := hide hlen
  clear hlen
  go_wp2_with fail
  refine (appendNumber_any (q + 1) _ l x _ ho (by omega) HX.out (by have := HL.out; omega)).mono ?_
  clear ho
  rintro e w2 ⟨v2, rfl, ho2, hn2, hb2⟩
  have hs2 := hb2.size
  go_wp2_with (at_builtin; go_must (refine app_str _ rfl (.tmp 15) (.tmp 16) rfl (q + 1) (l ++ M.form x) v2 rfl t rfl ho2 ?zB ?zb ?zk))
  case zB => omega
  case zb => have := HL.out; simp [M.form_length]; omega
  case zk =>
    intro v3 w3 ho3 hn3 hg3
    have hb3 : Below (q + 1) w1 w3 := ho2.grown hb2 hg3 (by omega)
    have hs3 := hb3.size
    obtain ⟨g, c3, hv3, hg1, hg2⟩ := ho3.shape (hn3 (.inl hn2))
    subst hv3
    clear hn3 hg3 hn2 hb2 ho2
    rw [← List.append_assoc] at ho3
    generalize hLL : l ++ M.form x ++ sb t = L at *
    rw [show l ++ (M.form x ++ sb t) = L from by rw [← hLL, List.append_assoc]]
    generalize hNN : L.length = N at *
    have HLL := hide hLL
    have HNN := hide hNN
    clear hLL hNN
    have d0 := (hb3.cell (p := ⟨b, 0, none⟩) (by show b < q + 1; omega)).trans c0
    have d1 := (hb3.cell (p := ⟨b, 1, none⟩) (by show b < q + 1; omega)).trans c1
    have d2 := (hb3.cell (p := ⟨b, 2, none⟩) (by show b < q + 1; omega)).trans c2
    have e0 := (hb3.frozen (p := ⟨b, 0, none⟩) (by show b < q + 1; omega)).trans f0
    have e1 := (hb3.frozen (p := ⟨b, 1, none⟩) (by show b < q + 1; omega)).trans f1
    have e2 := (hb3.frozen (p := ⟨b, 2, none⟩) (by show b < q + 1; omega)).trans f2
    have dq := (hb3.cell (p := ⟨q, 0, none⟩) (by show q < q + 1; omega)).trans cq
    have eq := (hb3.frozen (p := ⟨q, 0, none⟩) (by show q < q + 1; omega)).trans fq
    clear c0 c1 c2 f0 f1 f2 cq fq
    go_wp2
    go_end0
    rw [HLL.out]
    refine ⟨rfl, Or.inr ⟨q, g, N, c3, ⟨hlt, by simp; omega, HNN.out.symm, ?_, ?_, ?_, ?_, ?_, ?_, ?_, ?_, ?_⟩⟩, hb1.trans (((hb3.mono (by omega)).setCell (by show B ≤ q; omega) _).setCell hB _)⟩
    all_goals first | (exact (ho3.setCell_below (by show q < q + 1; omega) _).setCell_below (by show b < q + 1; omega) _) | go_simp
def Row (w : World) (x : Addr) (zs : List Int) : Prop := ∀ i, i < zs.length → w.cell? (x.add i) = some (.int .u8 (zs.getD i 0))
theorem Row.later {w w' : World} {x : Addr} {zs : List Int} (h : Row w x zs) (hb : Below w.heap.size w w') : Row w' x zs := fun i hi => cell_later hb (h i hi)
set_option maxHeartbeats 400000 in
theorem clone_any (x : Addr) (len cap : Nat) (zs : List Int) (w : World) (hl : len ≤ zs.length) (hm : len ≤ 140737488355328) (hc : Row w x zs) :
    Calls Try.prog 95 #[.slice (some x) len cap] w fun e w' => ∃ v', e = .returned v' ∧ Own w.heap.size w' v' (zs.take len) ∧ v' ≠ .slice none 0 0 ∧ Below w.heap.size w w' := by
  have kn := fun (w : World) => Lib.run_eql_slice_nil (P := Try.prog) w 71 5 (some x) len cap 0 0 Try.underlying71
  go_enter Try.func95, Try.ntmps95
  go_wp2_with (at_builtin; go_must (refine app_any _ rfl (.tmp 5) (.tmp 6) rfl w.heap.size [] _ rfl x len cap rfl (zs.take len) ?zl ?zown ?zc ?zB ?zb ?zk))
  case zl => simp; omega
  case zown => exact World.ownsRow_made w #[] 0 (Nat.le_refl _) (by unfold maxLen; omega) rfl
  case zc =>
    intro j hj
    rw [List.getD_eq_getElem?_getD, List.getElem?_take_of_lt hj, ← List.getD_eq_getElem?_getD]
    exact hc.later ((Below.refl _ _).alloc (Nat.le_refl _) _) j (by omega)
  case zB => simp
  case zb => simpa using hm
  case zk =>
    intro v' w' h1 h2 h3
    have hb : Below w.heap.size w w' := ((Below.refl _ _).alloc (Nat.le_refl _) _).grown h3 (by simp) (fun k hk => by cases hk; exact Nat.le_refl _)
    go_wp2
    go_ret
    exact ⟨v', rfl, h1, h2 (.inl (by intro h; cases h)), hb⟩
theorem Own.row {B : Nat} {w : World} {g n c : Nat} {l : List Int} (h : Own B w (.slice (some ⟨g, 0, none⟩) n c) l) : Row w ⟨g, 0, none⟩ l := by
  intro i hi
  refine World.ownsRow.cells h (g := g) rfl i _ ?_
  simp [bs, hi, List.getD]
theorem Own.cap {B : Nat} {w : World} {g n c : Nat} {l : List Int} (h : Own B w (.slice (some ⟨g, 0, none⟩) n c) l) : n ≤ c := by
  rcases h.2 with ⟨h1, _⟩ | ⟨g, c, _, h1, _, _, h2, _⟩
  · cases h1
  · cases h1; exact h2
structure Hs (w : World) (a : Option Addr) (n c : Nat) (l : List Int) : Prop where
  len : l.length = n
  cap : n ≤ c
  row : ∀ x, a = some x → Row w x l
  nil : a = none → l = [] ∧ c = 0
  byte : ∀ z ∈ l, 0 ≤ z ∧ z < 256
set_option maxHeartbeats 400000 in
theorem number_ok (B b : Nat) (l : List Int) (x : Nat) (w : World) (hB : B ≤ b) (h : WOk w b l) (hx : x < 2 ^ 64) (hl : l.length + 9 ≤ 140737488355328) :
    Calls Try.prog 72 #[.pointer (some ⟨b, 0, none⟩), .int .u64 x] w fun e w' => e = .returned (.tuple #[]) ∧ WOk w' b (l ++ M.form x) ∧ Below B w w' := by
  have hc : w.cell? ⟨b, 2, none⟩ = some (.int .i64 0) := by
    rcases h with ⟨_, h⟩ | ⟨_, _, _, _, h⟩
    · exact h.c2
    · exact h.c2
  have HX := hide hx
  clear hx
  go_enter Try.func72, Try.ntmps72
  go_wp2_with (go_at_call 92; go_in)
  refine (lay_any B b l x ⟨#[]⟩ w hB h HX.out (by show l.length + 9 + 0 ≤ _; omega)).mono ?_
  rintro e w1 ⟨rfl, h1, h2⟩
  go_wp2
  go_end0
  exact ⟨rfl, by simpa [sb] using h1, h2⟩
set_option maxHeartbeats 400000 in
theorem bytes_new (b : Nat) (w : World) (h : WNew w b) :
    Calls Try.prog 74 #[.pointer (some ⟨b, 0, none⟩)] w fun e w' => e = .returned (.tuple #[.slice none 0 0, .int .i64 0]) ∧ w' = w := by
  obtain ⟨_, c0, c1, c2, f0, f1, f2⟩ := h
  go_enter Try.func74, Try.ntmps74
  go_wp2
  go_ret2
  exact ⟨rfl, rfl⟩
set_option maxHeartbeats 400000 in
theorem bytes_has (b q g n c : Nat) (l : List Int) (w : World) (h : WHas w b q (some ⟨g, 0, none⟩) n c l) (hl : l.length ≤ 140737488355328) :
    Calls Try.prog 74 #[.pointer (some ⟨b, 0, none⟩)] w fun e w' => ∃ v, e = .returned (.tuple #[v, .int .i64 0]) ∧ Own w.heap.size w' v l ∧ Below w.heap.size w w' := by
  obtain ⟨_, _, hlen, c0, c1, c2, f0, f1, f2, cq, fq, ho⟩ := h
  have hr := ho.row
  have hl1 : n ≤ l.length := by omega
  have hl2 : n ≤ 140737488355328 := by omega
  have HL := hide hlen
  have hnc := ho.cap
  clear hlen ho fq
  go_enter Try.func74, Try.ntmps74
  go_wp2
  go_region_with (go_at_call 95; refine (clone_any ⟨g, 0, none⟩ n c l _ hl1 hl2 ?_).mono ?_; exact hr; rintro e w' ⟨v', rfl, h1, h2, h3⟩)
  all_goals
    have h4 : Own w.heap.size w' v' l := by
      have := h1
      rw [List.take_of_length_le (by have := HL.out; omega)] at this
      exact this
    have h5 : Below w.heap.size w w' := ((Below.refl _ _).drew).trans h3
    clear h1 h3
    go_wp2
    go_ret2
    exact ⟨v', rfl, h4, h5⟩
structure WBad (w : World) (b : Nat) (E : Int) : Prop where
  lt : b < w.heap.size
  ne : E ≠ 0
  c0 : w.cell? ⟨b, 0, none⟩ = some (.pointer none)
  c1 : w.cell? ⟨b, 1, none⟩ = some (.int .i64 0)
  c2 : w.cell? ⟨b, 2, none⟩ = some (.int .i64 E)
  f0 : w.frozen? ⟨b, 0, none⟩ = false
  f1 : w.frozen? ⟨b, 1, none⟩ = false
  f2 : w.frozen? ⟨b, 2, none⟩ = false
theorem WOk.cells {w : World} {b : Nat} {l : List Int} (h : WOk w b l) : b < w.heap.size ∧ (∃ u, w.cell? ⟨b, 0, none⟩ = some u) ∧ (∃ u, w.cell? ⟨b, 1, none⟩ = some u) ∧ w.cell? ⟨b, 2, none⟩ = some (.int .i64 0) ∧ w.frozen? ⟨b, 0, none⟩ = false ∧ w.frozen? ⟨b, 1, none⟩ = false ∧ w.frozen? ⟨b, 2, none⟩ = false := by
  rcases h with ⟨_, h⟩ | ⟨_, _, _, _, h⟩
  · exact ⟨h.lt, ⟨_, h.c0⟩, ⟨_, h.c1⟩, h.c2, h.f0, h.f1, h.f2⟩
  · exact ⟨by have := h.lt; have := h.ltq; omega, ⟨_, h.c0⟩, ⟨_, h.c1⟩, h.c2, h.f0, h.f1, h.f2⟩
theorem number_bad (b : Nat) (E : Int) (x : Int) (w : World) (h : WBad w b E) :
    Calls Try.prog 72 #[.pointer (some ⟨b, 0, none⟩), .int .u64 x] w fun e w' => e = .returned (.tuple #[]) ∧ w' = w := by
  obtain ⟨lt, ne, c0, c1, c2, f0, f1, f2⟩ := h
  have hb : (E == 0) = false := by simp [ne]
  have hb2 : (E != 0) = true := by simp [ne]
  go_enter Try.func72, Try.ntmps72
  go_wp2_with (go_at_call 92; go_in)
  go_end0
  exact ⟨rfl, rfl⟩
theorem text_ok (B b : Nat) (l : List Int) (s : ByteArray) (m : Nat) (w : World) (hB : B ≤ b) (h : WOk w b l) (hxm : s.size ≤ m) (hl : l.length + 9 + s.size ≤ 140737488355328) :
    Calls Try.prog 73 #[.pointer (some ⟨b, 0, none⟩), .string s, .int .i64 m] w fun e w' => e = .returned (.tuple #[]) ∧ WOk w' b (l ++ M.form s.size ++ sb s) ∧ Below B w w' := by
  have HF := hide (lay_any B b l s.size s w hB h (by omega) hl)
  obtain ⟨lt, ⟨u0, c0⟩, ⟨u1, c1⟩, c2, f0, f1, f2⟩ := h.cells
  clear h
  go_enter Try.func73, Try.ntmps73
  go_wp2_with (go_at_call 92; go_in)
  refine HF.out.mono ?_
  rintro e w1 ⟨rfl, h1, h2⟩
  clear HF
  go_wp2
  go_end0
  exact ⟨rfl, h1, h2⟩
end Go.Proofs.Ytfafhlahbhopaaa.Wi
namespace Go.Proofs.Ytfafhlahbhopaaa
open Go.RowKit Go.Maps
open Classical
/-! Digests, heads and paths, as plain functions. -/
structure Hs where
  v : List Int
  p : v.length = 32
  r : ∀ x ∈ v, (0 : Int) ≤ x ∧ x < 256
theorem Hs.ext20 {a b : Hs} (h : a.v = b.v) : a = b := by
  obtain ⟨a, p, r⟩ := a
  obtain ⟨b, q, s⟩ := b
  cases h
  rfl
def Hs.cs (h : Hs) : List Value := h.v.map bV
def Hs.val (h : Hs) : Value := .agg (h.v.map bV).toArray
theorem rep_by (n : Nat) : ∀ x ∈ List.replicate n (0 : Int), (0 : Int) ≤ x ∧ x < 256 := fun x hx => by
  have := List.eq_of_mem_replicate hx
  omega
def zH : Hs := ⟨List.replicate 32 0, rfl, rep_by 32⟩
def yH : Lay Hs := ⟨24, 42, 32, 32, Hs.cs, zH⟩
theorem kH : yH.Ok := ⟨by decide, fun x => by show (x.v.map bV).length = 32; rw [List.length_map, x.p], fun x u h => by
    obtain ⟨y, _, rfl⟩ := List.mem_map.1 h
    rfl, Try.underlying42, ⟨.agg ((List.replicate 32 (0 : Int)).map bV).toArray, by kernel_rfl, rfl⟩⟩
theorem outB_by (s : St) : ∀ x ∈ outB s, (0 : Int) ≤ x ∧ x < 256 := fun x hx => by
  unfold outB at hx
  obtain ⟨i, _, rfl⟩ := List.mem_map.1 hx
  rw [IntKind.wrap_u8]
  omega
def sH (B : List Int) : Hs := ⟨sumF B, out_len _, outB_by _⟩
def u6 (x : Int) : Nat := (IntKind.u64.wrap x).toNat
theorem u6_lt (x : Int) : u6 x < 2 ^ 64 := by unfold u6; rw [IntKind.wrap_u64]; omega
def eN (x : En) : Nat → Int
  | 0 => x.c
  | 1 => x.n
  | 2 => x.o.k
  | _ => x.o.s
def fN (x : En) : Nat → List Int
  | 0 => []
  | j + 1 => fN x j ++ M.form (u6 (eN x j))
def eB (x : En) : List Int := fN x 4 ++ M.form x.o.v.size ++ Wi.sb x.o.v
theorem form_le (v : Nat) (h : v < 2 ^ 64) : (M.form v).length ≤ 9 := by rw [M.form_length]; have := M.nb_le v h; omega
theorem fN_le (x : En) : ∀ j, (fN x j).length ≤ 9 * j
  | 0 => by simp [fN]
  | j + 1 => by rw [fN, List.length_append]; have := fN_le x j; have := form_le _ (u6_lt (eN x j)); omega
theorem sb_len (s : ByteArray) : (Wi.sb s).length = s.size := by unfold Wi.sb; rw [List.length_map, Array.length_toList]; rfl
theorem eB_le (x : En) (h : x.o.v.size < 2 ^ 64) : (eB x).length ≤ 45 + x.o.v.size := by
  rw [eB, List.length_append, List.length_append, sb_len]
  have := fN_le x 4
  have := form_le _ h
  omega
def lf (x : En) : Hs := sH ([0] ++ eB x)
def nd (a b : Hs) : Hs := sH ([1] ++ a.v ++ b.v)
def lft (n : Nat) : Nat := 2 ^ Nat.log2 (n - 1)
theorem lft_b {n : Nat} (h : 2 ≤ n) : 1 ≤ lft n ∧ lft n < n ∧ n ≤ 2 * lft n := by
  have h1 := Nat.log2_self_le (n := n - 1) (by omega)
  have h2 := Nat.lt_log2_self (n := n - 1)
  rw [Nat.pow_succ] at h2
  have h3 : 0 < 2 ^ Nat.log2 (n - 1) := Nat.pow_pos (by decide)
  unfold lft
  omega
def hdF : Nat → List Hs → Hs
  | 0, _ => zH
  | f + 1, L => if L.length ≤ 1 then L.headD (sH []) else nd (hdF f (L.take (lft L.length))) (hdF f (L.drop (lft L.length)))
theorem hdF_eq : ∀ (f g : Nat) (L : List Hs), L.length < f → L.length < g → hdF f L = hdF g L
  | 0, _, _, h, _ => by omega
  | _ + 1, 0, _, _, h => by omega
  | f + 1, g + 1, L, hf, hg => by
    rw [hdF, hdF]
    by_cases h : L.length ≤ 1
    · rw [if_pos h, if_pos h]
    · have b := lft_b (n := L.length) (by omega)
      rw [if_neg h, if_neg h, hdF_eq f g (L.take (lft L.length)) (by rw [List.length_take]; omega) (by rw [List.length_take]; omega), hdF_eq f g (L.drop (lft L.length)) (by rw [List.length_drop]; omega) (by rw [List.length_drop]; omega)]
def hd (L : List Hs) : Hs := hdF (L.length + 1) L
theorem hd_0 : hd [] = sH [] := rfl
theorem hd_1 (x : Hs) : hd [x] = x := rfl
theorem hd_2 (L : List Hs) (h : 2 ≤ L.length) : hd L = nd (hd (L.take (lft L.length))) (hd (L.drop (lft L.length))) := by
  have b := lft_b h
  conv => lhs; rw [hd, hdF, if_neg (by omega)]
  rw [hd, hd, hdF_eq L.length ((L.take (lft L.length)).length + 1) (L.take (lft L.length)) (by rw [List.length_take]; omega) (by omega), hdF_eq L.length ((L.drop (lft L.length)).length + 1) (L.drop (lft L.length)) (by rw [List.length_drop]; omega) (by omega)]
def puF : Nat → List Hs → Nat → List Hs
  | 0, _, _ => []
  | f + 1, L, p => if L.length ≤ 1 then [] else if p ≤ lft L.length then puF f (L.take (lft L.length)) p ++ [hd (L.drop (lft L.length))] else puF f (L.drop (lft L.length)) (p - lft L.length) ++ [hd (L.take (lft L.length))]
theorem puF_eq : ∀ (f g : Nat) (L : List Hs) (p : Nat), L.length < f → L.length < g → puF f L p = puF g L p
  | 0, _, _, _, h, _ => by omega
  | _ + 1, 0, _, _, _, h => by omega
  | f + 1, g + 1, L, p, hf, hg => by
    rw [puF, puF]
    by_cases h : L.length ≤ 1
    · rw [if_pos h, if_pos h]
    · have b := lft_b (n := L.length) (by omega)
      rw [if_neg h, if_neg h, puF_eq f g (L.take (lft L.length)) p (by rw [List.length_take]; omega) (by rw [List.length_take]; omega), puF_eq f g (L.drop (lft L.length)) _ (by rw [List.length_drop]; omega) (by rw [List.length_drop]; omega)]
def pu (L : List Hs) (p : Nat) : List Hs := puF (L.length + 1) L p
theorem pu_1 (L : List Hs) (p : Nat) (h : L.length = 1) : pu L p = [] := by rw [pu, puF, if_pos (by omega)]
theorem pu_l (L : List Hs) (p : Nat) (h : 2 ≤ L.length) (hp : p ≤ lft L.length) : pu L p = pu (L.take (lft L.length)) p ++ [hd (L.drop (lft L.length))] := by
  have b := lft_b h
  conv => lhs; rw [pu, puF, if_neg (by omega), if_pos hp]
  rw [pu, puF_eq _ ((L.take (lft L.length)).length + 1) _ _ (by rw [List.length_take]; omega) (by omega)]
theorem pu_r (L : List Hs) (p : Nat) (h : 2 ≤ L.length) (hp : ¬ p ≤ lft L.length) : pu L p = pu (L.drop (lft L.length)) (p - lft L.length) ++ [hd (L.take (lft L.length))] := by
  have b := lft_b h
  conv => lhs; rw [pu, puF, if_neg (by omega), if_neg hp]
  rw [pu, puF_eq _ ((L.drop (lft L.length)).length + 1) _ _ (by rw [List.length_drop]; omega) (by omega)]
def suF : Nat → Nat → Nat → Nat
  | 0, _, _ => 0
  | f + 1, p, n => if n ≤ 1 then 0 else if p ≤ lft n then 1 + suF f p (lft n) else 1 + suF f (p - lft n) (n - lft n)
theorem suF_eq : ∀ (f g p n : Nat), n < f → n < g → suF f p n = suF g p n
  | 0, _, _, _, h, _ => by omega
  | _ + 1, 0, _, _, _, h => by omega
  | f + 1, g + 1, p, n, hf, hg => by
    rw [suF, suF]
    by_cases h : n ≤ 1
    · rw [if_pos h, if_pos h]
    · have b := lft_b (n := n) (by omega)
      rw [if_neg h, if_neg h, suF_eq f g p (lft n) (by omega) (by omega), suF_eq f g (p - lft n) (n - lft n) (by omega) (by omega)]
def su (p n : Nat) : Nat := suF (n + 1) p n
theorem su_1 (p : Nat) : su p 1 = 0 := rfl
theorem su_l (p n : Nat) (h : 2 ≤ n) (hp : p ≤ lft n) : su p n = 1 + su p (lft n) := by
  have b := lft_b h
  conv => lhs; rw [su, suF, if_neg (by omega), if_pos hp]
  rw [su, suF_eq _ (lft n + 1) _ _ (by omega) (by omega)]
theorem su_r (p n : Nat) (h : 2 ≤ n) (hp : ¬ p ≤ lft n) : su p n = 1 + su (p - lft n) (n - lft n) := by
  have b := lft_b h
  conv => lhs; rw [su, suF, if_neg (by omega), if_neg hp]
  rw [su, suF_eq _ (n - lft n + 1) _ _ (by omega) (by omega)]
def saF : Nat → Nat → Nat → Bool → Nat
  | 0, _, _, _ => 0
  | f + 1, m, n, wh => if m = n then bif wh then 0 else 1 else if n ≤ 1 then 0 else if m ≤ lft n then 1 + saF f m (lft n) wh else 1 + saF f (m - lft n) (n - lft n) false
theorem saF_eq : ∀ (f g m n : Nat) (wh : Bool), n < f → n < g → saF f m n wh = saF g m n wh
  | 0, _, _, _, _, h, _ => by omega
  | _ + 1, 0, _, _, _, _, h => by omega
  | f + 1, g + 1, m, n, wh, hf, hg => by
    rw [saF, saF]
    by_cases h : n ≤ 1
    · rw [if_pos h, if_pos h]
    · have b := lft_b (n := n) (by omega)
      rw [if_neg h, if_neg h, saF_eq f g m (lft n) wh (by omega) (by omega), saF_eq f g (m - lft n) (n - lft n) false (by omega) (by omega)]
def sa (m n : Nat) (wh : Bool) : Nat := saF (n + 1) m n wh
theorem sa_e (n : Nat) (wh : Bool) : sa n n wh = bif wh then 0 else 1 := by rw [sa, saF, if_pos rfl]
theorem sa_l (m n : Nat) (wh : Bool) (h : 2 ≤ n) (hm : m ≤ lft n) : sa m n wh = 1 + sa m (lft n) wh := by
  have b := lft_b h
  conv => lhs; rw [sa, saF, if_neg (by omega), if_neg (by omega), if_pos hm]
  rw [sa, saF_eq _ (lft n + 1) _ _ _ (by omega) (by omega)]
theorem sa_r (m n : Nat) (wh : Bool) (h : 2 ≤ n) (hn : m ≠ n) (hm : ¬ m ≤ lft n) : sa m n wh = 1 + sa (m - lft n) (n - lft n) false := by
  have b := lft_b h
  conv => lhs; rw [sa, saF, if_neg hn, if_neg (by omega), if_neg hm]
  rw [sa, saF_eq _ (n - lft n + 1) _ _ _ (by omega) (by omega)]
def clF : Nat → Hs → Nat → Nat → List Hs → Hs
  | 0, h, _, _, _ => h
  | f + 1, h, p, n, P => if n ≤ 1 then h else if p ≤ lft n then nd (clF f h p (lft n) (P.take (P.length - 1))) (P.getD (P.length - 1) zH) else nd (P.getD (P.length - 1) zH) (clF f h (p - lft n) (n - lft n) (P.take (P.length - 1)))
theorem clF_eq : ∀ (f g : Nat) (h : Hs) (p n : Nat) (P : List Hs), n < f → n < g → clF f h p n P = clF g h p n P
  | 0, _, _, _, _, _, h, _ => by omega
  | _ + 1, 0, _, _, _, _, _, h => by omega
  | f + 1, g + 1, x, p, n, P, hf, hg => by
    rw [clF, clF]
    by_cases h : n ≤ 1
    · rw [if_pos h, if_pos h]
    · have b := lft_b (n := n) (by omega)
      rw [if_neg h, if_neg h, clF_eq f g x p (lft n) _ (by omega) (by omega), clF_eq f g x (p - lft n) (n - lft n) _ (by omega) (by omega)]
def cl (h : Hs) (p n : Nat) (P : List Hs) : Hs := clF (n + 1) h p n P
theorem cl_1 (h : Hs) (p : Nat) (P : List Hs) : cl h p 1 P = h := rfl
theorem cl_l (x : Hs) (p n : Nat) (P : List Hs) (h : 2 ≤ n) (hp : p ≤ lft n) : cl x p n P = nd (cl x p (lft n) (P.take (P.length - 1))) (P.getD (P.length - 1) zH) := by
  have b := lft_b h
  conv => lhs; rw [cl, clF, if_neg (by omega), if_pos hp]
  rw [cl, clF_eq _ (lft n + 1) _ _ _ _ (by omega) (by omega)]
theorem cl_r (x : Hs) (p n : Nat) (P : List Hs) (h : 2 ≤ n) (hp : ¬ p ≤ lft n) : cl x p n P = nd (P.getD (P.length - 1) zH) (cl x (p - lft n) (n - lft n) (P.take (P.length - 1))) := by
  have b := lft_b h
  conv => lhs; rw [cl, clF, if_neg (by omega), if_neg hp]
  rw [cl, clF_eq _ (n - lft n + 1) _ _ _ _ (by omega) (by omega)]
def cbF : Nat → Hs → Nat → Nat → Bool → List Hs → Hs × Hs
  | 0, h, _, _, _, _ => (h, h)
  | f + 1, h, m, n, wh, P => if m = n then bif wh then (h, h) else (P.getD 0 zH, P.getD 0 zH) else if n ≤ 1 then (h, h) else if m ≤ lft n then ((cbF f h m (lft n) wh (P.take (P.length - 1))).1, nd (cbF f h m (lft n) wh (P.take (P.length - 1))).2 (P.getD (P.length - 1) zH)) else (nd (P.getD (P.length - 1) zH) (cbF f h (m - lft n) (n - lft n) false (P.take (P.length - 1))).1, nd (P.getD (P.length - 1) zH) (cbF f h (m - lft n) (n - lft n) false (P.take (P.length - 1))).2)
theorem cbF_eq : ∀ (f g : Nat) (h : Hs) (m n : Nat) (wh : Bool) (P : List Hs), n < f → n < g → cbF f h m n wh P = cbF g h m n wh P
  | 0, _, _, _, _, _, _, h, _ => by omega
  | _ + 1, 0, _, _, _, _, _, _, h => by omega
  | f + 1, g + 1, x, m, n, wh, P, hf, hg => by
    rw [cbF, cbF]
    by_cases h : n ≤ 1
    · rw [if_pos h, if_pos h]
    · have b := lft_b (n := n) (by omega)
      rw [if_neg h, if_neg h, cbF_eq f g x m (lft n) wh _ (by omega) (by omega), cbF_eq f g x (m - lft n) (n - lft n) false _ (by omega) (by omega)]
def cb (h : Hs) (m n : Nat) (wh : Bool) (P : List Hs) : Hs × Hs := cbF (n + 1) h m n wh P
theorem cb_e (h : Hs) (n : Nat) (wh : Bool) (P : List Hs) : cb h n n wh P = bif wh then (h, h) else (P.getD 0 zH, P.getD 0 zH) := by rw [cb, cbF, if_pos rfl]
theorem cb_l (x : Hs) (m n : Nat) (wh : Bool) (P : List Hs) (h : 2 ≤ n) (hm : m ≤ lft n) : cb x m n wh P = ((cb x m (lft n) wh (P.take (P.length - 1))).1, nd (cb x m (lft n) wh (P.take (P.length - 1))).2 (P.getD (P.length - 1) zH)) := by
  have b := lft_b h
  conv => lhs; rw [cb, cbF, if_neg (by omega), if_neg (by omega), if_pos hm]
  rw [cb, cbF_eq _ (lft n + 1) _ _ _ _ _ (by omega) (by omega)]
theorem cb_r (x : Hs) (m n : Nat) (wh : Bool) (P : List Hs) (h : 2 ≤ n) (hn : m ≠ n) (hm : ¬ m ≤ lft n) : cb x m n wh P = (nd (P.getD (P.length - 1) zH) (cb x (m - lft n) (n - lft n) false (P.take (P.length - 1))).1, nd (P.getD (P.length - 1) zH) (cb x (m - lft n) (n - lft n) false (P.take (P.length - 1))).2) := by
  have b := lft_b h
  conv => lhs; rw [cb, cbF, if_neg hn, if_neg (by omega), if_neg hm]
  rw [cb, cbF_eq _ (n - lft n + 1) _ _ _ _ _ (by omega) (by omega)]
end Go.Proofs.Ytfafhlahbhopaaa
namespace Go.Proofs.Ytfafhlahbhopaaa.Wi
open Go.RowKit
theorem bytes_any (b : Nat) (l : List Int) (w : World) (h : WOk w b l) (hl : l.length ≤ 140737488355328) :
    Calls Try.prog 74 #[.pointer (some ⟨b, 0, none⟩)] w fun e w' => ∃ v, e = .returned (.tuple #[v, .int .i64 0]) ∧ Own w.heap.size w' v l ∧ Below w.heap.size w w' := by
  rcases h with ⟨rfl, h⟩ | ⟨q, g, n, c, h⟩
  · refine (bytes_new b w h).mono ?_
    rintro e w' ⟨rfl, rfl⟩
    exact ⟨_, rfl, Own.nil _ _, Below.refl _ _⟩
  · exact bytes_has b q g n c l w h hl
end Go.Proofs.Ytfafhlahbhopaaa.Wi
namespace Go.Proofs.Ytfafhlahbhopaaa
open Go.RowKit Go.Maps
open Classical
theorem Hs.len (x : Hs) : x.cs.length = 32 := by unfold Hs.cs; rw [List.length_map, x.p]
theorem BB.stH {w : World} {q : Nat} {T : TypeId} {cs : List Value} (h : BB w q T cs) (hl : cs.length = 32) (x : Hs) : (Instr.storeAt 24 (.pointer (some ⟨q, 0, none⟩)) x.val).run Try.prog w = .ok () (w.setCells q 0 x.cs) := h.st 24 x.cs (by rw [x.len, hl]) (by rw [List.size_toArray, x.len]; exact i32h) (one_b _)
theorem BB.putH {w : World} {q : Nat} {T : TypeId} {cs : List Value} (h : BB w q T cs) (hl : cs.length = 32) (x : Hs) : BB (w.setCells q 0 x.cs) q T x.cs := h.whole _ (by rw [x.len, hl])
theorem BB.ldH {w : World} {q : Nat} {T : TypeId} {x : Hs} (h : BB w q T x.cs) : (Instr.loadAt 24 (.pointer (some ⟨q, 0, none⟩))).run Try.prog w = .ok x.val w := h.ld 24 Try.underlying24 rfl (by rw [x.len]; exact i32h)
theorem BB.bel {w w' : World} {q B : Nat} {T : TypeId} {cs : List Value} (h : BB w q T cs) (hb : Below B w w') (hq : q < B) : BB w' q T cs := (hb.block q hq).trans h
theorem bxH20 (x : Hs) (w : World) : (Instr.box 24 x.val).run Try.prog w = .ok (.pointer (some ⟨w.heap.size, 0, none⟩)) (w.alloc (.cells x.cs.toArray 24)) := rfl
def En.val20 (x : En) : Value := .agg #[.int .i64 x.c, .int .i64 x.n, .int .i64 x.o.k, .int .i64 x.o.s, .string x.o.v]
theorem bxE20 (x : En) (w : World) : (Instr.box 28 x.val20).run Try.prog w = .ok (.pointer (some ⟨w.heap.size, 0, none⟩)) (w.alloc (.cells x.cs.toArray 28)) := rfl
theorem i5e20 : (Try.prog.info? 28).map (·.size) = some 5 := by kernel_rfl
theorem BB.ldE20 {w : World} {q : Nat} {T : TypeId} {x : En} (h : BB w q T x.cs) : (Instr.loadAt 28 (.pointer (some ⟨q, 0, none⟩))).run Try.prog w = .ok x.val20 w := h.ld 28 Try.underlying28 rfl i5e20
theorem subP (x y : Operand) (j k : Nat) (hk : k ≤ j) (hj : j ≤ 9223372036854775807) (w : World) : (do eqGuard .sub 3 x y (.int .i64 (j : Int)) (.int .i64 (k : Int)); binOp .sub 3 (.int .i64 (j : Int)) (.int .i64 (k : Int)) : Sem Value).run Try.prog w = .ok (.int .i64 ((j - k : Nat) : Int)) w := by
  have hwr : IntKind.i64.wrap ((j : Int) - (k : Int)) = ((j - k : Nat) : Int) := by rw [IntKind.wrap_i64]; omega
  go_simp
theorem addP (x y : Operand) (j k : Nat) (hj : j + k ≤ 9223372036854775807) (w : World) : (do eqGuard .add 3 x y (.int .i64 (j : Int)) (.int .i64 (k : Int)); binOp .add 3 (.int .i64 (j : Int)) (.int .i64 (k : Int)) : Sem Value).run Try.prog w = .ok (.int .i64 ((j + k : Nat) : Int)) w := by
  have hwr : IntKind.i64.wrap ((j : Int) + (k : Int)) = ((j + k : Nat) : Int) := by rw [IntKind.wrap_i64]; omega
  go_simp
theorem shl20 (x y : Operand) (k : Nat) (hk : k ≤ 62) (w : World) : (do eqGuard .shl 3 x y (.int .i64 ((1 : Nat) : Int)) (.int .i64 (k : Int)); binOp .shl 3 (.int .i64 ((1 : Nat) : Int)) (.int .i64 (k : Int)) : Sem Value).run Try.prog w = .ok (.int .i64 ((2 ^ k : Nat) : Int)) w := by
  have h2 := shift_shl .i64 .i64 1 (k : Int) (by omega) (by show (k : Int) ≤ ((_ : Nat) : Int); simp [IntKind.bits]; omega)
  have h3 : (2 : Nat) ^ k ≤ 2 ^ 62 := Nat.pow_le_pow_right (by decide) hk
  rw [Sem.run_bind]
  have e : (eqGuard .shl 3 x y (.int .i64 ((1 : Nat) : Int)) (.int .i64 (k : Int))).run Try.prog w = .ok () w := by go_simp
  rw [e, Result.andThen_ok]
  show (Op.shift .shl .i64 1 .i64 (k : Int)).run Try.prog w = _
  rw [h2]
  have h4 : IntKind.i64.wrap (1 * 2 ^ (k : Int).toNat) = ((2 ^ k : Nat) : Int) := by
    rw [Int.toNat_natCast, Int.one_mul]
    have h5 : ((2 : Int) ^ k) = ((2 ^ k : Nat) : Int) := by rw [Int.natCast_pow]; rfl
    rw [h5, IntKind.wrap_i64]
    have h6 : (2 : Nat) ^ 62 = 4611686018427387904 := by decide
    clear h5 h2
    generalize (2 : Nat) ^ k = z at *
    omega
  rw [h4]
  rfl
theorem cvIu20 (k : Nat) (hk : k < 18446744073709551616) (w : World) : (Go.convert 3 104 (.int .i64 (k : Int))).run Try.prog w = .ok (.int .u64 (k : Int)) w := by
  have hwr : IntKind.u64.wrap (k : Int) = (k : Int) := by rw [IntKind.wrap_u64]; omega
  go_simp
theorem cvIq20 (x : Int) (w : World) : (Go.convert 3 118 (.int .i64 x)).run Try.prog w = .ok (.int .u64 ((u6 x : Nat) : Int)) w := by
  have e : ((u6 x : Nat) : Int) = IntKind.u64.wrap x := by unfold u6; rw [IntKind.wrap_u64]; omega
  rw [e]
  go_simp
theorem faE20 (q j k : Nat) (h : (j = 0 ∧ k = 0) ∨ (j = 1 ∧ k = 1) ∨ (j = 2 ∧ k = 2)) (w : World) : (Instr.fieldAt 28 (.pointer (some ⟨q, 0, none⟩)) j).run Try.prog w = .ok (.pointer (some ⟨q, k, none⟩)) w := by
  rcases h with ⟨rfl, rfl⟩ | ⟨rfl, rfl⟩ | ⟨rfl, rfl⟩ <;> go_simp
theorem faO20 (q j k : Nat) (h : (j = 0 ∧ k = 2) ∨ (j = 1 ∧ k = 3) ∨ (j = 2 ∧ k = 4)) (w : World) : (Instr.fieldAt 26 (.pointer (some ⟨q, 2, none⟩)) j).run Try.prog w = .ok (.pointer (some ⟨q, k, none⟩)) w := by
  rcases h with ⟨rfl, rfl⟩ | ⟨rfl, rfl⟩ | ⟨rfl, rfl⟩ <;> go_simp
theorem alW20 (w : World) : (Instr.alloc 115 true (.tuple #[])).run Try.prog w = .ok (.pointer (some ⟨w.heap.size, 0, none⟩)) (w.alloc (.cells [Value.pointer none, .int .i64 0, .int .i64 0].toArray 115)) := by kernel_rfl
theorem BB.w20 {w : World} {b : Nat} {T : TypeId} (h : BB w b T [Value.pointer none, .int .i64 0, .int .i64 0]) : Wi.WOk w b [] := .inl ⟨rfl, ⟨h.lt, h.cell 0, h.cell 1, h.cell 2, h.free 0, h.free 1, h.free 2⟩⟩
def e4 (x : En) : Value := .agg #[.int .i64 x.c, .int .i64 x.n, .int .i64 x.o.k, .int .i64 x.o.s]
theorem bd4 (x : En) (w : World) : (Instr.build 116 #[(0, .int .i64 x.c), (1, .int .i64 x.n), (2, .int .i64 x.o.k), (3, .int .i64 x.o.s)]).run Try.prog w = .ok (e4 x) w := by kernel_rfl
theorem ix4_0 (x : En) (w : World) : (Instr.index 116 (e4 x) (.int .i64 ((0 : Nat) : Int))).run Try.prog w = .ok (.int .i64 (eN x 0)) w := by kernel_rfl
theorem ix4_1 (x : En) (w : World) : (Instr.index 116 (e4 x) (.int .i64 ((1 : Nat) : Int))).run Try.prog w = .ok (.int .i64 (eN x 1)) w := by kernel_rfl
theorem ix4_2 (x : En) (w : World) : (Instr.index 116 (e4 x) (.int .i64 ((2 : Nat) : Int))).run Try.prog w = .ok (.int .i64 (eN x 2)) w := by kernel_rfl
theorem ix4_3 (x : En) (w : World) : (Instr.index 116 (e4 x) (.int .i64 ((3 : Nat) : Int))).run Try.prog w = .ok (.int .i64 (eN x 3)) w := by kernel_rfl
theorem ix4 (x : En) (j : Nat) (h : j < 4) (w : World) : (Instr.index 116 (e4 x) (.int .i64 (j : Int))).run Try.prog w = .ok (.int .i64 (eN x j)) w := by
  match j, h with
  | 0, _ => exact ix4_0 x w
  | 1, _ => exact ix4_1 x w
  | 2, _ => exact ix4_2 x w
  | 3, _ => exact ix4_3 x w
theorem ex_bd4 {o : Oper} {ρ : Operand → Value} {s : TypeId} {a b c d : Operand} {A B C D V : Value} {w : World} (ho : o.op = .build s #[(0, a), (1, b), (2, c), (3, d)]) (ha : ρ a = A) (hb : ρ b = B) (hc : ρ c = C) (hd : ρ d = D) (hr : (Instr.build s #[(0, A), (1, B), (2, C), (3, D)]).run Try.prog w = .ok V w) : (execOp ρ o).run Try.prog w = .ok (.value V) w := ex_buildP18 ho (by simp only [List.map_toArray, List.map_cons, List.map_nil, ha, hb, hc, hd]) hr
theorem ex_lenS20 {o : Oper} {ρ : Operand → Value} {i : Nat} {s : ByteArray} {w : World} (ho : o.op = .call { callee := .builtin .len, args := #[.tmp i], argTypes := #[9] }) (ht : o.type = 3) (hx : ρ (.tmp i) = .string s) : (execOp ρ o).run Try.prog w = .ok (.value (.int .i64 (s.size : Int))) w := by
  unfold execOp
  simp only [ho]
  rw [Sem.run_bind]
  simp only [resolve, List.map_toArray, List.map_cons, List.map_nil, hx, ht]
  go_simp
theorem ldS20 {w : World} {q o : Nat} {s : ByteArray} (h : w.cell? ⟨q, o, none⟩ = some (.string s)) : (Instr.loadAt 9 (.pointer (some ⟨q, o, none⟩))).run Try.prog w = .ok (.string s) w := by go_simp
theorem xt0 (a b : Value) (w : World) : (Instr.extract (.tuple #[a, b]) 0).run Try.prog w = .ok a w := rfl
theorem xt1 (a b : Value) (w : World) : (Instr.extract (.tuple #[a, b]) 1).run Try.prog w = .ok b w := rfl
theorem own_y20 {B : Nat} {w : World} {v : Value} {l : List Int} (h : Wi.Own B w v l) : OwnY yB9 B w v l := by
  have e : ∀ l : List Int, fl yB9 l = Wi.bs l := fun l => by
    induction l with
    | nil => rfl
    | cons x r ih => rw [fl, ih]; rfl
  unfold OwnY
  rw [e]
  exact h
theorem slH20 (q : Nat) (w : World) : (Instr.sliceAt 24 (.pointer (some ⟨q, 0, none⟩)) none none none).run Try.prog w = .ok (.slice (some ⟨q, 0, none⟩) 32 32) w := by go_simp
theorem bs1B (x : Int) (w : World) : (Instr.buildSlice 71 1 #[(0, .int .u8 x)]).run Try.prog w = .ok (.slice (some ⟨w.heap.size, 0, none⟩) 1 1) (w.alloc (.cells (([x] : List Int).map bV).toArray 5)) := by
  go_simp
  first | done | rfl
theorem bsBB2 (x y : SV Int) (w : World) : (Instr.buildSlice 29 2 #[(0, .slice x.a x.D.length x.c), (1, .slice y.a y.D.length y.c)]).run Try.prog w = .ok (.slice (some ⟨w.heap.size, 0, none⟩) 2 2) (w.alloc (.cells (fl zB9 [x, y]).toArray 71)) := by
  have e : (fl zB9 [x, y]).toArray = #[.slice x.a x.D.length x.c, .slice y.a y.D.length y.c] := rfl
  rw [e]
  go_simp
theorem bsBB3 (x y z : SV Int) (w : World) : (Instr.buildSlice 29 3 #[(0, .slice x.a x.D.length x.c), (1, .slice y.a y.D.length y.c), (2, .slice z.a z.D.length z.c)]).run Try.prog w = .ok (.slice (some ⟨w.heap.size, 0, none⟩) 3 3) (w.alloc (.cells (fl zB9 [x, y, z]).toArray 71)) := by
  have e : (fl zB9 [x, y, z]).toArray = #[.slice x.a x.D.length x.c, .slice y.a y.D.length y.c, .slice z.a z.D.length z.c] := rfl
  rw [e]
  go_simp
theorem blen20 (x : Nat) (w : World) (h : x < 2 ^ 64) : Calls Try.prog 85 #[.int .u64 x] w fun e w' => e = .returned (.int .i64 (M.bl x)) ∧ w' = w := by
  have HX := hide h
  clear h
  go_enter Try.func85, Try.ntmps85
  go_wp2_with fail
  refine (Wi.len64_any x w HX.out).mono ?_
  rintro e w1 ⟨rfl, rfl⟩
  go_wp2
  go_ret
  first | done | exact ⟨rfl, rfl⟩
set_option maxHeartbeats 2000000 in
theorem left20 (n : Nat) (w : World) (h2 : 2 ≤ n) (hn : n ≤ 9223372036854775807) :
    Calls Try.prog 65 #[.int .i64 (n : Int)] w fun e w' => e = .returned (.int .i64 ((lft n : Nat) : Int)) ∧ w' = w := by
  go_enter Try.func65, Try.ntmps65
  go_upto_region 0 with fail
  refine wp_region_lit ?_
  refine vl_gen (fun T => Rp T 9 [(0, gw true (.int .i64 ((n : Nat) : Int)))]) ((Rp.nil rfl).cons rfl) (fun Z0 q0 => ?_)
  refine q0.t (.int .i64 ((0 : Nat) : Int)) (ex_assign rfl rfl) fun _ q1 => ?_;clear q0
  refine wpList_nil ?_
  go_upto_region 1 with fail
  refine wp_region_lit ?_
  refine q1.t (.int .i64 ((n : Nat) : Int)) (ex_move rfl (q1.e (j := 0) rfl)) fun _ q2 => ?_;clear q1
  refine q2.t (.int .i64 ((n - 1 : Nat) : Int)) (ex_bin (Y := .int .i64 ((1 : Nat) : Int)) rfl (q2.e (j := 3) rfl) rfl (subP _ _ n 1 (by omega) hn _)) fun _ q3 => ?_;clear q2
  refine q3.t (.int .u64 ((n - 1 : Nat) : Int)) (ex_cv19 rfl (q3.e (j := 4) rfl) (cvIu20 _ (by omega) _)) fun _ q4 => ?_;clear q3
  refine vcallP (want_none rfl) (ex_call rfl (by simp only [List.map_toArray, List.map_cons, List.map_nil, (q4.e (j := 5) rfl), evc] <;> rfl) rfl) (blen20 (n - 1) w (by omega)) rfl q4.z (by decide) ?_
  rintro e w1 ⟨rfl, hw1⟩
  refine ⟨_, rfl, q4.k fun _ q5 => ?_⟩;clear q4
  subst hw1
  have hbl : M.bl (n - 1) = Nat.log2 (n - 1) + 1 := by unfold M.bl; rw [if_neg (by omega)]
  have hlg : Nat.log2 (n - 1) < 63 := (Nat.log2_lt (by omega)).2 (by omega)
  rw [hbl] at q5
  refine q5.t (.int .i64 ((Nat.log2 (n - 1) : Nat) : Int)) (ex_bin (Y := .int .i64 ((1 : Nat) : Int)) rfl (q5.e (j := 6) rfl) rfl (subP _ _ (Nat.log2 (n - 1) + 1) 1 (by omega) (by omega) _)) fun _ q6 => ?_;clear q5
  refine q6.t (.int .i64 ((2 ^ Nat.log2 (n - 1) : Nat) : Int)) (ex_bin (X := .int .i64 ((1 : Nat) : Int)) rfl rfl (q6.e (j := 7) rfl) (shl20 _ _ _ (by omega) _)) fun _ q7 => ?_;clear q6
  refine q7.t (.int .i64 ((2 ^ Nat.log2 (n - 1) : Nat) : Int)) (ex_assign rfl (q7.e (j := 8) rfl)) fun _ q8 => ?_;clear q7
  refine wpList_nil ?_
  go_wp2
  refine bodyPost_ret (results_tmp rfl _ _ _) rfl ?_
  rw [getD_of (q8.a 2 rfl)]
  exact ⟨rfl, rfl⟩
set_option maxHeartbeats 2000000 in
theorem entry20 (x : En) (w : World) (hv : x.o.v.size ≤ 140737488352232) :
    Calls Try.prog 43 #[x.val20] w fun e w' => ∃ v, e = .returned v ∧ OwnY yB9 w.heap.size w' v (eB x) ∧ Below w.heap.size w w' := by
  go_enter Try.func43, Try.ntmps43
  go_upto_region 0 with fail
  refine wp_region_lit ?_
  refine vl_gen (fun T => Rp T 39 [(0, gw true (x.val20))]) ((Rp.nil rfl).cons rfl) (fun Z0 q0 => ?_)
  obtain ⟨w1, hw1⟩ : ∃ y, y = w.alloc (.cells (x.cs).toArray 28) := ⟨_, rfl⟩
  refine vw (.pointer (some ⟨w.heap.size, 0, none⟩)) w1 (want_none rfl) (ex_box18 rfl (q0.e (j := 0) rfl) (by rw [hw1]; exact bxE20 _ _)) rfl q0.z (by decide) (q0.k fun _ q1 => ?_);clear q0
  have Bw1 : BB w1 w.heap.size 28 (x.cs) := by rw [hw1]; exact BB.new _ _ _
  have bw1 : Below w.heap.size w w1 := by rw [hw1]; exact (Below.refl _ _).alloc (Nat.le_refl _) _
  have zw1 : w1.heap.size = w.heap.size + 1 := by rw [hw1]; exact World.size_alloc _ _
  clear hw1
  refine q1.t (.slice none 0 0) (ex_assign rfl rfl) fun _ q2 => ?_;clear q1
  refine wpList_nil ?_
  go_upto_region 1 with fail
  refine wp_region_lit ?_
  obtain ⟨w2, hw2⟩ : ∃ y, y = w1.alloc (.cells ([Value.pointer none, .int .i64 0, .int .i64 0]).toArray 115) := ⟨_, rfl⟩
  refine vw (.pointer (some ⟨w1.heap.size, 0, none⟩)) w2 (want_none rfl) (ex_al rfl (by rw [hw2]; exact alW20 _)) rfl q2.z (by decide) (q2.k fun _ q3 => ?_);clear q2
  have Bw2 : BB w2 w1.heap.size 115 ([Value.pointer none, .int .i64 0, .int .i64 0]) := by rw [hw2]; exact BB.new _ _ _
  have bw2 : Below w1.heap.size w1 w2 := by rw [hw2]; exact (Below.refl _ _).alloc (Nat.le_refl _) _
  have zw2 : w2.heap.size = w1.heap.size + 1 := by rw [hw2]; exact World.size_alloc _ _
  clear hw2
  have hW2 := Bw2.w20
  have Be2 := Bw1.later bw2
  have d2 : Below w.heap.size w w2 := bw1.trans (bw2.mono (by omega))
  clear Bw2 Bw1
  refine wpList_nil ?_
  go_upto_region 2 with fail
  refine wp_region_lit ?_
  refine q3.t (.pointer (some ⟨w.heap.size, 0, none⟩)) (ex_fa rfl (q3.e (j := 1) rfl) (faE20 _ _ _ (by simp) _)) fun _ q4 => ?_;clear q3
  refine q4.t (.int .i64 x.c) (ex_ld rfl (q4.e (j := 8) rfl) (ldI18 (Be2.cell 0))) fun _ q5 => ?_;clear q4
  refine q5.t (.pointer (some ⟨w.heap.size, 1, none⟩)) (ex_fa rfl (q5.e (j := 1) rfl) (faE20 _ _ _ (by simp) _)) fun _ q6 => ?_;clear q5
  refine q6.t (.int .i64 x.n) (ex_ld rfl (q6.e (j := 10) rfl) (ldI18 (Be2.cell 1))) fun _ q7 => ?_;clear q6
  refine q7.t (.pointer (some ⟨w.heap.size, 2, none⟩)) (ex_fa rfl (q7.e (j := 1) rfl) (faE20 _ _ _ (by simp) _)) fun _ q8 => ?_;clear q7
  refine q8.t (.pointer (some ⟨w.heap.size, 2, none⟩)) (ex_fa rfl (q8.e (j := 12) rfl) (faO20 _ _ _ (by simp) _)) fun _ q9 => ?_;clear q8
  refine q9.t (.int .i64 x.o.k) (ex_ld rfl (q9.e (j := 13) rfl) (ldI18 (Be2.cell 2))) fun _ q10 => ?_;clear q9
  refine q10.t (.pointer (some ⟨w.heap.size, 2, none⟩)) (ex_fa rfl (q10.e (j := 1) rfl) (faE20 _ _ _ (by simp) _)) fun _ q11 => ?_;clear q10
  refine q11.t (.pointer (some ⟨w.heap.size, 3, none⟩)) (ex_fa rfl (q11.e (j := 15) rfl) (faO20 _ _ _ (by simp) _)) fun _ q12 => ?_;clear q11
  refine q12.t (.int .i64 x.o.s) (ex_ld rfl (q12.e (j := 16) rfl) (ldI18 (Be2.cell 3))) fun _ q13 => ?_;clear q12
  refine q13.t (e4 x) (ex_bd4 rfl (q13.e (j := 9) rfl) (q13.e (j := 11) rfl) (q13.e (j := 14) rfl) (q13.e (j := 17) rfl) (bd4 _ _)) fun _ q14 => ?_;clear q13
  refine q14.t (.int .i64 ((0 : Nat) : Int)) (ex_move rfl rfl) fun _ q15 => ?_;clear q14
  have q16 := (((((Rp.nil q15.z).cons (q15.a 1 rfl)).cons (q15.a 3 rfl)).cons (q15.a 18 rfl)).cons (q15.a 19 rfl))
  clear q15
  refine wpList_nil ?_
  go_upto_region 3 with fail
  refine v_loop 19 4 (fun j T wr => Rp T 39 [(19, gw true (.int .i64 ((j : Nat) : Int))), (18, gw true (e4 x)), (3, gw true (.pointer (some ⟨w1.heap.size, 0, none⟩))), (1, gw true (.pointer (some ⟨w.heap.size, 0, none⟩)))] ∧ Hid (Wi.WOk wr w1.heap.size (fN x j) ∧ BB wr w.heap.size 28 x.cs ∧ Below w.heap.size w wr)) (fun j T w h => h.1.a 19 rfl) ⟨q16, hW2, Be2, d2⟩ ?_
  clear q16 hW2 Be2 d2
  intro j T wr hj hh
  obtain ⟨q100, HJ⟩ := hh
  obtain ⟨hW2, Be2, br⟩ := HJ.out
  clear HJ
  have hfl := fN_le x j
  by_cases hit : j < 4
  · go_upto_region 3 with fail
    refine wp_region_lit ?_
    refine q100.t (.bool true) (ex_bin rfl (q100.e (j := 19) rfl) rfl (ltT _ _ hit _)) fun _ q101 => ?_;clear q100
    refine wpList_nil ?_
    go_upto_region 4 with fail
    refine wp_cond_true (q101.e (j := 20) rfl) ?_
    go_upto_region 4 with fail
    refine wp_region_lit ?_
    refine q101.t (.int .i64 (eN x j)) (ex_index9 rfl (q101.e (j := 18) rfl) (q101.e (j := 19) rfl) (ix4 x j hit _)) fun _ q102 => ?_;clear q101
    refine q102.t (.int .i64 (eN x j)) (ex_assign rfl (q102.e (j := 21) rfl)) fun _ q103 => ?_;clear q102
    refine wpList_nil ?_
    go_upto_region 5 with fail
    refine wp_region_lit ?_
    refine q103.t (.int .i64 (eN x j)) (ex_move rfl (q103.e (j := 5) rfl)) fun _ q104 => ?_;clear q103
    refine q104.t (.int .u64 ((u6 (eN x j) : Nat) : Int)) (ex_cv19 rfl (q104.e (j := 22) rfl) (cvIq20 _ _)) fun _ q105 => ?_;clear q104
    refine vcallP (want_none rfl) (ex_call rfl (by simp only [List.map_toArray, List.map_cons, List.map_nil, (q105.e (j := 3) rfl), (q105.e (j := 23) rfl), evc] <;> rfl) rfl) (Wi.number_ok w1.heap.size w1.heap.size (fN x j) (u6 (eN x j)) wr (Nat.le_refl _) hW2 (u6_lt _) (by omega)) rfl q105.z (by decide) ?_
    rintro e w5 ⟨rfl, h5, b5⟩
    refine ⟨_, rfl, q105.k fun _ q106 => ?_⟩;clear q105
    have B5 := Be2.bel b5 (by omega)
    have d5 : Below w.heap.size w w5 := br.trans (b5.mono (by omega))
    refine wpList_nil ?_
    go_upto_region 6 with fail
    refine wp_region_lit ?_
    refine q106.t (.int .i64 ((j + 1 : Nat) : Int)) (ex_bin rfl (q106.e (j := 19) rfl) rfl (add1C _ _ j (by omega) _)) fun _ q107 => ?_;clear q106
    refine q107.t (.int .i64 ((j + 1 : Nat) : Int)) (ex_move rfl (q107.e (j := 25) rfl)) fun _ q108 => ?_;clear q107
    have q109 := (((((Rp.nil q108.z).cons (q108.a 1 rfl)).cons (q108.a 3 rfl)).cons (q108.a 18 rfl)).cons (q108.a 19 rfl))
    clear q108
    refine wpList_nil ?_
    exact ⟨_, rfl, hit, q109, h5, B5, d5⟩
  · obtain rfl : j = 4 := by omega
    have hv2 := hv
    go_upto_region 3 with fail
    refine wp_region_lit ?_
    refine q100.t (.bool false) (ex_bin rfl (q100.e (j := 19) rfl) rfl (ltF _ _ hit _)) fun _ q101 => ?_;clear q100
    refine wpList_nil ?_
    go_upto_region 7 with fail
    refine wp_cond_false (q101.e (j := 20) rfl) ?_
    go_upto_region 7 with fail
    refine wp_region_lit ?_
    refine q101.t (.pointer (some ⟨w.heap.size, 2, none⟩)) (ex_fa rfl (q101.e (j := 1) rfl) (faE20 _ _ _ (by simp) _)) fun _ q102 => ?_;clear q101
    refine q102.t (.pointer (some ⟨w.heap.size, 4, none⟩)) (ex_fa rfl (q102.e (j := 26) rfl) (faO20 _ _ _ (by simp) _)) fun _ q103 => ?_;clear q102
    refine q103.t (.string x.o.v) (ex_ld rfl (q103.e (j := 27) rfl) (ldS20 (Be2.cell 4))) fun _ q104 => ?_;clear q103
    refine q104.t (.pointer (some ⟨w.heap.size, 2, none⟩)) (ex_fa rfl (q104.e (j := 1) rfl) (faE20 _ _ _ (by simp) _)) fun _ q105 => ?_;clear q104
    refine q105.t (.pointer (some ⟨w.heap.size, 4, none⟩)) (ex_fa rfl (q105.e (j := 29) rfl) (faO20 _ _ _ (by simp) _)) fun _ q106 => ?_;clear q105
    refine q106.t (.string x.o.v) (ex_ld rfl (q106.e (j := 30) rfl) (ldS20 (Be2.cell 4))) fun _ q107 => ?_;clear q106
    refine q107.t (.int .i64 (x.o.v.size : Int)) (ex_lenS20 rfl rfl (q107.e (j := 31) rfl)) fun _ q108 => ?_;clear q107
    refine vcallP (want_none rfl) (ex_call rfl (by simp only [List.map_toArray, List.map_cons, List.map_nil, (q108.e (j := 3) rfl), (q108.e (j := 28) rfl), (q108.e (j := 32) rfl), evc] <;> rfl) rfl) (Wi.text_ok w1.heap.size w1.heap.size (fN x 4) x.o.v x.o.v.size wr (Nat.le_refl _) hW2 (Nat.le_refl _) (by omega)) rfl q108.z (by decide) ?_
    rintro e w5 ⟨rfl, h5, b5⟩
    refine ⟨_, rfl, q108.k fun _ q109 => ?_⟩;clear q108
    have d5 : Below w.heap.size w w5 := br.trans (b5.mono (by omega))
    refine wpList_nil ?_
    go_upto_region 8 with fail
    refine wp_region_lit ?_
    refine vcallP (want_none rfl) (ex_call rfl (by simp only [List.map_toArray, List.map_cons, List.map_nil, (q109.e (j := 3) rfl), evc] <;> rfl) rfl) (Wi.bytes_any w1.heap.size (eB x) w5 h5 (by have := eB_le x (by omega); omega)) rfl q109.z (by decide) ?_
    rintro e w6 ⟨v6, rfl, o6, b6⟩
    refine ⟨_, rfl, q109.k fun _ q110 => ?_⟩;clear q109
    have O6 := own_y20 o6
    have d6 : Below w.heap.size w w6 := d5.trans (b6.mono d5.size)
    refine q110.t (.tuple #[v6, .int .i64 0]) (ex_move rfl (q110.e (j := 35) rfl)) fun _ q111 => ?_;clear q110
    refine q111.t (v6) (ex_ext18 rfl (q111.e (j := 34) rfl) (xt0 _ _ _)) fun _ q112 => ?_;clear q111
    refine q112.t (.int .i64 0) (ex_ext18 rfl (q112.e (j := 34) rfl) (xt1 _ _ _)) fun _ q113 => ?_;clear q112
    refine q113.t (v6) (ex_assign rfl (q113.e (j := 36) rfl)) fun _ q114 => ?_;clear q113
    refine q114.t (.int .i64 0) (ex_assign rfl (q114.e (j := 37) rfl)) fun _ q115 => ?_;clear q114
    refine wpList_nil ?_
    go_upto_region 9 with fail
    refine wp_region_lit ?_
    refine q115.t (v6) (ex_move rfl (q115.e (j := 6) rfl)) fun _ q116 => ?_;clear q115
    refine q116.t (v6) (ex_assign rfl (q116.e (j := 38) rfl)) fun _ q117 => ?_;clear q116
    refine wpList_nil ?_
    go_wp2
    refine bodyPost_ret (results_tmp rfl _ _ _) rfl ?_
    rw [getD_of (q117.a 2 rfl)]
    exact ⟨v6, rfl, O6.low d5.size, d6⟩
set_option maxHeartbeats 2000000 in
theorem leaf20 (x : En) (w : World) (hv : x.o.v.size ≤ 140737488352232) :
    Calls Try.prog 15 #[x.val20] w fun e w' => e = .returned (lf x).val ∧ Below w.heap.size w w' := by
  go_enter Try.func15, Try.ntmps15
  go_upto_region 0 with fail
  refine wp_region_lit ?_
  refine vl_gen (fun T => Rp T 8 [(0, gw true (x.val20))]) ((Rp.nil rfl).cons rfl) (fun Z0 q0 => ?_)
  obtain ⟨w1, hw1⟩ : ∃ y, y = w.alloc (.cells (x.cs).toArray 28) := ⟨_, rfl⟩
  refine vw (.pointer (some ⟨w.heap.size, 0, none⟩)) w1 (want_none rfl) (ex_box18 rfl (q0.e (j := 0) rfl) (by rw [hw1]; exact bxE20 _ _)) rfl q0.z (by decide) (q0.k fun _ q1 => ?_);clear q0
  have Bw1 : BB w1 w.heap.size 28 (x.cs) := by rw [hw1]; exact BB.new _ _ _
  have bw1 : Below w.heap.size w w1 := by rw [hw1]; exact (Below.refl _ _).alloc (Nat.le_refl _) _
  have zw1 : w1.heap.size = w.heap.size + 1 := by rw [hw1]; exact World.size_alloc _ _
  clear hw1
  obtain ⟨w2, hw2⟩ : ∃ y, y = w1.alloc (.cells (zH.cs).toArray 24) := ⟨_, rfl⟩
  refine vw (.pointer (some ⟨w1.heap.size, 0, none⟩)) w2 (want_none rfl) (ex_al rfl (by rw [hw2]; exact alH _)) rfl q1.z (by decide) (q1.k fun _ q2 => ?_);clear q1
  have Bw2 : BB w2 w1.heap.size 24 (zH.cs) := by rw [hw2]; exact BB.new _ _ _
  have bw2 : Below w1.heap.size w1 w2 := by rw [hw2]; exact (Below.refl _ _).alloc (Nat.le_refl _) _
  have zw2 : w2.heap.size = w1.heap.size + 1 := by rw [hw2]; exact World.size_alloc _ _
  clear hw2
  refine wpList_nil ?_
  go_upto_region 1 with fail
  refine wp_region_lit ?_
  obtain ⟨w3, hw3⟩ : ∃ y, y = w2.alloc (.cells (([0] : List Int).map bV).toArray 5) := ⟨_, rfl⟩
  refine vw (.slice (some ⟨w2.heap.size, 0, none⟩) 1 1) w3 (want_none rfl) (ex_bs18 rfl rfl (by rw [hw3]; exact bs1B 0 _)) rfl q2.z (by decide) (q2.k fun _ q3 => ?_);clear q2
  have s3 : SlY yB9 w3 (some ⟨w2.heap.size, 0, none⟩) 1 1 [0] := by rw [hw3]; exact slM w2 [0] _ _ (by unfold maxLen; decide)
  have b3 : Below w2.heap.size w2 w3 := by rw [hw3]; exact (Below.refl _ _).alloc (Nat.le_refl _) _
  have z3 : w3.heap.size = w2.heap.size + 1 := by rw [hw3]; exact World.size_alloc _ _
  clear hw3
  have Be3 := (Bw1.later bw2).later b3
  have Bh3 := Bw2.later b3
  refine q3.t (x.val20) (ex_ld rfl (q3.e (j := 1) rfl) Be3.ldE20) fun _ q4 => ?_;clear q3
  refine vcallP (want_none rfl) (ex_call rfl (by simp only [List.map_toArray, List.map_cons, List.map_nil, (q4.e (j := 4) rfl), evc] <;> rfl) rfl) (entry20 x w3 hv) rfl q4.z (by decide) ?_
  rintro e w4 ⟨v4, rfl, o4, b4⟩
  refine ⟨_, rfl, q4.k fun _ q5 => ?_⟩;clear q4
  have z4 := b4.size
  have s4 := s3.later b4
  have Bh4 := Bh3.later b4
  obtain ⟨a4, c4, hv4, sl4, _⟩ := o4.sl kB9
  subst hv4
  obtain ⟨w5, hw5⟩ : ∃ y, y = w4.alloc (.cells (fl zB9 [(⟨some ⟨w2.heap.size, 0, none⟩, 1, [0]⟩ : SV Int), (⟨a4, c4, eB x⟩ : SV Int)]).toArray 71) := ⟨_, rfl⟩
  refine vw (.slice (some ⟨w4.heap.size, 0, none⟩) 2 2) w5 (want_none rfl) (ex_bs2 rfl (q5.e (j := 3) rfl) (q5.e (j := 5) rfl) (by rw [hw5]; exact bsBB2 (⟨some ⟨w2.heap.size, 0, none⟩, 1, [0]⟩ : SV Int) (⟨a4, c4, eB x⟩ : SV Int) _)) rfl q5.z (by decide) (q5.k fun _ q6 => ?_);clear q5
  have s5 : SlY zB9 w5 (some ⟨w4.heap.size, 0, none⟩) 2 2 [(⟨some ⟨w2.heap.size, 0, none⟩, 1, [0]⟩ : SV Int), (⟨a4, c4, eB x⟩ : SV Int)] := by rw [hw5]; exact sl_lit kzB9 w4 [(⟨some ⟨w2.heap.size, 0, none⟩, 1, [0]⟩ : SV Int), (⟨a4, c4, eB x⟩ : SV Int)] _ (by show 2 ≤ maxLen; unfold maxLen; decide)
  have b5 : Below w4.heap.size w4 w5 := by rw [hw5]; exact (Below.refl _ _).alloc (Nat.le_refl _) _
  have z5 := b5.size
  clear hw5
  have Bh5 := Bh4.later b5
  have hf : flB [(⟨some ⟨w2.heap.size, 0, none⟩, 1, [0]⟩ : SV Int), (⟨a4, c4, eB x⟩ : SV Int)] = [0] ++ eB x := by simp [flB]
  have hel := eB_le x (by omega)
  refine vcallP (want_none rfl) (ex_call rfl (by simp only [List.map_toArray, List.map_cons, List.map_nil, (q6.e (j := 6) rfl), evc] <;> rfl) rfl) (join19 [(⟨some ⟨w2.heap.size, 0, none⟩, 1, [0]⟩ : SV Int), (⟨a4, c4, eB x⟩ : SV Int)] _ 2 w5 s5 (by intro y hy; rcases List.mem_cons.1 hy with rfl | hy; exact s4.later b5; rcases List.mem_singleton.1 hy with rfl; exact sl4.later b5) (by rw [hf, List.length_append]; show 1 + _ < _; omega) (by show 2 < _; decide)) rfl q6.z (by decide) ?_
  rintro e w6 ⟨rfl, b6⟩
  refine ⟨_, rfl, q6.k fun _ q7 => ?_⟩;clear q6
  have Bh6 := Bh5.later b6
  have d6 : Below w.heap.size w w6 := ((((bw1.trans (bw2.mono (by omega))).trans (b3.mono (by omega))).trans (b4.mono (by omega))).trans (b5.mono (by omega))).trans (b6.mono (by omega))
  rw [hf] at q7
  have e9 : Value.agg ((sumF ([0] ++ eB x)).map bV).toArray = (lf x).val := rfl
  rw [e9] at q7
  obtain ⟨w7, hw7⟩ : ∃ y, y = w6.setCells w1.heap.size 0 (lf x).cs := ⟨_, rfl⟩
  refine vs w7 (want_none rfl) (ex_st rfl (q7.e (j := 2) rfl) (q7.e (j := 7) rfl) (by rw [hw7]; exact Bh6.stH rfl _)) rfl ?_
  have Bw7 : BB w7 w1.heap.size 24 (lf x).cs := by rw [hw7]; exact Bh6.putH rfl _
  have uw7 : Upd (fun k => k = w1.heap.size) w6 w7 := by rw [hw7]; exact upd18 _ _ _ _
  clear hw7
  refine wpList_nil ?_
  go_wp2
  exact Bw7.res rfl (q7.a 2 rfl) Try.underlying24 rfl (by rw [Hs.len]; exact i32h) ⟨rfl, d6.trans (bel_ge uw7 d6.size (by omega))⟩
set_option maxHeartbeats 2000000 in
theorem node20 (a b : Hs) (w : World) :
    Calls Try.prog 13 #[a.val, b.val] w fun e w' => e = .returned (nd a b).val ∧ Below w.heap.size w w' := by
  go_enter Try.func13, Try.ntmps13
  go_upto_region 0 with fail
  refine wp_region_lit ?_
  refine vl_gen (fun T => Rp T 10 [(1, gw true (b.val)), (0, gw true (a.val))]) (((Rp.nil rfl).cons rfl).cons rfl) (fun Z0 q0 => ?_)
  obtain ⟨w1, hw1⟩ : ∃ y, y = w.alloc (.cells (a.cs).toArray 24) := ⟨_, rfl⟩
  refine vw (.pointer (some ⟨w.heap.size, 0, none⟩)) w1 (want_none rfl) (ex_box18 rfl (q0.e (j := 0) rfl) (by rw [hw1]; exact bxH20 _ _)) rfl q0.z (by decide) (q0.k fun _ q1 => ?_);clear q0
  have Bw1 : BB w1 w.heap.size 24 (a.cs) := by rw [hw1]; exact BB.new _ _ _
  have bw1 : Below w.heap.size w w1 := by rw [hw1]; exact (Below.refl _ _).alloc (Nat.le_refl _) _
  have zw1 : w1.heap.size = w.heap.size + 1 := by rw [hw1]; exact World.size_alloc _ _
  clear hw1
  obtain ⟨w2, hw2⟩ : ∃ y, y = w1.alloc (.cells (b.cs).toArray 24) := ⟨_, rfl⟩
  refine vw (.pointer (some ⟨w1.heap.size, 0, none⟩)) w2 (want_none rfl) (ex_box18 rfl (q1.e (j := 1) rfl) (by rw [hw2]; exact bxH20 _ _)) rfl q1.z (by decide) (q1.k fun _ q2 => ?_);clear q1
  have Bw2 : BB w2 w1.heap.size 24 (b.cs) := by rw [hw2]; exact BB.new _ _ _
  have bw2 : Below w1.heap.size w1 w2 := by rw [hw2]; exact (Below.refl _ _).alloc (Nat.le_refl _) _
  have zw2 : w2.heap.size = w1.heap.size + 1 := by rw [hw2]; exact World.size_alloc _ _
  clear hw2
  obtain ⟨w3, hw3⟩ : ∃ y, y = w2.alloc (.cells (zH.cs).toArray 24) := ⟨_, rfl⟩
  refine vw (.pointer (some ⟨w2.heap.size, 0, none⟩)) w3 (want_none rfl) (ex_al rfl (by rw [hw3]; exact alH _)) rfl q2.z (by decide) (q2.k fun _ q3 => ?_);clear q2
  have Bw3 : BB w3 w2.heap.size 24 (zH.cs) := by rw [hw3]; exact BB.new _ _ _
  have bw3 : Below w2.heap.size w2 w3 := by rw [hw3]; exact (Below.refl _ _).alloc (Nat.le_refl _) _
  have zw3 : w3.heap.size = w2.heap.size + 1 := by rw [hw3]; exact World.size_alloc _ _
  clear hw3
  refine wpList_nil ?_
  go_upto_region 1 with fail
  refine vg_start (fun k => k == 5) (fun _ => True) (by kernel_rfl) ?_
  have hd : Below w3.heap.size w3 w3.drew := (Below.refl _ _).drew
  have hzd : w3.drew.heap.size = w3.heap.size := rfl
  generalize w3.drew = d at *
  have Ba := ((Bw1.later bw2).later bw3).later hd
  have Bb := (Bw2.later bw3).later hd
  have Bh := Bw3.later hd
  refine vg_takeW 1 true (.slice (some ⟨w.heap.size, 0, none⟩) a.v.length a.v.length) rfl (by kernel_rfl) (by kernel_rfl) (by kernel_rfl) (by kernel_rfl) (want_none rfl) (fun hc v => ex_sl18 rfl (q3.e (j := 2) rfl) (by rw [a.p]; exact slH20 _ _)) rfl q3.z (by decide) (fun _ => trivial) (q3.k fun _ q4 => ?_);clear q3
  refine vg_takeW 2 true (.slice (some ⟨w1.heap.size, 0, none⟩) b.v.length b.v.length) rfl (by kernel_rfl) (by kernel_rfl) (by kernel_rfl) (by kernel_rfl) (want_none rfl) (fun hc v => ex_sl18 rfl (q4.e (j := 3) rfl) (by rw [b.p]; exact slH20 _ _)) rfl q4.z (by decide) (fun _ => trivial) (q4.k fun _ q5 => ?_);clear q4
  obtain ⟨d1, hd1⟩ : ∃ y, y = d.alloc (.cells (([1] : List Int).map bV).toArray 5) := ⟨_, rfl⟩
  refine vg_val 0 (.slice (some ⟨d.heap.size, 0, none⟩) 1 1) d1 rfl (by kernel_rfl) (want_none rfl) (ex_bs18 rfl rfl (by rw [hd1]; exact bs1B 1 _)) rfl q5.z (by decide) (fun _ => trivial) (q5.k fun _ q6 => ?_);clear q5
  have s3 : SlY yB9 d1 (some ⟨d.heap.size, 0, none⟩) 1 1 [1] := by rw [hd1]; exact slM d [1] _ _ (by unfold maxLen; decide)
  have b1 : Below d.heap.size d d1 := by rw [hd1]; exact (Below.refl _ _).alloc (Nat.le_refl _) _
  have z1 := b1.size
  clear hd1
  obtain ⟨d2, hd2⟩ : ∃ y, y = d1.alloc (.cells (fl zB9 [(⟨some ⟨d.heap.size, 0, none⟩, 1, [1]⟩ : SV Int), (⟨some ⟨w.heap.size, 0, none⟩, a.v.length, a.v⟩ : SV Int), (⟨some ⟨w1.heap.size, 0, none⟩, b.v.length, b.v⟩ : SV Int)]).toArray 71) := ⟨_, rfl⟩
  refine vg_val 3 (.slice (some ⟨d1.heap.size, 0, none⟩) 3 3) d2 rfl (by kernel_rfl) (want_none rfl) (ex_bs3 rfl (q6.e (j := 5) rfl) (q6.e (j := 6) rfl) (q6.e (j := 7) rfl) (by rw [hd2]; exact bsBB3 (⟨some ⟨d.heap.size, 0, none⟩, 1, [1]⟩ : SV Int) (⟨some ⟨w.heap.size, 0, none⟩, a.v.length, a.v⟩ : SV Int) (⟨some ⟨w1.heap.size, 0, none⟩, b.v.length, b.v⟩ : SV Int) _)) rfl q6.z (by decide) (fun _ => trivial) (q6.k fun _ q7 => ?_);clear q6
  have s5 : SlY zB9 d2 (some ⟨d1.heap.size, 0, none⟩) 3 3 [(⟨some ⟨d.heap.size, 0, none⟩, 1, [1]⟩ : SV Int), (⟨some ⟨w.heap.size, 0, none⟩, a.v.length, a.v⟩ : SV Int), (⟨some ⟨w1.heap.size, 0, none⟩, b.v.length, b.v⟩ : SV Int)] := by rw [hd2]; exact sl_lit kzB9 d1 [(⟨some ⟨d.heap.size, 0, none⟩, 1, [1]⟩ : SV Int), (⟨some ⟨w.heap.size, 0, none⟩, a.v.length, a.v⟩ : SV Int), (⟨some ⟨w1.heap.size, 0, none⟩, b.v.length, b.v⟩ : SV Int)] _ (by show 3 ≤ maxLen; unfold maxLen; decide)
  have b2 : Below d1.heap.size d1 d2 := by rw [hd2]; exact (Below.refl _ _).alloc (Nat.le_refl _) _
  have z2 := b2.size
  clear hd2
  have hf : flB [(⟨some ⟨d.heap.size, 0, none⟩, 1, [1]⟩ : SV Int), (⟨some ⟨w.heap.size, 0, none⟩, a.v.length, a.v⟩ : SV Int), (⟨some ⟨w1.heap.size, 0, none⟩, b.v.length, b.v⟩ : SV Int)] = [1] ++ a.v ++ b.v := by simp [flB]
  have sa2 := ((Ba.later b1).later b2).sl0 (L := a.v) (by rw [a.p]; unfold maxLen; decide)
  have sb2 := ((Bb.later b1).later b2).sl0 (L := b.v) (by rw [b.p]; unfold maxLen; decide)
  have Bh2 := (Bh.later b1).later b2
  refine vg_call 4 rfl (by kernel_rfl) (want_none rfl) (ex_call rfl (by simp only [List.map_toArray, List.map_cons, List.map_nil, (q7.e (j := 8) rfl), evc] <;> rfl) rfl) (join19 [(⟨some ⟨d.heap.size, 0, none⟩, 1, [1]⟩ : SV Int), (⟨some ⟨w.heap.size, 0, none⟩, a.v.length, a.v⟩ : SV Int), (⟨some ⟨w1.heap.size, 0, none⟩, b.v.length, b.v⟩ : SV Int)] _ 3 d2 s5 (by intro y hy; rcases List.mem_cons.1 hy with rfl | hy; exact s3.later b2; rcases List.mem_cons.1 hy with rfl | hy; exact sa2; rcases List.mem_singleton.1 hy with rfl; exact sb2) (by rw [hf, List.length_append, List.length_append, a.p, b.p]; decide) (by show 3 < _; decide)) rfl q7.z (by decide) ?_
  rintro e d3 ⟨rfl, b3⟩
  have Bh3 := Bh2.later b3
  have d6 : Below w.heap.size w d3 := (((((bw1.trans (bw2.mono (by omega))).trans (bw3.mono (by omega))).trans (hd.mono (by omega))).trans (b1.mono (by omega))).trans (b2.mono (by omega))).trans (b3.mono (by omega))
  refine ⟨_, rfl, trivial, q7.k fun _ q8 => ?_⟩;clear q7
  rw [hf] at q8
  have e9 : Value.agg ((sumF ([1] ++ a.v ++ b.v)).map bV).toArray = (nd a b).val := rfl
  rw [e9] at q8
  obtain ⟨d7, hd7⟩ : ∃ y, y = d3.setCells w2.heap.size 0 (nd a b).cs := ⟨_, rfl⟩
  refine vg_store 5 d7 rfl (by kernel_rfl) (by kernel_rfl) (want_none rfl) (ex_st rfl (q8.e (j := 4) rfl) (q8.e (j := 9) rfl) (by rw [hd7]; exact Bh3.stH rfl _)) rfl ?_
  have Bd7 : BB d7 w2.heap.size 24 (nd a b).cs := by rw [hd7]; exact Bh3.putH rfl _
  have ud7 : Upd (fun k => k = w2.heap.size) d3 d7 := by rw [hd7]; exact upd18 _ _ _ _
  clear hd7
  refine vg_done (by kernel_rfl) ?_
  go_wp2
  exact Bd7.res rfl (q8.a 4 rfl) Try.underlying24 rfl (by rw [Hs.len]; exact i32h) ⟨rfl, d6.trans (bel_ge ud7 d6.size (by omega))⟩
end Go.Proofs.Ytfafhlahbhopaaa
