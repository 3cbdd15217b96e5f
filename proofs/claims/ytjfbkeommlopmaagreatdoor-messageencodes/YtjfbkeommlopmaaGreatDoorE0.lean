import Derived.Test.YtjfbkeommlopmaaGreatDoorRows
import Derived.WalkKit
import Derived.WalkSpells
import Derived.WalkLawsBesides
import Derived.Lib.BitFns
import Derived.Deep.Light
import Derived.Lib.AppendStr
import Derived.Deep.QuietTactic
import Derived.BigQuiet
import Derived.Laws.AppendOwnNone
import Derived.Deep.RegionWith
import Derived.Maps.OwnSet
import Derived.Maps.RangeWalk
import Derived.Below
import Derived.Deep.RegionLaw
import Derived.Deep.RegionHeld3
import Derived.Laws.OwnMore
import Derived.Laws.StructEq
import Derived.Sort.OwnSorted
import Derived.Maps.Views
import Derived.Laws.CopyRow
import Derived.Deep.MidRow
import Derived.Deep.Cut
/- The plain mathematics of wire: the sum (a CRC, bit by bit) over natural numbers below 2^32. -/
namespace Go.Proofs.YtjfbkeommlopmaaGreatDoor.M
def st (s : Nat) : Nat := (s >>> 1) ^^^ (3988292384 * (s &&& 1))
def stN : Nat → Nat → Nat
  | 0, s => s
  | k + 1, s => st (stN k s)
def upd (s : Nat) (z : Int) : Nat := stN 8 (s ^^^ z.toNat)
def fold (s : Nat) (l : List Int) : Nat := l.foldl upd s
def sum (l : List Int) : Nat := 4294967295 ^^^ fold 4294967295 l
theorem one_le (s : Nat) : s &&& 1 ≤ 1 := Nat.and_le_right
theorem mul_lt (s : Nat) : 3988292384 * (s &&& 1) < 4294967296 := by have := one_le s; omega
theorem st_lt (s : Nat) (h : s < 4294967296) : st s < 4294967296 := by
  unfold st
  have h1 : s >>> 1 < 2 ^ 32 := by rw [Nat.shiftRight_eq_div_pow]; omega
  have h2 : 3988292384 * (s &&& 1) < 2 ^ 32 := by have := mul_lt s; omega
  have := Nat.xor_lt_two_pow h1 h2
  omega
theorem stN_lt (k s : Nat) (h : s < 4294967296) : stN k s < 4294967296 := by
  induction k with
  | zero => exact h
  | succ k ih => exact st_lt _ ih
theorem xor_lt {a b : Nat} (ha : a < 4294967296) (hb : b < 4294967296) : a ^^^ b < 4294967296 := by
  have h1 : a < 2 ^ 32 := by omega
  have h2 : b < 2 ^ 32 := by omega
  have := Nat.xor_lt_two_pow h1 h2
  omega
theorem upd_lt (s : Nat) (z : Int) (h : s < 4294967296) (h2 : z < 256) : upd s z < 4294967296 :=
  stN_lt _ _ (xor_lt h (by omega))
theorem fold_lt (l : List Int) (s : Nat) (h : s < 4294967296) (h2 : ∀ z ∈ l, z < 256) : fold s l < 4294967296 := by
  induction l generalizing s with
  | nil => exact h
  | cons z l ih =>
    exact ih (upd s z) (upd_lt s z h (h2 z (by simp))) (fun y hy => h2 y (by simp [hy]))
theorem fold_snoc (s : Nat) (l : List Int) (z : Int) : fold s (l ++ [z]) = upd (fold s l) z := by simp [fold]
theorem fold_take (s : Nat) (l : List Int) (k : Nat) (h : k < l.length) : fold s (l.take (k + 1)) = upd (fold s (l.take k)) (l.getD k 0) := by
  rw [List.take_succ_eq_append_getElem h, fold_snoc]
  simp [List.getD, h]
theorem sum_lt (l : List Int) (h2 : ∀ z ∈ l, z < 256) : sum l < 4294967296 := xor_lt (by omega) (fold_lt l _ (by omega) h2)
def bl (v : Nat) : Nat := if v = 0 then 0 else Nat.log2 v + 1
theorem bl_le (v j : Nat) : bl v ≤ j ↔ v < 2 ^ j := by
  unfold bl
  by_cases h : v = 0
  · subst h; simp [Nat.pow_pos]
  · rw [if_neg h]
    have := Nat.log2_lt (k := j) h
    omega
theorem bl_shift (v j : Nat) (h : 2 ^ j ≤ v) : bl v = bl (v / 2 ^ j) + j := by
  apply Nat.le_antisymm
  · rw [bl_le, Nat.pow_add]
    have h2 : v / 2 ^ j < 2 ^ bl (v / 2 ^ j) := (bl_le _ _).1 (Nat.le_refl _)
    exact (Nat.div_lt_iff_lt_mul (Nat.pow_pos (by omega))).1 h2
  · have h1 : j < bl v := by
      apply Nat.lt_of_not_le
      intro hle
      have := (bl_le v j).1 hle
      omega
    have h3 : v < 2 ^ bl v := (bl_le _ _).1 (Nat.le_refl _)
    have h4 : bl (v / 2 ^ j) ≤ bl v - j := by
      rw [bl_le, Nat.div_lt_iff_lt_mul (Nat.pow_pos (by omega)), ← Nat.pow_add]
      rwa [Nat.sub_add_cancel (by omega)]
    omega
theorem bl_half (v : Nat) (h : v ≠ 0) : bl v = 1 + bl (v / 2) := by
  by_cases h1 : v = 1
  · subst h1; decide
  · have := bl_shift v 1 (by omega)
    rw [Nat.pow_one] at this
    omega
def nb (v : Nat) : Nat := (bl v + 7) / 8
def dig (v k i : Nat) : Int := ((v >>> (8 * (k - 1 - i)) % 256 : Nat) : Int)
def digs (v k j : Nat) : List Int := (List.range j).map (dig v k)
def form (v : Nat) : List Int := (nb v : Int) :: digs v (nb v) (nb v)
theorem digs_succ (v k j : Nat) : digs v k (j + 1) = digs v k j ++ [dig v k j] := by simp [digs, List.range_succ]
theorem digs_length (v k j : Nat) : (digs v k j).length = j := by simp [digs]
theorem nb_le (v : Nat) (h : v < 2 ^ 64) : nb v ≤ 8 := by have := (bl_le v 64).2 h; unfold nb; omega
theorem form_length (v : Nat) : (form v).length = nb v + 1 := by simp [form, digs_length]
theorem dig_byte (v k i : Nat) : 0 ≤ dig v k i ∧ dig v k i < 256 := by unfold dig; omega
theorem form_byte (v : Nat) (h : v < 2 ^ 64) : ∀ z ∈ form v, 0 ≤ z ∧ z < 256 := by
  intro z hz
  have := nb_le v h
  simp only [form, List.mem_cons, digs, List.mem_map] at hz
  rcases hz with rfl | ⟨i, _, rfl⟩
  · omega
  · exact dig_byte _ _ _
def pre (v j : Nat) : List Int := (nb v : Int) :: digs v (nb v) j
theorem pre_zero (v : Nat) : pre v 0 = [(nb v : Int)] := rfl
theorem pre_succ (v j : Nat) : pre v (j + 1) = pre v j ++ [dig v (nb v) j] := by simp [pre, digs_succ]
theorem pre_length (v j : Nat) : (pre v j).length = j + 1 := by simp [pre, digs_length]
def beAt (n i : Nat) : Int := ((n >>> (24 - 8 * i) % 256 : Nat) : Int)
def be (n j : Nat) : List Int := (List.range j).map (beAt n)
def leAt (n i : Nat) : Int := ((n >>> (8 * i) % 256 : Nat) : Int)
def le (n j : Nat) : List Int := (List.range j).map (leAt n)
theorem be_succ (n j : Nat) : be n (j + 1) = be n j ++ [beAt n j] := by simp [be, List.range_succ]
theorem le_succ (n j : Nat) : le n (j + 1) = le n j ++ [leAt n j] := by simp [le, List.range_succ]
theorem be_length (n j : Nat) : (be n j).length = j := by simp [be]
theorem le_length (n j : Nat) : (le n j).length = j := by simp [le]
theorem be_byte (n j : Nat) : ∀ z ∈ be n j, 0 ≤ z ∧ z < 256 := by
  intro z hz
  simp only [be, List.mem_map] at hz
  obtain ⟨i, _, rfl⟩ := hz
  unfold beAt
  omega
theorem le_byte (n j : Nat) : ∀ z ∈ le n j, 0 ≤ z ∧ z < 256 := by
  intro z hz
  simp only [le, List.mem_map] at hz
  obtain ⟨i, _, rfl⟩ := hz
  unfold leAt
  omega
def magic : List Int := [97, 109, 110, 49]
def bare (l : List Int) : List Int := magic ++ be l.length 4 ++ l
def frame (l : List Int) : List Int := bare l ++ le (sum (bare l)) 4
theorem bare_length (l : List Int) : (bare l).length = l.length + 8 := by simp [bare, magic, be_length]; omega
theorem frame_length (l : List Int) : (frame l).length = l.length + 12 := by simp [frame, bare_length, le_length]
theorem bare_byte (l : List Int) (h : ∀ z ∈ l, 0 ≤ z ∧ z < 256) : ∀ z ∈ bare l, 0 ≤ z ∧ z < 256 := by
  intro z hz
  simp only [bare, List.mem_append] at hz
  rcases hz with (hz | hz) | hz
  · simp only [magic, List.mem_cons, List.not_mem_nil, or_false] at hz
    omega
  · exact be_byte _ _ z hz
  · exact h z hz
theorem frame_byte (l : List Int) (h : ∀ z ∈ l, 0 ≤ z ∧ z < 256) : ∀ z ∈ frame l, 0 ≤ z ∧ z < 256 := by
  intro z hz
  simp only [frame, List.mem_append] at hz
  rcases hz with hz | hz
  · exact bare_byte l h z hz
  · exact le_byte _ _ z hz
end Go.Proofs.YtjfbkeommlopmaaGreatDoor.M
namespace Go.Proofs.YtjfbkeommlopmaaGreatDoor.Wi
open Go.RowKit
set_option linter.unusedVariables false
theorem int_eq {k : IntKind} {a b : Int} (h : a = b) : Value.int k a = .int k b := by rw [h]
theorem ret_int {k : IntKind} {a b : Int} (h : a = b) : Ending.returned (.int k a) = .returned (.int k b) := by rw [h]
theorem not_bits (a : Nat) (ha : a < 4294967296) : bits .xor .u32 IntKind.u32.max (a : Int) = ((4294967295 ^^^ a : Nat) : Int) :=
  u32_xor_nat 4294967295 a (by omega) ha
theorem hide {p : Prop} (h : p) : Hid p := h
theorem u32_xor_cast (a : Nat) (z : Int) (ha : a < 4294967296) (h0 : 0 ≤ z) (h1 : z < 256) :
    bits .xor .u32 (a : Int) (z % 4294967296) = ((a ^^^ z.toNat : Nat) : Int) := by
  obtain ⟨n, rfl⟩ := Int.eq_ofNat_of_zero_le h0
  have e : ((n : Int) % 4294967296) = (n : Int) := by omega
  rw [e, u32_xor_nat a n ha (by omega)]
  rfl
theorem st_bits (s : Nat) (h : s < 4294967296) : bits .xor .u32 ((s : Int) / 2) (3988292384 * bits .and .u32 (s : Int) 1 % 4294967296) = ((M.st s : Nat) : Int) := by
  have e1 : bits .and .u32 (s : Int) 1 = ((s &&& 1 : Nat) : Int) := u32_and_nat s 1 h (by omega)
  have h1 := M.mul_lt s
  have e2 : (3988292384 * ((s &&& 1 : Nat) : Int) % 4294967296) = ((3988292384 * (s &&& 1) : Nat) : Int) := by omega
  have e3 : ((s : Int) / (2 : Int)) = ((s >>> 1 : Nat) : Int) := by rw [Nat.shiftRight_eq_div_pow]; omega
  have h2 : s >>> 1 < 4294967296 := by rw [Nat.shiftRight_eq_div_pow]; omega
  rw [e1, e2, e3, u32_xor_nat _ _ h2 h1]
  rfl
set_option maxHeartbeats 400000 in
theorem sum_any (x : Addr) (len cap : Nat) (zs : List Int) (w : World) (hlen : len ≤ zs.length) (hmax : len ≤ maxLen)
    (hc : ∀ i, i < zs.length → w.cell? (x.add i) = some (.int .u8 (zs.getD i 0))) (hb : ∀ z ∈ zs, 0 ≤ z ∧ z < 256) :
    Calls Tryz.prog 93 #[.slice (some x) len cap] w fun e w' => e = .returned (.int .u32 (M.sum (zs.take len))) ∧ w' = w := by
  unfold maxLen at hmax
  obtain ⟨xb, xo, xs⟩ := x
  go_enter Tryz.func93, Tryz.ntmps93
  go_wp2
  go_loop [3, 9] (fun t i => ∃ k : Nat, k ≤ len ∧ i = .int .i64 k ∧ t = .int .u32 (M.fold 4294967295 (zs.take k) : Nat)) (fun _ i => len - (intOf i).toNat)
  case atStart => exact ⟨0, Nat.zero_le _, rfl, rfl⟩
  case round =>
    obtain ⟨k, hk, rfl, rfl⟩ := hrel
    by_cases hlt : k < len
    · have hcell := hc k (by omega)
      have hz : 0 ≤ zs.getD k 0 ∧ zs.getD k 0 < 256 := hb _ (by simp [List.getD, show k < zs.length by omega])
      have hfl : M.fold 4294967295 (zs.take k) < 4294967296 := M.fold_lt _ _ (by omega) (fun z hz => (hb z (List.mem_of_mem_take hz)).2)
      have HS := hide (M.fold_take 4294967295 zs k (by omega))
      have HX := hide (u32_xor_cast _ _ hfl hz.1 hz.2)
      go_wp2
      rw [show zs[k]?.getD 0 = zs.getD k 0 from rfl, HX.out]
      go_loop [3, 17] (fun t i => ∃ j : Nat, j ≤ 8 ∧ i = .int .i64 j ∧ t = .int .u32 (M.stN j (M.fold 4294967295 (zs.take k) ^^^ (zs.getD k 0).toNat) : Nat)) (fun _ i => 8 - (intOf i).toNat)
      case atStart => exact ⟨0, by omega, rfl, rfl⟩
      case round =>
        obtain ⟨j, hj, rfl, rfl⟩ := hrel
        by_cases hj8 : j < 8
        · go_wp2
          go_round
          case rel =>
            refine ⟨j + 1, by omega, by go_num, ?_⟩
            exact int_eq (st_bits _ (M.stN_lt j _ (M.xor_lt hfl (show (zs.getD k 0).toNat < 4294967296 by omega))))
          case measure => simp [intOf]; omega
        · go_wp2
          go_round
          case rel =>
            refine ⟨k + 1, by omega, by go_num, ?_⟩
            obtain rfl : j = 8 := by omega
            exact int_eq (by rw [HS.out]; rfl)
          case measure => simp [intOf]; omega
    · obtain rfl : k = len := by omega
      have hfl : M.fold 4294967295 (zs.take k) < 4294967296 := M.fold_lt _ _ (by omega) (fun z hz => (hb z (List.mem_of_mem_take hz)).2)
      have HX := hide (not_bits _ hfl)
      go_wp2
      go_ret
      exact ⟨ret_int HX.out, rfl⟩
set_option maxRecDepth 100000 in
theorem tab_size : Lib.len8tab.size = 256 := by decide
theorem tab_at (y : Int) (h : y.toNat < Lib.len8tab.size) (h0 : 0 ≤ y) (h1 : y ≤ 255) : ((Lib.len8tab[y.toNat]'h).toNat : Int) = (Lib.bitLen y.toNat : Nat) := by
  rw [← Lib.len8_of y h0 h1]
  unfold Lib.len8
  rw [getElem?_pos Lib.len8tab y.toNat h]
  rfl
theorem way (k : Nat) (x y : Int) (h : y.toNat < Lib.len8tab.size) (hk : k ≤ 56) (h0 : 0 ≤ y) (h1 : y ≤ 255) (e : y.toNat = x.toNat / 2 ^ k) (hx : 2 ^ k ≤ x.toNat) (hm : x.toNat < 2 ^ 64) :
    wrap64 ((k : Int) + wrap64 ((Lib.len8tab[y.toNat]'h).toNat : Int)) = (Lib.bitLen x.toNat : Nat) := by
  have hl := Lib.bitLen_le8' y h0 h1
  rw [tab_at y h h0 h1, Lib.bitLen_shift k x.toNat hx hm, ← e]
  unfold wrap64
  omega
theorem way0 (y : Int) (h : y.toNat < Lib.len8tab.size) (h0 : 0 ≤ y) (h1 : y ≤ 255) :
    wrap64 ((Lib.len8tab[y.toNat]'h).toNat : Int) = (Lib.bitLen y.toNat : Nat) := by
  have hl := Lib.bitLen_le8' y h0 h1
  rw [tab_at y h h0 h1]
  unfold wrap64
  omega
theorem way00 (y : Int) (h : y.toNat < Lib.len8tab.size) (h0 : 0 ≤ y) (h1 : y ≤ 255) :
    wrap64 (wrap64 ((Lib.len8tab[y.toNat]'h).toNat : Int)) = (Lib.bitLen y.toNat : Nat) := by
  rw [way0 y h h0 h1]
  have hl := Lib.bitLen_le8' y h0 h1
  unfold wrap64
  omega
set_option maxRecDepth 100000 in
set_option maxHeartbeats 1000000 in
theorem len64_raw (x : Int) (w : World) (h0 : 0 ≤ x) (h1 : x ≤ 18446744073709551615) :
    Calls Tryz.prog 149 #[.int .u64 x] w fun e w' => e = .returned (.int .i64 (Lib.bitLen x.toNat)) ∧ w' = w := by
  go_enter Tryz.func149, Tryz.ntmps149
  go_wp2
  all_goals first
    | (go_ret; refine ⟨ret_int ?_, rfl⟩; go_light)
    | (exfalso; go_light; have hs := tab_size; omega)
  all_goals first
    | exact way 56 x _ _ (by omega) (by omega) (by omega) (by omega) (by omega) (by omega)
    | exact way 48 x _ _ (by omega) (by omega) (by omega) (by omega) (by omega) (by omega)
    | exact way 40 x _ _ (by omega) (by omega) (by omega) (by omega) (by omega) (by omega)
    | exact way 32 x _ _ (by omega) (by omega) (by omega) (by omega) (by omega) (by omega)
    | exact way 24 x _ _ (by omega) (by omega) (by omega) (by omega) (by omega) (by omega)
    | exact way 16 x _ _ (by omega) (by omega) (by omega) (by omega) (by omega) (by omega)
    | exact way 8 x _ _ (by omega) (by omega) (by omega) (by omega) (by omega) (by omega)
    | exact way00 x _ (by omega) (by omega)
    | exact way0 x _ (by omega) (by omega)
theorem bitLenAux_bl : ∀ (f x : Nat), x < 2 ^ f → Lib.bitLenAux f x = M.bl x
  | 0, x, h => by
    obtain rfl : x = 0 := by simpa using h
    rfl
  | f + 1, x, h => by
    simp only [Lib.bitLenAux]
    split
    · rename_i hx; subst hx; rfl
    · rename_i hx
      rw [bitLenAux_bl f (x / 2) (by rw [Nat.pow_succ] at h; omega), M.bl_half x hx]
theorem len64_any (x : Nat) (w : World) (h : x < 2 ^ 64) :
    Calls Tryz.prog 149 #[.int .u64 x] w fun e w' => e = .returned (.int .i64 (M.bl x)) ∧ w' = w := by
  have := len64_raw x w (by omega) (by omega)
  rw [show Lib.bitLen (x : Int).toNat = M.bl x from by rw [Int.toNat_natCast]; exact bitLenAux_bl 64 x h] at this
  exact this
theorem Tryz.info5 : (Tryz.prog.info? 5).map (fun i => (i.zero, i.size, i.bytes)) = some (some (.int .u8 0), 1, 1) := by kernel_rfl
def bs (l : List Int) : List Value := l.map (Value.int .u8)
theorem bs_append (a b : List Int) : bs (a ++ b) = bs a ++ bs b := by simp [bs]
theorem bs_oneCell (l : List Int) : ∀ u ∈ bs l, u.oneCell' = true := ints_oneCell .u8 l
def Own (B : Nat) (w : World) (v : Value) (l : List Int) : Prop := w.ownsRow B 5 1 v l.length (bs l)
theorem Own.alloc {B : Nat} {w : World} {v : Value} {l : List Int} (h : Own B w v l) (o : Obj) : Own B (w.alloc o) v l := World.ownsRow.alloc h o
theorem Own.nil (B : Nat) (w : World) : Own B w (.slice none 0 0) [] := World.ownsRow_nil w B 5 1
theorem Own.grown {B : Nat} {w0 w w' : World} {v : Value} {l : List Int} (ho : Own B w v l) (h0 : Below B w0 w) (hg : w.grownBy w' v.ownBlock) (hB : B ≤ w.heap.size) : Below B w0 w' :=
  h0.grown hg hB (fun k hk => (World.ownsRow.lt ho k hk).1)
def Keeps (v v' : Value) (m : Nat) : Prop := v ≠ .slice none 0 0 ∨ 0 < m → v' ≠ .slice none 0 0
theorem app_any (w : World) {ops : Array Oper} {rest : List Oper} {o : Oper} {a : Act} {Q : Exit → Act → World → Prop} (hgd : o.guard = none) (s x : Operand)
    (ho : o.op = .call { callee := .builtin .append, args := #[s, x], argTypes := #[55, 55] }) (B : Nat) (l : List Int) (v : Value) (hs : a.eval s = v)
    (ad : Addr) (m c : Nat) (hx : a.eval x = .slice (some ad) m c) (news : List Int) (hm : news.length = m) (hown : Own B w v l)
    (hnews : ∀ j, j < m → w.cell? (ad.add j) = some (.int .u8 (news.getD j 0))) (hB : B ≤ w.heap.size) (hb : l.length + m ≤ 140737488355328)
    (h : ∀ v' w', Own B w' v' (l ++ news) → Keeps v v' m → w.grownBy w' v.ownBlock → wpList Tryz.prog ops Q rest (a.put o.dst v') w') : wpList Tryz.prog ops Q (o :: rest) a w := by
  obtain ⟨i0, hi, hz0, hz1, hz2⟩ := info_parts Tryz.info5
  refine wpList_append_own _ hgd s x 55 ho B 5 i0 (.int .u8 0) 1 1 Tryz.underlying55 hi hz0 hz1 hz2 rfl (by decide) v l.length (bs l) hs hown ad m c (bs news) hx (by simp [bs, hm]) ?_ (bs_oneCell _) (by unfold maxLen; omega) (by omega) hB ?_
  · intro j u hu
    have hj : j < news.length := by simpa [bs] using (List.getElem?_eq_some_iff.1 hu).1
    rw [hnews j (by omega), ← hu]
    simp [bs, hj, List.getD]
  · intro v' w' h2 h3 h4
    refine h v' w' ?_ ?_ h3
    · unfold Own; rw [bs_append, List.length_append, hm]; exact h2
    · intro hp he
      obtain ⟨k1, k2⟩ := h4.1 he
      rcases hp with hp | hp
      · exact hp k1
      · omega
theorem app_one (w : World) {ops : Array Oper} {rest : List Oper} {o : Oper} {a : Act} {Q : Exit → Act → World → Prop} (hgd : o.guard = none) (s x : Operand)
    (ho : o.op = .call { callee := .builtin .append, args := #[s, x], argTypes := #[55, 55] }) (B : Nat) (l : List Int) (v : Value) (hs : a.eval s = v)
    (ad : Addr) (hx : a.eval x = .slice (some ad) 1 1) (y : Int) (hc : w.cell? ad = some (.int .u8 y)) (hown : Own B w v l) (hB : B ≤ w.heap.size) (hb : l.length + 1 ≤ 140737488355328)
    (h : ∀ v' w', Own B w' v' (l ++ [y]) → v' ≠ .slice none 0 0 → w.grownBy w' v.ownBlock → wpList Tryz.prog ops Q rest (a.put o.dst v') w') : wpList Tryz.prog ops Q (o :: rest) a w := by
  refine app_any w hgd s x ho B l v hs ad 1 1 hx [y] rfl hown ?_ hB hb fun v' w' h1 h2 h3 => h v' w' h1 (h2 (.inr (by omega))) h3
  intro j hj
  obtain rfl : j = 0 := by omega
  obtain ⟨b, o, s⟩ := ad
  exact hc
theorem dig_eq (x k j : Nat) : ((x : Int) / 2 ^ (8 * (k - 1 - j)) % 256) = M.dig x k j := by
  unfold M.dig
  rw [Nat.shiftRight_eq_div_pow]
  simp
set_option maxHeartbeats 400000 in
theorem appendNumber_any (B : Nat) (v : Value) (l : List Int) (x : Nat) (w : World) (hown : Own B w v l) (hB : B ≤ w.heap.size) (hx : x < 2 ^ 64) (hl : l.length + 9 ≤ 140737488355328) :
    Calls Tryz.prog 139 #[v, .int .u64 x] w fun e w' => ∃ v', e = .returned v' ∧ Own B w' v' (l ++ M.form x) ∧ v' ≠ .slice none 0 0 ∧ Below B w w' := by
  have hk8 := M.nb_le x hx
  have hbl : M.bl x ≤ 64 := (M.bl_le x 64).2 hx
  have HC := len64_any x
  have hc := fun w => HC w hx
  clear HC
  have HX := hide hx
  have HL := hide hl
  clear hx hl
  go_enter Tryz.func139, Tryz.ntmps139
  go_wp2_with fail
  refine (hc _).mono ?_
  clear hc
  rintro e w' ⟨rfl, rfl⟩
  go_wp2_with (at_builtin; go_must (refine app_one _ rfl (.tmp 11) (.tmp 14) rfl B l v rfl _ rfl (((M.bl x : Int) + 7) / 8) ?zc ?zown ?zB ?zb ?zk))
  case zc => simp
  case zown => exact hown.alloc _
  case zB => simp; omega
  case zb => have := HL.out; omega
  case zk =>
    intro v1 w1 h1 h2 h3
    have hb1 : Below B w' w1 := (hown.alloc _).grown ((Below.refl B w').alloc hB (.cells #[.int .u8 (((M.bl x : Int) + 7) / 8)] 5)) h3 (by simp; omega)
    clear h3 hown
    have ek : (((M.bl x : Int) + 7) / 8) = ((M.nb x : Nat) : Int) := by unfold M.nb; omega
    rw [ek, ← M.pre_zero] at h1
    rw [ek]
    go_wp2_with fail
    go_loopw [0, 6, 17] (fun b _ i wr => ∃ j : Nat, j ≤ M.nb x ∧ i = .int .i64 j ∧ Own B wr b (l ++ M.pre x j) ∧ Below B w' wr ∧ b ≠ .slice none 0 0) (fun _ _ i _ => M.nb x - (intOf i).toNat)
    case atStart => exact ⟨0, Nat.zero_le _, rfl, h1, hb1, h2⟩
    case round =>
      obtain ⟨j, hj, rfl, hr, hbr, hn⟩ := hrel
      have hsr := hbr.size
      by_cases hlt : j < M.nb x
      · go_wp2_with (at_builtin; go_must (refine app_one _ rfl (.tmp 20) (.tmp 29) rfl B (l ++ M.pre x j) u0 rfl _ rfl ((x : Int) / 2 ^ (8 * (M.nb x - 1 - j)) % 256) ?zc ?zown ?zB ?zb ?zk))
        case zc => simp
        case zown => exact hr.alloc _
        case zB => simp; omega
        case zb => have := HL.out; simp [M.pre_length]; omega
        case zk =>
          intro v2 w2 k1 k2 k3
          have hb2 : Below B w' w2 := (hr.alloc _).grown (hbr.alloc (by omega) (.cells #[.int .u8 ((x : Int) / 2 ^ (8 * (M.nb x - 1 - j)) % 256)] 5)) k3 (by simp; omega)
          have k4 : Own B w2 v2 (l ++ M.pre x (j + 1)) := by rw [M.pre_succ, ← dig_eq]; exact k1
          clear k1 k3 hr hbr
          go_wp2
          go_roundw
          case rel => exact ⟨j + 1, by omega, by go_num, k4, hb2, k2⟩
          case measure => simp [intOf]; omega
      · obtain rfl : j = M.nb x := by omega
        go_wp2
        go_ret
        exact ⟨_, rfl, hr, hn, hbr⟩
def sb (s : ByteArray) : List Int := s.data.toList.map fun b => (b.toNat : Int)
theorem sb_length (s : ByteArray) : (sb s).length = s.size := by
  rw [sb, List.length_map, Array.length_toList]
  rfl
theorem sb_cells (s : ByteArray) : Lib.strCells s = bs (sb s) := by simp [Lib.strCells, bs, sb]
theorem sb_byte (s : ByteArray) : ∀ z ∈ sb s, 0 ≤ z ∧ z < 256 := by
  intro z hz
  simp only [sb, List.mem_map] at hz
  obtain ⟨b, _, rfl⟩ := hz
  have := b.toNat_lt
  omega
theorem app_str (w : World) {ops : Array Oper} {rest : List Oper} {o : Oper} {a : Act} {Q : Exit → Act → World → Prop} (hgd : o.guard = none) (sl x : Operand)
    (ho : o.op = .call { callee := .builtin .append, args := #[sl, x], argTypes := #[55, 9] }) (B : Nat) (l : List Int) (v : Value) (hs : a.eval sl = v)
    (s : ByteArray) (hx : a.eval x = .string s) (hown : Own B w v l) (hB : B ≤ w.heap.size) (hb : l.length + s.size ≤ 140737488355328)
    (h : ∀ v' w', Own B w' v' (l ++ sb s) → Keeps v v' s.size → w.grownBy w' v.ownBlock → wpList Tryz.prog ops Q rest (a.put o.dst v') w') : wpList Tryz.prog ops Q (o :: rest) a w := by
  obtain ⟨i0, hi, hz0, hz1, hz2⟩ := info_parts Tryz.info5
  refine Lib.wpList_append_own_string w hgd sl x 55 9 ho B 5 i0 Tryz.underlying55 Tryz.underlying9 hi hz0 hz1 hz2 v l.length (bs l) hs hown s hx (by unfold maxLen; omega) hb hB ?_
  intro v' w' h2 h3 h4
  refine h v' w' ?_ ?_ h3
  · unfold Own; rw [bs_append, List.length_append, sb_length, ← sb_cells]; exact h2
  · intro hp he
    obtain ⟨k1, k2⟩ := h4.1 he
    rcases hp with hp | hp
    · exact hp k1
    · omega
structure WNew (w : World) (b : Nat) : Prop where
  lt : b < w.heap.size
  c0 : w.cell? ⟨b, 0, none⟩ = some (.pointer none)
  c1 : w.cell? ⟨b, 1, none⟩ = some (.int .i64 0)
  c2 : w.cell? ⟨b, 2, none⟩ = some (.int .i64 0)
  f0 : w.frozen? ⟨b, 0, none⟩ = false
  f1 : w.frozen? ⟨b, 1, none⟩ = false
  f2 : w.frozen? ⟨b, 2, none⟩ = false
structure WHas (w : World) (b q : Nat) (s : Option Addr) (n c : Nat) (l : List Int) : Prop where
  lt : b < q
  ltq : q < w.heap.size
  len : n = l.length
  c0 : w.cell? ⟨b, 0, none⟩ = some (.pointer (some ⟨q, 0, none⟩))
  c1 : w.cell? ⟨b, 1, none⟩ = some (.int .i64 n)
  c2 : w.cell? ⟨b, 2, none⟩ = some (.int .i64 0)
  f0 : w.frozen? ⟨b, 0, none⟩ = false
  f1 : w.frozen? ⟨b, 1, none⟩ = false
  f2 : w.frozen? ⟨b, 2, none⟩ = false
  cq : w.cell? ⟨q, 0, none⟩ = some (.slice s n c)
  fq : w.frozen? ⟨q, 0, none⟩ = false
  own : Own (q + 1) w (.slice s n c) l
def WOk (w : World) (b : Nat) (l : List Int) : Prop := (l = [] ∧ WNew w b) ∨ ∃ q g n c, WHas w b q (some ⟨g, 0, none⟩) n c l
set_option maxHeartbeats 400000 in
theorem own_nil (b : Nat) (w : World) (hb : b < w.heap.size) (h0 : w.cell? ⟨b, 0, none⟩ = some (.pointer none)) (f0 : w.frozen? ⟨b, 0, none⟩ = false) :
    Calls Tryz.prog 138 #[.pointer (some ⟨b, 0, none⟩)] w fun e w' => e = .returned (.pointer (some ⟨w.heap.size, 0, none⟩)) ∧
      w' = (w.setCell ⟨b, 0, none⟩ (.pointer (some ⟨w.heap.size, 0, none⟩))).alloc (.cells #[.slice none 0 0] 151) := by
  go_enter Tryz.func138, Tryz.ntmps138
  go_wp2
  go_ret
  exact ⟨rfl, rfl⟩
set_option maxHeartbeats 400000 in
theorem own_has (b q n : Nat) (s : Option Addr) (c : Nat) (w : World) (h0 : w.cell? ⟨b, 0, none⟩ = some (.pointer (some ⟨q, 0, none⟩))) (h1 : w.cell? ⟨b, 1, none⟩ = some (.int .i64 n)) (hq : w.cell? ⟨q, 0, none⟩ = some (.slice s n c)) :
    Calls Tryz.prog 138 #[.pointer (some ⟨b, 0, none⟩)] w fun e w' => e = .returned (.pointer (some ⟨q, 0, none⟩)) ∧ ∃ k, w' = w.drewN k := by
  go_enter Tryz.func138, Tryz.ntmps138
  go_wp2
  go_quiet (fail)
  go_wp2
  go_ret
  exact ⟨rfl, _, rfl⟩
theorem own_any (B b : Nat) (l : List Int) (w : World) (hB : B ≤ b) (h : WOk w b l) :
    Calls Tryz.prog 138 #[.pointer (some ⟨b, 0, none⟩)] w fun e w' => ∃ q s n c, e = .returned (.pointer (some ⟨q, 0, none⟩)) ∧ WHas w' b q s n c l ∧ Below B w w' := by
  rcases h with ⟨rfl, h⟩ | ⟨q, g, n, c, h⟩
  · refine (own_nil b w h.lt h.c0 h.f0).mono ?_
    rintro e w' ⟨rfl, rfl⟩
    have hlt := h.lt
    refine ⟨w.heap.size, none, 0, 0, rfl, ⟨h.lt, by simp, rfl, ?_, ?_, ?_, ?_, ?_, ?_, ?_, ?_, Own.nil _ _⟩, ((Below.refl B w).setCell hB _).alloc (by simp; omega) _⟩
    all_goals obtain ⟨_, c0, c1, c2, f0, f1, f2⟩ := h
    all_goals go_simp
  · refine (own_has b q n (some ⟨g, 0, none⟩) c w h.c0 h.c1 h.cq).mono ?_
    rintro e w' ⟨rfl, k, rfl⟩
    exact ⟨q, _, n, c, rfl, ⟨h.lt, h.ltq, h.len, h.c0, h.c1, h.c2, h.f0, h.f1, h.f2, h.cq, h.fq, h.own⟩, below_drewN (Below.refl _ _) k⟩
theorem Own.shape {B : Nat} {w : World} {v : Value} {l : List Int} (h : Own B w v l) (hn : v ≠ .slice none 0 0) : ∃ g c, v = .slice (some ⟨g, 0, none⟩) l.length c ∧ B ≤ g ∧ g < w.heap.size := by
  have hl := World.ownsRow.lt h
  rcases h.2 with ⟨h1, _⟩ | ⟨g, c, _, h1, h2, _⟩
  · exact absurd h1 hn
  · exact ⟨g, c, h1, h2, (hl g (by rw [h1]; rfl)).2⟩
theorem Own.setCell_below {B : Nat} {w : World} {v : Value} {l : List Int} (h : Own B w v l) {a : Addr} (ha : a.block < B) (u : Value) : Own B (w.setCell a u) v l := ownsRow_setCell_below h ha u
set_option maxHeartbeats 400000 in
theorem lay_any (B b : Nat) (l : List Int) (x : Nat) (t : ByteArray) (w : World) (hB : B ≤ b) (h : WOk w b l) (hx : x < 2 ^ 64) (hl : l.length + 9 + t.size ≤ 140737488355328) :
    Calls Tryz.prog 119 #[.pointer (some ⟨b, 0, none⟩), .int .u64 x, .string t] w fun e w' => e = .returned (.tuple #[]) ∧ WOk w' b (l ++ M.form x ++ sb t) ∧ Below B w w' := by
  have hnb := M.nb_le x hx
  have HX := hide hx
  have HL := hide hl
  clear hx hl
  go_enter Tryz.func119, Tryz.ntmps119
  go_wp2_with fail
  refine (own_any B b l w hB h).mono ?_
  clear h
  rintro e w1 ⟨q, s, n, c, rfl, hw, hb1⟩
  obtain ⟨hlt, hltq, hlen, c0, c1, c2, f0, f1, f2, cq, fq, ho⟩ := hw
  have HLEN := hide hlen
  clear hlen
  go_wp2_with fail
  refine (appendNumber_any (q + 1) _ l x _ ho (by omega) HX.out (by have := HL.out; omega)).mono ?_
  clear ho
  rintro e w2 ⟨v2, rfl, ho2, hn2, hb2⟩
  have hs2 := hb2.size
  go_wp2_with (at_builtin; go_must (refine app_str _ rfl (.tmp 15) (.tmp 16) rfl (q + 1) (l ++ M.form x) v2 rfl t rfl ho2 ?zB ?zb ?zk))
  case zB => omega
  case zb => have := HL.out; simp [M.form_length]; omega
  case zk =>
    intro v3 w3 ho3 hn3 hg3
    have hb3 : Below (q + 1) w1 w3 := ho2.grown hb2 hg3 (by omega)
    have hs3 := hb3.size
    obtain ⟨g, c3, hv3, hg1, hg2⟩ := ho3.shape (hn3 (.inl hn2))
    subst hv3
    clear hn3 hg3 hn2 hb2 ho2
    rw [← List.append_assoc] at ho3
    generalize hLL : l ++ M.form x ++ sb t = L at *
    rw [show l ++ (M.form x ++ sb t) = L from by rw [← hLL, List.append_assoc]]
    generalize hNN : L.length = N at *
    have HLL := hide hLL
    have HNN := hide hNN
    clear hLL hNN
    have d0 := (hb3.cell (p := ⟨b, 0, none⟩) (by show b < q + 1; omega)).trans c0
    have d1 := (hb3.cell (p := ⟨b, 1, none⟩) (by show b < q + 1; omega)).trans c1
    have d2 := (hb3.cell (p := ⟨b, 2, none⟩) (by show b < q + 1; omega)).trans c2
    have e0 := (hb3.frozen (p := ⟨b, 0, none⟩) (by show b < q + 1; omega)).trans f0
    have e1 := (hb3.frozen (p := ⟨b, 1, none⟩) (by show b < q + 1; omega)).trans f1
    have e2 := (hb3.frozen (p := ⟨b, 2, none⟩) (by show b < q + 1; omega)).trans f2
    have dq := (hb3.cell (p := ⟨q, 0, none⟩) (by show q < q + 1; omega)).trans cq
    have eq := (hb3.frozen (p := ⟨q, 0, none⟩) (by show q < q + 1; omega)).trans fq
    clear c0 c1 c2 f0 f1 f2 cq fq
    go_wp2
    go_end0
    rw [HLL.out]
    refine ⟨rfl, Or.inr ⟨q, g, N, c3, ⟨hlt, by simp; omega, HNN.out.symm, ?_, ?_, ?_, ?_, ?_, ?_, ?_, ?_, ?_⟩⟩, hb1.trans (((hb3.mono (by omega)).setCell (by show B ≤ q; omega) _).setCell hB _)⟩
    all_goals first | (exact (ho3.setCell_below (by show q < q + 1; omega) _).setCell_below (by show b < q + 1; omega) _) | go_simp
def Row (w : World) (x : Addr) (zs : List Int) : Prop := ∀ i, i < zs.length → w.cell? (x.add i) = some (.int .u8 (zs.getD i 0))
theorem Row.later {w w' : World} {x : Addr} {zs : List Int} (h : Row w x zs) (hb : Below w.heap.size w w') : Row w' x zs := fun i hi => cell_later hb (h i hi)
set_option maxHeartbeats 400000 in
theorem clone_any (x : Addr) (len cap : Nat) (zs : List Int) (w : World) (hl : len ≤ zs.length) (hm : len ≤ 140737488355328) (hc : Row w x zs) :
    Calls Tryz.prog 92 #[.slice (some x) len cap] w fun e w' => ∃ v', e = .returned v' ∧ Own w.heap.size w' v' (zs.take len) ∧ v' ≠ .slice none 0 0 ∧ Below w.heap.size w w' := by
  have kn := fun (w : World) => Lib.run_eql_slice_nil (P := Tryz.prog) w 55 5 (some x) len cap 0 0 Tryz.underlying55
  go_enter Tryz.func92, Tryz.ntmps92
  go_wp2_with (at_builtin; go_must (refine app_any _ rfl (.tmp 5) (.tmp 6) rfl w.heap.size [] _ rfl x len cap rfl (zs.take len) ?zl ?zown ?zc ?zB ?zb ?zk))
  case zl => simp; omega
  case zown => exact World.ownsRow_made w #[] 0 (Nat.le_refl _) (by unfold maxLen; omega) rfl
  case zc =>
    intro j hj
    rw [List.getD_eq_getElem?_getD, List.getElem?_take_of_lt hj, ← List.getD_eq_getElem?_getD]
    exact hc.later ((Below.refl _ _).alloc (Nat.le_refl _) _) j (by omega)
  case zB => simp
  case zb => simpa using hm
  case zk =>
    intro v' w' h1 h2 h3
    have hb : Below w.heap.size w w' := ((Below.refl _ _).alloc (Nat.le_refl _) _).grown h3 (by simp) (fun k hk => by cases hk; exact Nat.le_refl _)
    go_wp2
    go_ret
    exact ⟨v', rfl, h1, h2 (.inl (by intro h; cases h)), hb⟩
theorem Own.row {B : Nat} {w : World} {g n c : Nat} {l : List Int} (h : Own B w (.slice (some ⟨g, 0, none⟩) n c) l) : Row w ⟨g, 0, none⟩ l := by
  intro i hi
  refine World.ownsRow.cells h (g := g) rfl i _ ?_
  simp [bs, hi, List.getD]
theorem Own.cap {B : Nat} {w : World} {g n c : Nat} {l : List Int} (h : Own B w (.slice (some ⟨g, 0, none⟩) n c) l) : n ≤ c := by
  rcases h.2 with ⟨h1, _⟩ | ⟨g, c, _, h1, _, _, h2, _⟩
  · cases h1
  · cases h1; exact h2
structure Hs (w : World) (a : Option Addr) (n c : Nat) (l : List Int) : Prop where
  len : l.length = n
  cap : n ≤ c
  row : ∀ x, a = some x → Row w x l
  nil : a = none → l = [] ∧ c = 0
  byte : ∀ z ∈ l, 0 ≤ z ∧ z < 256
theorem Hs.later {w w' : World} {a : Option Addr} {n c : Nat} {l : List Int} (h : Hs w a n c l) (hb : Below w.heap.size w w') : Hs w' a n c l :=
  ⟨h.len, h.cap, fun x hx => (h.row x hx).later hb, h.nil, h.byte⟩
theorem Row.take {w : World} {x : Addr} {l : List Int} (h : Row w x l) (k : Nat) : Row w x (l.take k) := by
  intro i hi
  have h1 : i < k := by simp at hi; omega
  have h2 : i < l.length := by simp at hi; omega
  rw [List.getD_eq_getElem?_getD, List.getElem?_take_of_lt h1, ← List.getD_eq_getElem?_getD]
  exact h i h2
theorem Own.hs {B : Nat} {w : World} {v : Value} {l : List Int} (h : Own B w v l) (hb : ∀ z ∈ l, 0 ≤ z ∧ z < 256) : ∃ a n c, v = .slice a n c ∧ Hs w a n c l ∧ (v ≠ .slice none 0 0 → a ≠ none) := by
  by_cases hn : v = .slice none 0 0
  · subst hn
    have hl : l = [] := by
      rcases h.2 with ⟨_, h2⟩ | ⟨_, _, _, h2, _⟩
      · exact List.eq_nil_of_length_eq_zero h2
      · cases h2
    subst hl
    exact ⟨none, 0, 0, rfl, ⟨rfl, Nat.le_refl _, fun x hx => by (cases hx), fun _ => ⟨rfl, rfl⟩, hb⟩, fun h => absurd rfl h⟩
  · obtain ⟨g, c, rfl, _, _⟩ := h.shape hn
    exact ⟨_, _, c, rfl, ⟨rfl, h.cap, fun x hx => by (cases hx; exact h.row), fun hx => by (cases hx), hb⟩, fun _ => by simp⟩
theorem app_hs (w : World) {ops : Array Oper} {rest : List Oper} {o : Oper} {a : Act} {Q : Exit → Act → World → Prop} (hgd : o.guard = none) (s x : Operand)
    (ho : o.op = .call { callee := .builtin .append, args := #[s, x], argTypes := #[55, 55] }) (B : Nat) (l : List Int) (v : Value) (hs : a.eval s = v)
    (ad : Option Addr) (m c : Nat) (hx : a.eval x = .slice ad m c) (news : List Int) (hh : Hs w ad m c news) (hown : Own B w v l) (hB : B ≤ w.heap.size) (hb : l.length + m ≤ 140737488355328)
    (h : ∀ v' w', Own B w' v' (l ++ news) → Keeps v v' m → w.grownBy w' v.ownBlock → wpList Tryz.prog ops Q rest (a.put o.dst v') w') : wpList Tryz.prog ops Q (o :: rest) a w := by
  cases ad with
  | none =>
    obtain ⟨rfl, rfl⟩ := hh.nil rfl
    obtain rfl : m = 0 := hh.len.symm
    obtain ⟨i0, hi, hz0, hz1, hz2⟩ := info_parts Tryz.info5
    refine wpList_append_own_none hgd s x 55 ho B 5 i0 1 Tryz.underlying55 hi v l.length (bs l) hs hown hx ?_
    refine h v w (by rw [List.append_nil]; exact hown) ?_ (World.grownBy.refl _ _)
    rintro (hp | hp)
    · exact hp
    · omega
  | some y =>
    refine app_any w hgd s x ho B l v hs y m c hx news hh.len hown (fun j hj => hh.row y rfl j (by rw [hh.len]; exact hj)) hB hb h
set_option maxHeartbeats 400000 in
theorem bytes_new (b : Nat) (w : World) (h : WNew w b) :
    Calls Tryz.prog 45 #[.pointer (some ⟨b, 0, none⟩)] w fun e w' => e = .returned (.tuple #[.slice none 0 0, .int .i64 0]) ∧ w' = w := by
  obtain ⟨_, c0, c1, c2, f0, f1, f2⟩ := h
  go_enter Tryz.func45, Tryz.ntmps45
  go_wp2
  go_ret2
  exact ⟨rfl, rfl⟩
set_option maxHeartbeats 400000 in
theorem bytes_has (b q g n c : Nat) (l : List Int) (w : World) (h : WHas w b q (some ⟨g, 0, none⟩) n c l) (hl : l.length ≤ 140737488355328) :
    Calls Tryz.prog 45 #[.pointer (some ⟨b, 0, none⟩)] w fun e w' => ∃ v, e = .returned (.tuple #[v, .int .i64 0]) ∧ Own w.heap.size w' v l ∧ Below w.heap.size w w' := by
  obtain ⟨_, _, hlen, c0, c1, c2, f0, f1, f2, cq, fq, ho⟩ := h
  have hr := ho.row
  have hl1 : n ≤ l.length := by omega
  have hl2 : n ≤ 140737488355328 := by omega
  have HL := hide hlen
  have hnc := ho.cap
  clear hlen ho fq
  go_enter Tryz.func45, Tryz.ntmps45
  go_wp2
  go_region_with (go_at_call 92; refine (clone_any ⟨g, 0, none⟩ n c l _ hl1 hl2 ?_).mono ?_; exact hr; rintro e w' ⟨v', rfl, h1, h2, h3⟩)
  all_goals
    have h4 : Own w.heap.size w' v' l := by
      have := h1
      rw [List.take_of_length_le (by have := HL.out; omega)] at this
      exact this
    have h5 : Below w.heap.size w w' := ((Below.refl _ _).drew).trans h3
    clear h1 h3
    go_wp2
    go_ret2
    exact ⟨v', rfl, h4, h5⟩
structure WBad (w : World) (b : Nat) (E : Int) : Prop where
  lt : b < w.heap.size
  ne : E ≠ 0
  c0 : w.cell? ⟨b, 0, none⟩ = some (.pointer none)
  c1 : w.cell? ⟨b, 1, none⟩ = some (.int .i64 0)
  c2 : w.cell? ⟨b, 2, none⟩ = some (.int .i64 E)
  f0 : w.frozen? ⟨b, 0, none⟩ = false
  f1 : w.frozen? ⟨b, 1, none⟩ = false
  f2 : w.frozen? ⟨b, 2, none⟩ = false
theorem WOk.cells {w : World} {b : Nat} {l : List Int} (h : WOk w b l) : b < w.heap.size ∧ (∃ u, w.cell? ⟨b, 0, none⟩ = some u) ∧ (∃ u, w.cell? ⟨b, 1, none⟩ = some u) ∧ w.cell? ⟨b, 2, none⟩ = some (.int .i64 0) ∧ w.frozen? ⟨b, 0, none⟩ = false ∧ w.frozen? ⟨b, 1, none⟩ = false ∧ w.frozen? ⟨b, 2, none⟩ = false := by
  rcases h with ⟨_, h⟩ | ⟨_, _, _, _, h⟩
  · exact ⟨h.lt, ⟨_, h.c0⟩, ⟨_, h.c1⟩, h.c2, h.f0, h.f1, h.f2⟩
  · exact ⟨by have := h.lt; have := h.ltq; omega, ⟨_, h.c0⟩, ⟨_, h.c1⟩, h.c2, h.f0, h.f1, h.f2⟩
end Go.Proofs.YtjfbkeommlopmaaGreatDoor.Wi
namespace Go.Proofs.YtjfbkeommlopmaaGreatDoor
set_option linter.unusedVariables false
abbrev Cl := Int × ByteArray
def gv (L : List Cl) (s : Int) : Option ByteArray := (L.find? (fun p => p.1 == s)).map (·.2)
def bh : List Cl → Int
  | [] => 0
  | p :: r => max (p.1 + 1) (bh r)
def ins (p : Cl) : List Cl → List Cl
  | [] => [p]
  | y :: r => if p.1 < y.1 then p :: y :: r else y :: ins p r
structure Ok (L : List Cl) : Prop where
  up : L.Pairwise (fun p q => p.1 < q.1)
  may : ∀ p ∈ L, 0 ≤ p.1 ∧ p.1 < 1024 ∧ p.2.size ≤ 64
theorem Ok.nil : Ok [] := ⟨List.Pairwise.nil, by simp⟩
theorem mem_ins (p q : Cl) : ∀ L : List Cl, q ∈ ins p L ↔ q = p ∨ q ∈ L
  | [] => by simp [ins]
  | y :: r => by
    unfold ins
    split
    · simp
    · simp [mem_ins p q r]
      constructor
      · rintro (h | h | h) <;> simp [h]
      · rintro (h | h | h) <;> simp [h]
theorem gv_none {L : List Cl} {s : Int} : gv L s = none ↔ ∀ p ∈ L, p.1 ≠ s := by
  simp [gv, List.find?_eq_none]
theorem ins_up {p : Cl} : ∀ {L : List Cl}, L.Pairwise (fun p q => p.1 < q.1) → (∀ q ∈ L, q.1 ≠ p.1) → (ins p L).Pairwise (fun p q => p.1 < q.1)
  | [], _, _ => by simp [ins]
  | y :: r, h, hn => by
    obtain ⟨h1, h2⟩ := List.pairwise_cons.1 h
    unfold ins
    split
    · rename_i hlt
      refine List.pairwise_cons.2 ⟨fun q hq => ?_, h⟩
      rcases List.mem_cons.1 hq with rfl | hq'
      · exact hlt
      · have := h1 q hq'; omega
    · rename_i hlt
      refine List.pairwise_cons.2 ⟨fun q hq => ?_, ins_up h2 (fun q hq => hn q (by simp [hq]))⟩
      rcases (mem_ins p q r).1 hq with rfl | hq'
      · have := hn y (by simp); omega
      · exact h1 q hq'
theorem Ok.ins {L : List Cl} (h : Ok L) {p : Cl} (hp : 0 ≤ p.1 ∧ p.1 < 1024 ∧ p.2.size ≤ 64) (hn : gv L p.1 = none) : Ok (ins p L) :=
  ⟨ins_up h.up (gv_none.1 hn), fun q hq => by
    rcases (mem_ins p q L).1 hq with rfl | hq'
    · exact hp
    · exact h.may q hq'⟩
theorem bh_nonneg : ∀ L : List Cl, 0 ≤ bh L
  | [] => by simp [bh]
  | y :: r => by have := bh_nonneg r; simp [bh]; omega
theorem bh_gt {L : List Cl} {p : Cl} (h : p ∈ L) : p.1 < bh L := by
  induction L with
  | nil => simp at h
  | cons y r ih =>
    rcases List.mem_cons.1 h with rfl | h'
    · simp [bh]; omega
    · have := ih h'; simp [bh]; omega
theorem gv_bh (L : List Cl) : gv L (bh L) = none := gv_none.2 (fun p hp => by have := bh_gt hp; omega)
def cR (v : Value) : Option (DataW Unit × List MemPlace) :=
  match v with
  | .agg a => match a.toList with
    | [.int .i64 s, .string x] => some (.agg [.lit (.int .i64 s), .lit (.string x.data.toList)], [])
    | _ => none
  | _ => none
def cD (p : Cl) : DataW Unit := .agg [.lit (.int .i64 p.1), .lit (.string p.2.data.toList)]
def mD (L : List Cl) : DataW Unit := .map (L.map fun p => (.int .i64 p.1, cD p))
def ck (k s : Int) (v : ByteArray) : Int :=
  if k = 1 ∨ k = 3 then
    if s < 0 ∨ 1024 ≤ s then 41 else if (if k = 1 then 64 else 0) < v.size then 42 else 0
  else if k = 2 ∨ k = 4 then
    if s ≠ 0 then 41 else if (if k = 2 then 64 else 0) < v.size then 42 else 0
  else 40
def wd (L : List Cl) (k s : Int) (v : ByteArray) : Int × Int × ByteArray :=
  if ck k s v ≠ 0 then (0, 0, ByteArray.empty)
  else if k = 1 then match gv L s with
    | some x => (2, s, x)
    | none => (1, s, v)
  else if k = 2 then (if bh L < 1024 then (1, bh L, v) else (3, 0, ByteArray.empty))
  else if k = 3 then match gv L s with
    | some x => (4, s, x)
    | none => (5, s, ByteArray.empty)
  else (6, L.length, ByteArray.empty)
def dn (L : List Cl) (k s : Int) (v : ByteArray) : List Cl := if (wd L k s v).1 = 1 then ins (wd L k s v).2 L else L
theorem wd_written {L : List Cl} (h : Ok L) {k s : Int} {v : ByteArray} (e : (wd L k s v).1 = 1) : 0 ≤ (wd L k s v).2.1 ∧ (wd L k s v).2.1 < 1024 ∧ (wd L k s v).2.2 = v ∧ v.size ≤ 64 ∧ gv L (wd L k s v).2.1 = none := by
  unfold wd at e ⊢
  by_cases hc : ck k s v = 0
  · simp only [hc, ne_eq, not_true, if_false] at e ⊢
    unfold ck at hc
    by_cases h1 : k = 1
    · subst h1
      simp at hc e ⊢
      by_cases h2 : s < 0 ∨ 1024 ≤ s
      · simp [h2] at hc
      · simp [h2] at hc
        cases hg : gv L s with
        | some x => simp [hg] at e
        | none => simp [hg]; omega
    · by_cases h2 : k = 2
      · subst h2
        simp at hc e ⊢
        by_cases h3 : bh L < 1024
        · simp [h3, gv_bh]
          have := bh_nonneg L
          by_cases h4 : s = 0
          · simp [h4] at hc; omega
          · simp [h4] at hc
        · simp [h3] at e
      · by_cases h3 : k = 3
        · subst h3
          simp at e
          cases hg : gv L s <;> simp [hg] at e
        · simp [h1, h2, h3] at e
  · simp [hc] at e
theorem Ok.dn {L : List Cl} (h : Ok L) (k s : Int) (v : ByteArray) : Ok (dn L k s v) := by
  unfold Go.Proofs.YtjfbkeommlopmaaGreatDoor.dn
  split
  · rename_i e
    obtain ⟨h1, h2, h3, h4, h5⟩ := wd_written h e
    exact h.ins ⟨h1, h2, by rw [h3]; exact h4⟩ h5
  · exact h
end Go.Proofs.YtjfbkeommlopmaaGreatDoor
namespace Go.Proofs.YtjfbkeommlopmaaGreatDoor
open Go.RowKit Go.Maps
set_option linter.unusedVariables false
theorem hide {p : Prop} (h : p) : Hid p := h
theorem i64_wf {a : Int} (h : (Lit.int .i64 a).wf = true) : -9223372036854775808 ≤ a ∧ a ≤ 9223372036854775807 := by
  simp [Lit.wf, IntKind.min, IntKind.max, IntKind.bits, IntKind.signed] at h
  omega
theorem wf_i64 {a : Int} (h : -9223372036854775808 ≤ a ∧ a ≤ 9223372036854775807) : (Lit.int .i64 a).wf = true := by
  simp [Lit.wf, IntKind.min, IntKind.max, IntKind.bits, IntKind.signed]
  omega
structure Upd (S : Nat → Prop) (w w' : World) : Prop where
  os : w'.os = w.os
  tape : w'.tape = w.tape
  output : w'.output = w.output
  size : w.heap.size ≤ w'.heap.size
  block : ∀ k, k < w.heap.size → ¬ S k → w'.heap[k]? = w.heap[k]?
theorem Upd.refl (S : Nat → Prop) (w : World) : Upd S w w := ⟨rfl, rfl, rfl, Nat.le_refl _, fun _ _ _ => rfl⟩
theorem Upd.trans {S : Nat → Prop} {a b c : World} (h : Upd S a b) (k : Upd S b c) : Upd S a c :=
  ⟨k.os.trans h.os, k.tape.trans h.tape, k.output.trans h.output, Nat.le_trans h.size k.size, fun i hi hs => (k.block i (Nat.lt_of_lt_of_le hi h.size) hs).trans (h.block i hi hs)⟩
theorem Upd.mono {S T : Nat → Prop} {w w' : World} (h : Upd S w w') (hs : ∀ k, k < w.heap.size → S k → T k) : Upd T w w' :=
  ⟨h.os, h.tape, h.output, h.size, fun k hk ht => h.block k hk (fun h2 => ht (hs k hk h2))⟩
theorem Upd.below {S : Nat → Prop} {w w' : World} {B : Nat} (h : Upd S w w') (hB : B ≤ w.heap.size) (hs : ∀ k, S k → B ≤ k) : Below B w w' :=
  ⟨h.os, h.tape, h.output, h.size, fun k hk => h.block k (by omega) (fun h2 => by have := hs k h2; omega)⟩
theorem Upd.of_below {S : Nat → Prop} {w w' : World} (h : Below w.heap.size w w') : Upd S w w' :=
  ⟨h.os, h.tape, h.output, h.size, fun k hk _ => h.block k hk⟩
theorem Upd.drewN {S : Nat → Prop} {a w : World} (h : Upd S a w) (k : Nat) : Upd S a (w.drewN k) := ⟨h.os, h.tape, h.output, h.size, h.block⟩
theorem Upd.alloc {S : Nat → Prop} {a w : World} (h : Upd S a w) (o : Obj) : Upd S a (w.alloc o) :=
  h.trans ⟨rfl, rfl, rfl, by simp, fun k hk _ => Below.heap_alloc _ _ _ hk⟩
theorem Upd.setCell {S : Nat → Prop} {a w : World} (h : Upd S a w) {p : Addr} (hp : S p.block ∨ a.heap.size ≤ p.block) (u : Value) : Upd S a (w.setCell p u) :=
  ⟨h.os, h.tape, h.output, by simpa [World.setCell] using h.size, fun k hk hs => (Below.heap_setCell w p u k (fun e => by
    rcases hp with hp | hp
    · exact hs (e ▸ hp)
    · omega)).trans (h.block k hk hs)⟩
theorem Upd.cell {S : Nat → Prop} {w w' : World} (h : Upd S w w') {p : Addr} (hp : p.block < w.heap.size) (hs : ¬ S p.block) : w'.cell? p = w.cell? p := World.cell?_of_block (w := w) (h.block p.block hp hs)
theorem Upd.frozen {S : Nat → Prop} {w w' : World} (h : Upd S w w') {p : Addr} (hp : p.block < w.heap.size) (hs : ¬ S p.block) : w'.frozen? p = w.frozen? p := World.frozen?_of_block (w := w) (h.block p.block hp hs)
theorem Upd.grownBy {S : Nat → Prop} {a w w' : World} {o : Option Nat} (h : Upd S a w) (hg : w.grownBy w' o) (ho : ∀ k, o = some k → k < a.heap.size → S k) : Upd S a w' :=
  ⟨hg.os.trans h.os, hg.tape.trans h.tape, hg.output.trans h.output, Nat.le_trans h.size hg.size, fun k hk hs => (hg.block k (Nat.lt_of_lt_of_le hk h.size) (fun e => hs (ho k e.symm hk))).trans (h.block k hk hs)⟩
structure Opn where
  k : Int
  s : Int
  v : ByteArray
def Opn.val (o : Opn) : Value := .agg #[.int .i64 o.k, .int .i64 o.s, .string o.v]
structure Opn.fits (o : Opn) : Prop where
  kw : (Lit.int .i64 o.k).wf = true
  sw : (Lit.int .i64 o.s).wf = true
  vl : o.v.size ≤ maxLen
def Ops (W : World) (a : Option Addr) (P : List Opn) : Prop := ∀ i (h : i < P.length), ∃ b o, a = some ⟨b, o, none⟩ ∧ W.cell? ⟨b, o + i * 3, none⟩ = some (.int .i64 P[i].k) ∧ W.cell? ⟨b, o + i * 3 + 1, none⟩ = some (.int .i64 P[i].s) ∧ W.cell? ⟨b, o + i * 3 + 2, none⟩ = some (.string P[i].v)
abbrev Rs := Int × Int × ByteArray
abbrev Own (w : World) (b n : Nat) (L : List Cl) : Prop := w.ownsMap Tryz.prog 3 cR b n (mD L)
theorem Own.block {w w' : World} {b n : Nat} {L : List Cl} (h : Own w b n L) (e : w'.heap[b]? = w.heap[b]?) : Own w' b n L := by
  obtain ⟨es, clock, hb, F, hs, hD⟩ := h
  exact ⟨es, clock, e.trans hb, F, hs, hD⟩
structure Led (w : World) (b : Nat) (m : Option Nat) (L : List Cl) : Prop where
  ok : Ok L
  lt : b < w.heap.size
  c0 : w.cell? ⟨b, 0, none⟩ = some (.map m)
  c1 : w.cell? ⟨b, 1, none⟩ = some (.int .i64 (bh L))
  f0 : w.frozen? ⟨b, 0, none⟩ = false
  f1 : w.frozen? ⟨b, 1, none⟩ = false
  nn : m = none → L = []
  sm : ∀ j, m = some j → j ≠ b ∧ Own w j L.length L
def LS (b : Nat) (m : Option Nat) (i : Nat) : Prop := i = b ∨ m = some i
theorem Led.upd {S : Nat → Prop} {w w' : World} {b : Nat} {m : Option Nat} {L : List Cl} (h : Led w b m L) (u : Upd S w w') (hb : ¬ S b) (hm : ∀ j, m = some j → ¬ S j) : Led w' b m L :=
  ⟨h.ok, Nat.lt_of_lt_of_le h.lt u.size, (u.cell h.lt hb).trans h.c0, (u.cell h.lt hb).trans h.c1, (u.frozen h.lt hb).trans h.f0, (u.frozen h.lt hb).trans h.f1, h.nn, fun j e => ⟨(h.sm j e).1, (h.sm j e).2.block (u.block j (h.sm j e).2.lt (hm j e))⟩⟩
theorem Led.mlt {w : World} {b : Nat} {m : Option Nat} {L : List Cl} (h : Led w b m L) {j : Nat} (e : m = some j) : j < w.heap.size := (h.sm j e).2.lt
theorem belN {B : Nat} {w w' : World} (h : Below B w w') (n : Nat) : Below B w (w'.drewN n) := ⟨h.os, h.tape, h.output, h.size, h.block⟩
end Go.Proofs.YtjfbkeommlopmaaGreatDoor
namespace Go.Proofs.YtjfbkeommlopmaaGreatDoor.Wi
open Go.RowKit
set_option linter.unusedVariables false
def wtyp (w : World) (k : Nat) : Prop := ∃ c f t, w.heap[k]? = some (.cells c t f) ∧ (t = 5 ∨ t = 151 ∨ t = 112)
def TKp (w w' : World) : Prop := Upd (wtyp w) w w'
theorem TKp.refl (w : World) : TKp w w := Upd.refl _ _
theorem wtyp_back {a w : World} {k : Nat} (h : TKp a w) (hk : k < a.heap.size) (hw : wtyp w k) : wtyp a k := by
  by_cases hn : wtyp a k
  · exact hn
  · obtain ⟨c, f, t, e, ht⟩ := hw
    rw [h.block k hk hn] at e
    exact ⟨c, f, t, e, ht⟩
theorem TKp.trans {a b c : World} (h : TKp a b) (k : TKp b c) : TKp a c :=
  ⟨k.os.trans h.os, k.tape.trans h.tape, k.output.trans h.output, Nat.le_trans h.size k.size, fun i hi hs => (k.block i (Nat.lt_of_lt_of_le hi h.size) (fun hw => hs (wtyp_back h hi hw))).trans (h.block i hi hs)⟩
theorem TKp.alloc {a w : World} (h : TKp a w) (o : Obj) : TKp a (w.alloc o) := Upd.alloc h o
theorem TKp.drewN {a w : World} (h : TKp a w) (k : Nat) : TKp a (w.drewN k) := Upd.drewN h k
theorem TKp.of_below {w w' : World} (h : Below w.heap.size w w') : TKp w w' := Upd.of_below h
theorem TKp.setCell {a w : World} (h : TKp a w) {p : Addr} (hp : wtyp w p.block) (u : Value) : TKp a (w.setCell p u) := by
  refine Upd.setCell h ?_ u
  by_cases hk : p.block < a.heap.size
  · exact .inl (wtyp_back h hk hp)
  · exact .inr (by omega)
theorem TKp.own {a w w' : World} {B : Nat} {v : Value} {l : List Int} (h : TKp a w) (ho : Own B w v l) (hg : w.grownBy w' v.ownBlock) : TKp a w' :=
  Upd.grownBy h hg (fun k hk hlt => wtyp_back h hlt (by
    rcases ho.2 with ⟨e, _⟩ | ⟨g, cap, cur, e, _, e3, _⟩
    · rw [e] at hk; simp [Value.ownBlock] at hk
    · rw [e] at hk
      simp [Value.ownBlock] at hk
      subst hk
      exact ⟨_, _, _, e3, .inl rfl⟩))
theorem wtyp_set {w : World} {k : Nat} (h : wtyp w k) (p : Addr) (u : Value) : wtyp (w.setCell p u) k := by
  obtain ⟨c, f, t, e, ht⟩ := h
  by_cases hp : p.block = k
  · subst hp
    refine ⟨if p.spot.isSome then c else c.setIfInBounds p.off u, f, t, ?_, ht⟩
    · simp only [World.setCell]
      rw [Array.getElem?_modify, if_pos rfl, e]
      rfl
  · refine ⟨c, f, t, ?_, ht⟩
    rw [← e]
    simp only [World.setCell]
    rw [Array.getElem?_modify, if_neg hp]
theorem wtyp_below {w w' : World} {k B : Nat} (h : wtyp w k) (hb : Below B w w') (hk : k < B) : wtyp w' k := by
  obtain ⟨c, f, t, e, ht⟩ := h
  exact ⟨c, f, t, (hb.block k hk).trans e, ht⟩
theorem wtyp_alloc {w : World} {k : Nat} (h : wtyp w k) (o : Obj) : wtyp (w.alloc o) k := by
  obtain ⟨c, f, t, e, ht⟩ := h
  have hk := (Array.getElem?_eq_some_iff.1 e).1
  refine ⟨c, f, t, ?_, ht⟩
  rw [← e]
  exact ((Below.refl (k + 1) w).alloc (by omega) o).block k (by omega)
theorem wtyp_pile (w : World) (c : Array Value) (n : Nat) (hn : n = w.heap.size) : wtyp (w.alloc (.cells c 151)) n := ⟨c, (0, 0), 151, by
    subst hn
    show (w.heap.push _)[w.heap.size]? = _
    simp, .inr (.inl rfl)⟩
def WOkT (w : World) (b : Nat) (l : List Int) : Prop := (l = [] ∧ WNew w b ∧ wtyp w b) ∨ ∃ q g n c, WHas w b q (some ⟨g, 0, none⟩) n c l ∧ wtyp w b ∧ wtyp w q
theorem WOkT.ok {w : World} {b : Nat} {l : List Int} (h : WOkT w b l) : WOk w b l := by
  rcases h with ⟨e, h, _⟩ | ⟨q, g, n, c, h, _⟩
  · exact .inl ⟨e, h⟩
  · exact .inr ⟨q, g, n, c, h⟩
set_option maxHeartbeats 400000 in
theorem appendNumber_tk (B : Nat) (v : Value) (l : List Int) (x : Nat) (w : World) (hown : Own B w v l) (hB : B ≤ w.heap.size) (hx : x < 2 ^ 64) (hl : l.length + 9 ≤ 140737488355328) :
    Calls Tryz.prog 139 #[v, .int .u64 x] w fun e w' => ∃ v', e = .returned v' ∧ Own B w' v' (l ++ M.form x) ∧ v' ≠ .slice none 0 0 ∧ Below B w w' ∧ TKp w w' := by
  have hk8 := M.nb_le x hx
  have hbl : M.bl x ≤ 64 := (M.bl_le x 64).2 hx
  have HC := len64_any x
  have hc := fun w => HC w hx
  clear HC
  have HX := hide hx
  have HL := hide hl
  clear hx hl
  go_enter Tryz.func139, Tryz.ntmps139
  go_wp2_with fail
  refine (hc _).mono ?_
  clear hc
  rintro e w' ⟨rfl, rfl⟩
  go_wp2_with (at_builtin; go_must (refine app_one _ rfl (.tmp 11) (.tmp 14) rfl B l v rfl _ rfl (((M.bl x : Int) + 7) / 8) ?zc ?zown ?zB ?zb ?zk))
  case zc => simp
  case zown => exact hown.alloc _
  case zB => simp; omega
  case zb => have := HL.out; omega
  case zk =>
    intro v1 w1 h1 h2 h3
    have hb1 : Below B w' w1 := (hown.alloc _).grown ((Below.refl B w').alloc hB (.cells #[.int .u8 (((M.bl x : Int) + 7) / 8)] 5)) h3 (by simp; omega)
    have ub1 : TKp w' w1 := TKp.own ((TKp.refl w').alloc _) (hown.alloc _) h3
    clear h3 hown
    have ek : (((M.bl x : Int) + 7) / 8) = ((M.nb x : Nat) : Int) := by unfold M.nb; omega
    rw [ek, ← M.pre_zero] at h1
    rw [ek]
    go_wp2_with fail
    go_loopw [0, 6, 17] (fun b _ i wr => ∃ j : Nat, j ≤ M.nb x ∧ i = .int .i64 j ∧ Own B wr b (l ++ M.pre x j) ∧ Below B w' wr ∧ b ≠ .slice none 0 0 ∧ TKp w' wr) (fun _ _ i _ => M.nb x - (intOf i).toNat)
    case atStart => exact ⟨0, Nat.zero_le _, rfl, h1, hb1, h2, ub1⟩
    case round =>
      obtain ⟨j, hj, rfl, hr, hbr, hn, hur⟩ := hrel
      have hsr := hbr.size
      by_cases hlt : j < M.nb x
      · go_wp2_with (at_builtin; go_must (refine app_one _ rfl (.tmp 20) (.tmp 29) rfl B (l ++ M.pre x j) u0 rfl _ rfl ((x : Int) / 2 ^ (8 * (M.nb x - 1 - j)) % 256) ?zc ?zown ?zB ?zb ?zk))
        case zc => simp
        case zown => exact hr.alloc _
        case zB => simp; omega
        case zb => have := HL.out; simp [M.pre_length]; omega
        case zk =>
          intro v2 w2 k1 k2 k3
          have hb2 : Below B w' w2 := (hr.alloc _).grown (hbr.alloc (by omega) (.cells #[.int .u8 ((x : Int) / 2 ^ (8 * (M.nb x - 1 - j)) % 256)] 5)) k3 (by simp; omega)
          have k4 : Own B w2 v2 (l ++ M.pre x (j + 1)) := by rw [M.pre_succ, ← dig_eq]; exact k1
          have ub2 : TKp w' w2 := TKp.own (hur.alloc _) (hr.alloc _) k3
          clear k1 k3 hr hbr hur
          go_wp2
          go_roundw
          case rel => exact ⟨j + 1, by omega, by go_num, k4, hb2, k2, ub2⟩
          case measure => simp [intOf]; omega
      · obtain rfl : j = M.nb x := by omega
        go_wp2
        go_ret
        exact ⟨_, rfl, hr, hn, hbr, hur⟩
theorem own_tk (B b : Nat) (l : List Int) (w : World) (hB : B ≤ b) (h : WOkT w b l) :
    Calls Tryz.prog 138 #[.pointer (some ⟨b, 0, none⟩)] w fun e w' => ∃ q s n c, e = .returned (.pointer (some ⟨q, 0, none⟩)) ∧ WHas w' b q s n c l ∧ Below B w w' ∧ TKp w w' ∧ wtyp w' b ∧ wtyp w' q := by
  rcases h with ⟨rfl, h, kb⟩ | ⟨q, g, n, c, h, kb, kq⟩
  · refine (own_nil b w h.lt h.c0 h.f0).mono ?_
    rintro e w' ⟨rfl, rfl⟩
    have hlt := h.lt
    refine ⟨w.heap.size, none, 0, 0, rfl, ⟨h.lt, by simp, rfl, ?_, ?_, ?_, ?_, ?_, ?_, ?_, ?_, Own.nil _ _⟩, ((Below.refl B w).setCell hB _).alloc (by simp; omega) _, ((TKp.refl w).setCell kb _).alloc _, wtyp_alloc (wtyp_set kb _ _) _, wtyp_pile _ _ _ (by simp)⟩
    all_goals obtain ⟨_, c0, c1, c2, f0, f1, f2⟩ := h
    all_goals go_simp
  · refine (own_has b q n (some ⟨g, 0, none⟩) c w h.c0 h.c1 h.cq).mono ?_
    rintro e w' ⟨rfl, k, rfl⟩
    exact ⟨q, _, n, c, rfl, ⟨h.lt, h.ltq, h.len, h.c0, h.c1, h.c2, h.f0, h.f1, h.f2, h.cq, h.fq, h.own⟩, below_drewN (Below.refl _ _) k, (TKp.refl w).drewN k, kb, kq⟩
set_option maxHeartbeats 400000 in
theorem lay_tk (B b : Nat) (l : List Int) (x : Nat) (t : ByteArray) (w : World) (hB : B ≤ b) (h : WOkT w b l) (hx : x < 2 ^ 64) (hl : l.length + 9 + t.size ≤ 140737488355328) :
    Calls Tryz.prog 119 #[.pointer (some ⟨b, 0, none⟩), .int .u64 x, .string t] w fun e w' => e = .returned (.tuple #[]) ∧ WOkT w' b (l ++ M.form x ++ sb t) ∧ Below B w w' ∧ TKp w w' := by
  have hnb := M.nb_le x hx
  have HX := hide hx
  have HL := hide hl
  clear hx hl
  go_enter Tryz.func119, Tryz.ntmps119
  go_wp2_with fail
  refine (own_tk B b l w hB h).mono ?_
  clear h
  rintro e w1 ⟨q, s, n, c, rfl, hw, hb1, u1, kb, kq⟩
  obtain ⟨hlt, hltq, hlen, c0, c1, c2, f0, f1, f2, cq, fq, ho⟩ := hw
  have HLEN := hide hlen
  clear hlen
  go_wp2_with fail
  refine (appendNumber_tk (q + 1) _ l x _ ho (by omega) HX.out (by have := HL.out; omega)).mono ?_
  clear ho
  rintro e w2 ⟨v2, rfl, ho2, hn2, hb2, u2⟩
  have hs2 := hb2.size
  go_wp2_with (at_builtin; go_must (refine app_str _ rfl (.tmp 15) (.tmp 16) rfl (q + 1) (l ++ M.form x) v2 rfl t rfl ho2 ?zB ?zb ?zk))
  case zB => omega
  case zb => have := HL.out; simp [M.form_length]; omega
  case zk =>
    intro v3 w3 ho3 hn3 hg3
    have hb3 : Below (q + 1) w1 w3 := ho2.grown hb2 hg3 (by omega)
    have hs3 := hb3.size
    have u3 : TKp w1 w3 := TKp.own u2 ho2 hg3
    have UT := hide (u1.trans u3)
    have HKB := hide (wtyp_below kb hb3 (show b < q + 1 by omega))
    have HKQ := hide (wtyp_below kq hb3 (show q < q + 1 by omega))
    clear u1 u2 u3 kb kq
    obtain ⟨g, c3, hv3, hg1, hg2⟩ := ho3.shape (hn3 (.inl hn2))
    subst hv3
    clear hn3 hg3 hn2 hb2 ho2
    rw [← List.append_assoc] at ho3
    generalize hLL : l ++ M.form x ++ sb t = L at *
    rw [show l ++ (M.form x ++ sb t) = L from by rw [← hLL, List.append_assoc]]
    generalize hNN : L.length = N at *
    have HLL := hide hLL
    have HNN := hide hNN
    clear hLL hNN
    have d0 := (hb3.cell (p := ⟨b, 0, none⟩) (by show b < q + 1; omega)).trans c0
    have d1 := (hb3.cell (p := ⟨b, 1, none⟩) (by show b < q + 1; omega)).trans c1
    have d2 := (hb3.cell (p := ⟨b, 2, none⟩) (by show b < q + 1; omega)).trans c2
    have e0 := (hb3.frozen (p := ⟨b, 0, none⟩) (by show b < q + 1; omega)).trans f0
    have e1 := (hb3.frozen (p := ⟨b, 1, none⟩) (by show b < q + 1; omega)).trans f1
    have e2 := (hb3.frozen (p := ⟨b, 2, none⟩) (by show b < q + 1; omega)).trans f2
    have dq := (hb3.cell (p := ⟨q, 0, none⟩) (by show q < q + 1; omega)).trans cq
    have eq := (hb3.frozen (p := ⟨q, 0, none⟩) (by show q < q + 1; omega)).trans fq
    clear c0 c1 c2 f0 f1 f2 cq fq
    go_wp2
    go_end0
    rw [HLL.out]
    refine ⟨rfl, Or.inr ⟨q, g, N, c3, ⟨hlt, by simp; omega, HNN.out.symm, ?_, ?_, ?_, ?_, ?_, ?_, ?_, ?_, ?_⟩, wtyp_set (wtyp_set HKB.out _ _) _ _, wtyp_set (wtyp_set HKQ.out _ _) _ _⟩, hb1.trans (((hb3.mono (by omega)).setCell (by show B ≤ q; omega) _).setCell hB _), (UT.out.setCell HKQ.out _).setCell (wtyp_set HKB.out _ _) _⟩
    all_goals first | (exact (ho3.setCell_below (by show q < q + 1; omega) _).setCell_below (by show b < q + 1; omega) _) | go_simp
set_option maxHeartbeats 400000 in
theorem number_tk (B b : Nat) (l : List Int) (x : Nat) (w : World) (hB : B ≤ b) (h : WOkT w b l) (hx : x < 2 ^ 64) (hl : l.length + 9 ≤ 140737488355328) :
    Calls Tryz.prog 140 #[.pointer (some ⟨b, 0, none⟩), .int .u64 x] w fun e w' => e = .returned (.tuple #[]) ∧ WOkT w' b (l ++ M.form x) ∧ Below B w w' ∧ TKp w w' := by
  have HF := hide (lay_tk B b l x ⟨#[]⟩ w hB h)
  have hc : w.cell? ⟨b, 2, none⟩ = some (.int .i64 0) := by
    rcases h with ⟨_, h, _⟩ | ⟨_, _, _, _, h, _⟩
    · exact h.c2
    · exact h.c2
  clear h
  go_enter Tryz.func140, Tryz.ntmps140
  go_wp2_with (go_at_call 117; go_in)
  refine (HF.out (by omega) (by first | (show l.length + 9 + 0 ≤ _; omega) | omega)).mono ?_
  rintro e w1 ⟨rfl, h1, h2, h3⟩
  clear HF
  go_wp2
  go_end0
  exact ⟨rfl, by first | exact h1 | simpa [sb] using h1, h2, h3⟩
set_option maxHeartbeats 400000 in
theorem int_tk (B b : Nat) (l : List Int) (x : Nat) (w : World) (hB : B ≤ b) (h : WOkT w b l) (hx : x ≤ 9223372036854775807) (hl : l.length + 9 ≤ 140737488355328) :
    Calls Tryz.prog 90 #[.pointer (some ⟨b, 0, none⟩), .int .i64 x] w fun e w' => e = .returned (.tuple #[]) ∧ WOkT w' b (l ++ M.form x) ∧ Below B w w' ∧ TKp w w' := by
  have HF := hide (lay_tk B b l x ⟨#[]⟩ w hB h)
  have hc : w.cell? ⟨b, 2, none⟩ = some (.int .i64 0) := by
    rcases h with ⟨_, h, _⟩ | ⟨_, _, _, _, h, _⟩
    · exact h.c2
    · exact h.c2
  clear h
  go_enter Tryz.func90, Tryz.ntmps90
  go_wp2_with (go_at_call 117; go_in)
  refine (HF.out (by omega) (by first | (show l.length + 9 + 0 ≤ _; omega) | omega)).mono ?_
  rintro e w1 ⟨rfl, h1, h2, h3⟩
  clear HF
  go_wp2
  go_end0
  exact ⟨rfl, by first | exact h1 | simpa [sb] using h1, h2, h3⟩
set_option maxHeartbeats 400000 in
theorem count_tk (B b : Nat) (l : List Int) (x m : Nat) (w : World) (hB : B ≤ b) (h : WOkT w b l) (hx : x ≤ 9223372036854775807) (hxm : x ≤ m) (hl : l.length + 9 ≤ 140737488355328) :
    Calls Tryz.prog 142 #[.pointer (some ⟨b, 0, none⟩), .int .i64 x, .int .i64 m] w fun e w' => e = .returned (.tuple #[]) ∧ WOkT w' b (l ++ M.form x) ∧ Below B w w' ∧ TKp w w' := by
  have HF := hide (lay_tk B b l x ⟨#[]⟩ w hB h)
  have hc : w.cell? ⟨b, 2, none⟩ = some (.int .i64 0) := by
    rcases h with ⟨_, h, _⟩ | ⟨_, _, _, _, h, _⟩
    · exact h.c2
    · exact h.c2
  clear h
  go_enter Tryz.func142, Tryz.ntmps142
  go_wp2_with (go_at_call 117; go_in)
  refine (HF.out (by omega) (by first | (show l.length + 9 + 0 ≤ _; omega) | omega)).mono ?_
  rintro e w1 ⟨rfl, h1, h2, h3⟩
  clear HF
  go_wp2
  go_end0
  exact ⟨rfl, by first | exact h1 | simpa [sb] using h1, h2, h3⟩
set_option maxHeartbeats 400000 in
theorem text_tk (B b : Nat) (l : List Int) (s : ByteArray) (m : Nat) (w : World) (hB : B ≤ b) (h : WOkT w b l) (hxm : s.size ≤ m) (hl : l.length + 9 + s.size ≤ 140737488355328) :
    Calls Tryz.prog 141 #[.pointer (some ⟨b, 0, none⟩), .string s, .int .i64 m] w fun e w' => e = .returned (.tuple #[]) ∧ WOkT w' b (l ++ M.form s.size ++ sb s) ∧ Below B w w' ∧ TKp w w' := by
  have HF := hide (lay_tk B b l s.size s w hB h)
  have hc : w.cell? ⟨b, 2, none⟩ = some (.int .i64 0) := by
    rcases h with ⟨_, h, _⟩ | ⟨_, _, _, _, h, _⟩
    · exact h.c2
    · exact h.c2
  clear h
  go_enter Tryz.func141, Tryz.ntmps141
  go_wp2_with (go_at_call 117; go_in)
  refine (HF.out (by omega) (by first | (show l.length + 9 + 0 ≤ _; omega) | omega)).mono ?_
  rintro e w1 ⟨rfl, h1, h2, h3⟩
  clear HF
  go_wp2
  go_end0
  exact ⟨rfl, by first | exact h1 | simpa [sb] using h1, h2, h3⟩
end Go.Proofs.YtjfbkeommlopmaaGreatDoor.Wi
namespace Go.Proofs.YtjfbkeommlopmaaGreatDoor.M
def rb (l : List Int) : Nat := l.foldl (fun v z => v * 256 + z.toNat) 0
def rl : List Int → Nat
  | [] => 0
  | z :: r => z.toNat + 256 * rl r
theorem rb_snoc (l : List Int) (z : Int) : rb (l ++ [z]) = rb l * 256 + z.toNat := by simp [rb]
theorem rb_take (l : List Int) (k : Nat) (h : k < l.length) : rb (l.take (k + 1)) = rb (l.take k) * 256 + (l.getD k 0).toNat := by
  rw [List.take_succ_eq_append_getElem h, rb_snoc]
  simp [List.getD, h]
theorem rl_snoc (l : List Int) (z : Int) : rl (l ++ [z]) = rl l + 256 ^ l.length * z.toNat := by
  induction l with
  | nil => simp [rl]
  | cons y r ih =>
    simp only [List.cons_append, rl, ih, List.length_cons, Nat.pow_succ, Nat.mul_add]
    have : 256 * (256 ^ r.length * z.toNat) = 256 ^ r.length * 256 * z.toNat := by rw [Nat.mul_comm (256 ^ r.length) 256, Nat.mul_assoc]
    omega
theorem rl_take (l : List Int) (k : Nat) (h : k < l.length) : rl (l.take (k + 1)) = rl (l.take k) + 256 ^ k * (l.getD k 0).toNat := by
  rw [List.take_succ_eq_append_getElem h, rl_snoc]
  simp [List.getD, h, Nat.min_eq_left (Nat.le_of_lt h)]
theorem rb_lt (l : List Int) (h : ∀ z ∈ l, 0 ≤ z ∧ z < 256) : rb l < 256 ^ l.length := by
  have key : ∀ (r : List Int) (v n : Nat), (∀ z ∈ r, 0 ≤ z ∧ z < 256) → v < 256 ^ n → r.foldl (fun v z => v * 256 + z.toNat) v < 256 ^ (n + r.length) := by
    intro r
    induction r with
    | nil => intro v n _ hv; simpa using hv
    | cons z r ih =>
      intro v n hr hv
      have hz := hr z (by simp)
      have := ih (v * 256 + z.toNat) (n + 1) (fun y hy => hr y (by simp [hy])) (by rw [Nat.pow_succ]; omega)
      simpa [Nat.add_assoc, Nat.add_comm 1] using this
  simpa [rb] using key l 0 0 h (by simp)
theorem rl_lt (l : List Int) (h : ∀ z ∈ l, 0 ≤ z ∧ z < 256) : rl l < 256 ^ l.length := by
  induction l with
  | nil => simp [rl]
  | cons z r ih =>
    have hz := h z (by simp)
    have := ih (fun y hy => h y (by simp [hy]))
    simp only [rl, List.length_cons, Nat.pow_succ]
    omega
theorem or_low (v z : Nat) (k : Nat) (h : z < 2 ^ k) : (v * 2 ^ k) ||| z = v * 2 ^ k + z := by
  rw [← Nat.shiftLeft_eq, Nat.shiftLeft_add_eq_or_of_lt h]
end Go.Proofs.YtjfbkeommlopmaaGreatDoor.M
namespace Go.Proofs.YtjfbkeommlopmaaGreatDoor.Wi
open Go.RowKit
set_option linter.unusedVariables false
theorem rb_step (v : Nat) (z : Int) (hv : v < 16777216) (h0 : 0 ≤ z) (h1 : z < 256) : bits .or .u32 ((v : Int) * 256 % 4294967296) (z % 4294967296) = ((v * 256 + z.toNat : Nat) : Int) := by
  obtain ⟨n, rfl⟩ := Int.eq_ofNat_of_zero_le h0
  have e1 : ((v : Int) * 256 % 4294967296) = ((v * 2 ^ 8 : Nat) : Int) := by omega
  have e2 : ((n : Int) % 4294967296) = (n : Int) := by omega
  rw [e1, e2, u32_or_nat _ _ (by omega) (by omega), M.or_low v n 8 (by omega)]
  simp
theorem rl_step (k v : Nat) (z : Int) (hk : k < 4) (hv : v < 256 ^ k) (h0 : 0 ≤ z) (h1 : z < 256) : bits .or .u32 (v : Int) (z % 4294967296 * 2 ^ (8 * k) % 4294967296) = ((v + 256 ^ k * z.toNat : Nat) : Int) := by
  obtain ⟨n, rfl⟩ := Int.eq_ofNat_of_zero_le h0
  have hp : (256 : Nat) ^ k = 2 ^ (8 * k) := by rw [show (256 : Nat) = 2 ^ 8 from rfl, ← Nat.pow_mul]
  have hq : 2 ^ (8 * k) ≤ 2 ^ 24 := Nat.pow_le_pow_right (by omega) (by omega)
  have hm : n * 2 ^ (8 * k) ≤ 255 * 2 ^ 24 := Nat.mul_le_mul (by omega) hq
  have hc : ((2 : Int) ^ (8 * k)) = ((2 ^ (8 * k) : Nat) : Int) := by simp
  have ho := M.or_low n v (8 * k) (by rw [← hp]; exact hv)
  rw [hp] at hv ⊢
  rw [hc, Int.toNat_natCast]
  generalize 2 ^ (8 * k) = q at *
  have e1 : ((n : Int) % 4294967296 * (q : Int) % 4294967296) = ((n * q : Nat) : Int) := by
    rw [show ((n : Int) % 4294967296) = (n : Int) from by omega, ← Int.natCast_mul]
    omega
  rw [e1, u32_or_nat _ _ (by omega) (by omega), Nat.or_comm, ho, Nat.mul_comm, Nat.add_comm]
set_option maxHeartbeats 400000 in
theorem toldLength_any (x : Addr) (c : Nat) (l : List Int) (w : World) (hl : l.length = 4) (hr : Row w x l) (hb : ∀ z ∈ l, 0 ≤ z ∧ z < 256) :
    Calls Tryz.prog 126 #[.slice (some x) 4 c] w fun e w' => e = .returned (.int .u32 (M.rb l)) ∧ w' = w := by
  obtain ⟨xb, xo, xs⟩ := x
  go_enter Tryz.func126, Tryz.ntmps126
  go_wp2
  go_loop [3, 4, 5] (fun t _ i => ∃ k : Nat, k ≤ 4 ∧ i = .int .i64 k ∧ t = .int .u32 (M.rb (l.take k) : Nat)) (fun _ _ i => 4 - (intOf i).toNat)
  case atStart => exact ⟨0, by omega, rfl, rfl⟩
  case round =>
    obtain ⟨k, hk, rfl, rfl⟩ := hrel
    by_cases hlt : k < 4
    · have hcell := hr k (by omega)
      have hz : 0 ≤ l.getD k 0 ∧ l.getD k 0 < 256 := hb _ (by simp [List.getD, show k < l.length by omega])
      go_wp2
      go_round
      case rel =>
        refine ⟨k + 1, by omega, by go_num, int_eq ?_⟩
        have hlk : k < l.length := by omega
        have hv : M.rb (l.take k) < 256 ^ 3 := Nat.lt_of_lt_of_le (M.rb_lt (l.take k) (fun z hz => hb z (List.mem_of_mem_take hz))) (Nat.pow_le_pow_right (by omega) (by simp; omega))
        rw [M.rb_take l k hlk, show l[k] = l.getD k 0 from by simp [List.getD, hlk]]
        exact rb_step _ _ (by omega) hz.1 hz.2
      case measure => simp [intOf]; omega
    · obtain rfl : k = 4 := by omega
      go_wp2
      go_ret
      exact ⟨ret_int (by rw [List.take_of_length_le (by omega)]), rfl⟩
set_option maxHeartbeats 400000 in
theorem toldSum_any (x : Addr) (c : Nat) (l : List Int) (w : World) (hl : l.length = 4) (hr : Row w x l) (hb : ∀ z ∈ l, 0 ≤ z ∧ z < 256) :
    Calls Tryz.prog 96 #[.slice (some x) 4 c] w fun e w' => e = .returned (.int .u32 (M.rl l)) ∧ w' = w := by
  obtain ⟨xb, xo, xs⟩ := x
  go_enter Tryz.func96, Tryz.ntmps96
  go_wp2
  go_loop [3, 4, 5] (fun t _ i => ∃ k : Nat, k ≤ 4 ∧ i = .int .i64 k ∧ t = .int .u32 (M.rl (l.take k) : Nat)) (fun _ _ i => 4 - (intOf i).toNat)
  case atStart => exact ⟨0, by omega, rfl, rfl⟩
  case round =>
    obtain ⟨k, hk, rfl, rfl⟩ := hrel
    by_cases hlt : k < 4
    · have hcell := hr k (by omega)
      have hz : 0 ≤ l.getD k 0 ∧ l.getD k 0 < 256 := hb _ (by simp [List.getD, show k < l.length by omega])
      go_wp2
      go_round
      case rel =>
        refine ⟨k + 1, by omega, by go_num, int_eq ?_⟩
        have hlk : k < l.length := by omega
        have hv := M.rl_lt (l.take k) (fun z hz => hb z (List.mem_of_mem_take hz))
        rw [List.length_take, Nat.min_eq_left (by omega)] at hv
        rw [M.rl_take l k hlk, show l[k] = l.getD k 0 from by simp [List.getD, hlk]]
        exact rl_step k _ _ hlt hv hz.1 hz.2
      case measure => simp [intOf]; omega
    · obtain rfl : k = 4 := by omega
      go_wp2
      go_ret
      exact ⟨ret_int (by rw [List.take_of_length_le (by omega)]), rfl⟩
theorem co_long (a : Option Addr) (n c : Nat) (w : World) (h : 32768 < n) :
    Calls Tryz.prog 95 #[.slice a n c] w fun e w' => e = .returned (.int .i64 11) ∧ w' = w := by
  go_enter Tryz.func95, Tryz.ntmps95
  go_wp2
  go_ret
  exact ⟨rfl, rfl⟩
theorem co_short (a : Option Addr) (n c : Nat) (w : World) (h : n < 12) :
    Calls Tryz.prog 95 #[.slice a n c] w fun e w' => e = .returned (.int .i64 10) ∧ w' = w := by
  go_enter Tryz.func95, Tryz.ntmps95
  go_wp2
  go_ret
  exact ⟨rfl, rfl⟩
theorem Hs.flat {w : World} {x : Addr} {n c : Nat} {l : List Int} (h : Hs w (some x) n c l) (hn : 0 < n) : ∃ b o, x = ⟨b, o, none⟩ := by
  have h0 := h.row x rfl 0 (by rw [h.len]; exact hn)
  obtain ⟨b, o, s⟩ := x
  have := World.cell?_spot h0
  exact ⟨b, o, by cases s <;> simp_all [Addr.add]⟩
theorem conv_row (w : World) (b o n c : Nat) (l : List Int) (hl : l.length = n) (hr : Row w ⟨b, o, none⟩ l) :
    (convert 55 9 (.slice (some ⟨b, o, none⟩) n c)).run Tryz.prog w = .ok (.string (strOfNums l)) w :=
  run_convert_bytes_arg w 55 5 Tryz.underlying55 Tryz.underlying5 b o n c l hl (fun i hi => by have := hr i (by omega); rwa [Addr.add_lit] at this) 9 Tryz.underlying9
theorem sb_nums (l : List Int) (h : ∀ z ∈ l, 0 ≤ z ∧ z < 256) : sb (strOfNums l) = l := by
  unfold sb
  rw [strOfNums_data, List.map_map]
  conv => rhs; rw [← List.map_id l]
  apply List.map_congr_left
  intro z hz
  have := h z hz
  simp [UInt8.toNat_ofNat']
  omega
theorem nums_list (l : List Int) : (strOfNums l).toList = l.map fun n => UInt8.ofNat n.toNat := by
  rw [ByteArray.toList_eq, strOfNums_data]
theorem magic_test (l : List Int) (hb : ∀ z ∈ l, 0 ≤ z ∧ z < 256) : ((strOfNums (l.take 4)).toList == [97, 109, 110, 49]) = decide (l.take 4 = M.magic) := by
  rw [nums_list]
  by_cases h : l.take 4 = M.magic
  · rw [h]; decide
  · rw [decide_eq_false h, beq_eq_false_iff_ne]
    intro he
    apply h
    have h2 := congrArg (List.map fun b : UInt8 => (b.toNat : Int)) he
    rw [List.map_map] at h2
    have h3 : (l.take 4).map ((fun b : UInt8 => (b.toNat : Int)) ∘ fun n : Int => UInt8.ofNat n.toNat) = l.take 4 := by
      conv => rhs; rw [← List.map_id (l.take 4)]
      apply List.map_congr_left
      intro z hz
      have := hb z (List.mem_of_mem_take hz)
      simp [UInt8.toNat_ofNat']
      omega
    rw [h3] at h2
    exact h2
set_option maxRecDepth 100000 in
set_option maxHeartbeats 400000 in
theorem co_magic (b o n c : Nat) (l : List Int) (w : World) (hh : Hs w (some ⟨b, o, none⟩) n c l) (h1 : 12 ≤ n) (h2 : n ≤ 32768) (hm : l.take 4 ≠ M.magic) :
    Calls Tryz.prog 95 #[.slice (some ⟨b, o, none⟩) n c] w fun e w' => e = .returned (.int .i64 13) ∧ w' = w := by
  have hr := hh.row _ rfl
  have hcap := hh.cap
  have hlen := hh.len
  have kc := conv_row w b o 4 c (l.take 4) (by simp; omega) (hr.take 4)
  have kt := magic_test l hh.byte
  rw [decide_eq_false hm] at kt
  clear hr hh hlen hm
  go_enter Tryz.func95, Tryz.ntmps95
  go_wp2
  go_ret
  exact ⟨rfl, rfl⟩
theorem Row.drop {w : World} {b o : Nat} {l : List Int} (h : Row w ⟨b, o, none⟩ l) (k : Nat) : Row w ⟨b, o + k, none⟩ (l.drop k) := by
  intro i hi
  have h2 : k + i < l.length := by simp at hi; omega
  have := h (k + i) h2
  rw [Addr.add_lit] at this ⊢
  rw [Nat.add_assoc, this]
  simp [List.getD]
def coErr (n T : Nat) : Int := if n < T + 12 then 10 else if T + 12 < n then 15 else 0
theorem coErr_short {n T : Nat} (h : n < T + 12) : coErr n T = 10 := by unfold coErr; rw [if_pos h]
theorem coErr_tail {n T : Nat} (h : T + 12 < n) : coErr n T = 15 := by unfold coErr; rw [if_neg (by omega), if_pos h]
theorem coErr_ok {n T : Nat} (h1 : ¬ n < T + 12) (h2 : ¬ T + 12 < n) : coErr n T = 0 := by unfold coErr; rw [if_neg h1, if_neg h2]
def told (l : List Int) : Nat := M.rb ((l.drop 4).take 4)
set_option maxRecDepth 100000 in
set_option maxHeartbeats 400000 in
theorem co_rest (b o n c : Nat) (l : List Int) (w : World) (hh : Hs w (some ⟨b, o, none⟩) n c l) (h1 : 12 ≤ n) (h2 : n ≤ 32768) (hm : l.take 4 = M.magic) :
    Calls Tryz.prog 95 #[.slice (some ⟨b, o, none⟩) n c] w fun e w' => e = .returned (.int .i64 (coErr n (told l))) ∧ w' = w := by
  have hr := hh.row _ rfl
  have hcap := hh.cap
  have hlen := hh.len
  have kc := conv_row w b o 4 c (l.take 4) (by simp; omega) (hr.take 4)
  have kt := magic_test l hh.byte
  rw [decide_eq_true hm] at kt
  have hlt : told l < 4294967296 := by
    have h3 : told l < 256 ^ 4 := Nat.lt_of_lt_of_le (M.rb_lt ((l.drop 4).take 4) (fun z hz => hh.byte z (List.mem_of_mem_drop (List.mem_of_mem_take hz)))) (Nat.pow_le_pow_right (by omega) (by simp; omega))
    omega
  have HC := toldLength_any ⟨b, o + 4, none⟩ (c - 4) ((l.drop 4).take 4) w (by simp; omega) ((hr.drop 4).take 4) (fun z hz => hh.byte z (List.mem_of_mem_drop (List.mem_of_mem_take hz)))
  have HC2 := hide HC
  clear hr hh hlen hm HC
  go_enter Tryz.func95, Tryz.ntmps95
  go_wp2_with fail
  refine HC2.out.mono ?_
  clear HC2
  rintro e w' ⟨rfl, rfl⟩
  rw [show M.rb ((l.drop 4).take 4) = told l from rfl]
  by_cases h3 : n < told l + 12
  · have H := hide (coErr_short h3)
    go_wp2
    go_ret
    exact ⟨ret_int H.out.symm, rfl⟩
  · by_cases h4 : told l + 12 < n
    · have H := hide (coErr_tail h4)
      go_wp2
      go_ret
      exact ⟨ret_int H.out.symm, rfl⟩
    · have H := hide (coErr_ok h3 h4)
      go_wp2
      go_ret
      exact ⟨ret_int H.out.symm, rfl⟩
def outErr (f : List Int) : Int := if 32768 < f.length then 11 else if f.length < 12 then 10 else if f.take 4 = M.magic then coErr f.length (told f) else 13
theorem outErr_range {f : List Int} (h : outErr f = 0) : 12 ≤ f.length ∧ f.length ≤ 32768 ∧ f.take 4 = M.magic ∧ f.length = told f + 12 := by
  unfold outErr at h
  split at h
  · cases h
  · split at h
    · cases h
    · split at h
      · unfold coErr at h
        split at h
        · cases h
        · split at h
          · cases h
          · rename_i h1 h2 h3 h4 h5
            exact ⟨by omega, by omega, h3, by omega⟩
      · cases h
theorem co_any (a : Option Addr) (n c : Nat) (f : List Int) (w : World) (hh : Hs w a n c f) :
    Calls Tryz.prog 95 #[.slice a n c] w fun e w' => e = .returned (.int .i64 (outErr f)) ∧ w' = w := by
  unfold outErr
  rw [hh.len]
  by_cases h1 : 32768 < n
  · rw [if_pos h1]; exact co_long a n c w h1
  · rw [if_neg h1]
    by_cases h2 : n < 12
    · rw [if_pos h2]; exact co_short a n c w h2
    · rw [if_neg h2]
      cases a with
      | none =>
        have := (hh.nil rfl).1
        have h3 := hh.len
        rw [this] at h3
        simp at h3
        omega
      | some x =>
        obtain ⟨b, o, rfl⟩ := hh.flat (by omega)
        by_cases h3 : f.take 4 = M.magic
        · rw [if_pos h3]; exact co_rest b o n c f w hh (by omega) (by omega) h3
        · rw [if_neg h3]; exact co_magic b o n c f w hh (by omega) (by omega) h3
def opErr (f : List Int) : Int := if outErr f = 0 then if M.sum (f.take (f.length - 4)) = M.rl (f.drop (f.length - 4)) then 0 else 14 else outErr f
def opBody (f : List Int) : List Int := if opErr f = 0 then (f.drop 8).take (f.length - 12) else []
theorem opErr_out {f : List Int} (h : outErr f ≠ 0) : opErr f = outErr f := by unfold opErr; rw [if_neg h]
theorem opErr_sum {f : List Int} (h : outErr f = 0) (h2 : M.sum (f.take (f.length - 4)) ≠ M.rl (f.drop (f.length - 4))) : opErr f = 14 := by unfold opErr; rw [if_pos h, if_neg h2]
theorem opErr_ok {f : List Int} (h : outErr f = 0) (h2 : M.sum (f.take (f.length - 4)) = M.rl (f.drop (f.length - 4))) : opErr f = 0 := by unfold opErr; rw [if_pos h, if_pos h2]
theorem opBody_bad {f : List Int} (h : opErr f ≠ 0) : opBody f = [] := by unfold opBody; rw [if_neg h]
theorem opBody_ok {f : List Int} (h : opErr f = 0) : opBody f = (f.drop 8).take (f.length - 12) := by unfold opBody; rw [if_pos h]
theorem ret_tup {k : IntKind} {v : Value} {a b : Int} (h : a = b) : Ending.returned (.tuple #[v, .int k a]) = .returned (.tuple #[v, .int k b]) := by rw [h]
set_option maxHeartbeats 400000 in
theorem open_out (a : Option Addr) (n c : Nat) (f : List Int) (w : World) (hh : Hs w a n c f) (h : outErr f ≠ 0) :
    Calls Tryz.prog 51 #[.slice a n c] w fun e w' => ∃ v', e = .returned (.tuple #[v', .int .i64 (opErr f)]) ∧ Own w.heap.size w' v' (opBody f) ∧ Below w.heap.size w w' := by
  have h2 : (outErr f != 0) = true := by simp [h]
  have he := opErr_out h
  rw [he, opBody_bad (by rw [he]; exact h)]
  clear he
  have HC := hide (co_any a n c f w hh)
  clear hh h
  generalize outErr f = E at *
  go_enter Tryz.func51, Tryz.ntmps51
  go_wp2_with fail
  refine HC.out.mono ?_
  rintro e w' ⟨rfl, rfl⟩
  go_wp2
  go_ret2
  exact ⟨_, rfl, Own.nil _ _, Below.refl _ _⟩
set_option maxRecDepth 100000 in
set_option maxHeartbeats 400000 in
theorem open_in (b o n c : Nat) (f : List Int) (w : World) (hh : Hs w (some ⟨b, o, none⟩) n c f) (h : outErr f = 0) :
    Calls Tryz.prog 51 #[.slice (some ⟨b, o, none⟩) n c] w fun e w' => ∃ v', e = .returned (.tuple #[v', .int .i64 (opErr f)]) ∧ Own w.heap.size w' v' (opBody f) ∧ Below w.heap.size w w' := by
  have hlen := hh.len
  have hcap := hh.cap
  have hr := hh.row _ rfl
  obtain ⟨r1, r2, _, _⟩ := outErr_range h
  rw [hlen] at r1 r2
  have HC := hide (co_any _ n c f w hh)
  rw [h] at HC
  have H1 := fun k => hide (sum_any ⟨b, o, none⟩ (n - 4) c f (w.drewN k) (by omega) (by unfold maxLen; omega) hr hh.byte)
  have H2 : ∀ k, Hid (Calls Tryz.prog 96 #[.slice (some ⟨b, o + (n - 4), none⟩) (n - (n - 4)) (c - (n - 4))] (w.drewN k) fun e w' => e = .returned (.int .u32 (M.rl (f.drop (n - 4)))) ∧ w' = w.drewN k) := by
    intro k
    have := toldSum_any ⟨b, o + (n - 4), none⟩ (c - (n - 4)) (f.drop (n - 4)) (w.drewN k) (by simp; omega) (hr.drop (n - 4)) (fun z hz => hh.byte z (List.mem_of_mem_drop hz))
    have e4 : n - (n - 4) = 4 := by omega
    generalize n - (n - 4) = m at e4
    subst e4
    exact this
  go_enter Tryz.func51, Tryz.ntmps51
  go_wp2_with fail
  refine HC.out.mono ?_
  rintro e w' ⟨rfl, rfl⟩
  go_wp2_with fail
  go_quiet ((first | (go_at_call 93; exact Calls.quiet_of_same (H1 _).out) | (go_at_call 96; exact Calls.quiet_of_same (H2 _).out)))
  by_cases hs : M.sum (f.take (n - 4)) = M.rl (f.drop (n - 4))
  · have HE := hide (opErr_ok h (by rw [hlen]; exact hs))
    have HB := hide (opBody_ok HE.out)
    have ht : ((M.sum (f.take (n - 4)) : Int) != (M.rl (f.drop (n - 4)) : Int)) = false := by rw [hs]; simp
    have HCl := hide (clone_any ⟨b, o + 8, none⟩ (n - 4 - 8) (c - 8) (f.drop 8) (w'.drewN nq) (by simp; omega) (by omega) (hr.drop 8))
    rw [hlen] at HB
    clear hs H1 H2 HC hh hr h hlen
    generalize M.sum (f.take (n - 4)) = A at *
    generalize M.rl (f.drop (n - 4)) = D at *
    go_wp2_with fail
    refine HCl.out.mono ?_
    rintro e w2 ⟨v, rfl, k1, k2, k3⟩
    go_wp2
    go_ret2
    refine ⟨v, ret_tup HE.out.symm, ?_, (below_drewN (Below.refl _ _) nq).trans k3⟩
    rw [HB.out]
    exact k1
  · have HE := hide (opErr_sum h (by rw [hlen]; exact hs))
    have HB := hide (opBody_bad (f := f) (by rw [HE.out]; decide))
    have ht : ((M.sum (f.take (n - 4)) : Int) != (M.rl (f.drop (n - 4)) : Int)) = true := by
      rw [bne_iff_ne]
      omega
    clear hs H1 H2 HC hh hr h hlen
    generalize M.sum (f.take (n - 4)) = A at *
    generalize M.rl (f.drop (n - 4)) = D at *
    go_wp2
    go_ret2
    refine ⟨_, ret_tup HE.out.symm, ?_, below_drewN (Below.refl _ _) nq⟩
    rw [HB.out]
    exact Own.nil _ _
theorem open_any (a : Option Addr) (n c : Nat) (f : List Int) (w : World) (hh : Hs w a n c f) :
    Calls Tryz.prog 51 #[.slice a n c] w fun e w' => ∃ v', e = .returned (.tuple #[v', .int .i64 (opErr f)]) ∧ Own w.heap.size w' v' (opBody f) ∧ Below w.heap.size w w' := by
  by_cases h : outErr f = 0
  · obtain ⟨r1, _, _, _⟩ := outErr_range h
    cases a with
    | none => rw [(hh.nil rfl).1] at r1; simp at r1
    | some x =>
      obtain ⟨b, o, rfl⟩ := hh.flat (by rw [← hh.len]; omega)
      exact open_in b o n c f w hh h
  · exact open_out a n c f w hh h
theorem be4 (n : Nat) : M.be n 4 = [M.beAt n 0, M.beAt n 1, M.beAt n 2, M.beAt n 3] := rfl
theorem le4 (n : Nat) : M.le n 4 = [M.leAt n 0, M.leAt n 1, M.leAt n 2, M.leAt n 3] := rfl
theorem rb_be (n : Nat) (h : n < 4294967296) : M.rb (M.be n 4) = n := by
  rw [be4]
  simp only [M.rb, List.foldl_cons, List.foldl_nil, M.beAt, Int.toNat_natCast, Nat.shiftRight_eq_div_pow]
  simp
  omega
theorem rl_le (n : Nat) (h : n < 4294967296) : M.rl (M.le n 4) = n := by
  rw [le4]
  simp only [M.rl, M.leAt, Int.toNat_natCast, Nat.shiftRight_eq_div_pow]
  simp
  omega
theorem frame_take4 (l : List Int) : (M.frame l).take 4 = M.magic := by
  unfold M.frame M.bare
  rw [List.append_assoc, List.append_assoc]
  exact List.take_left' rfl
theorem frame_told (l : List Int) (h : l.length < 4294967296) : told (M.frame l) = l.length := by
  unfold told M.frame M.bare
  rw [List.append_assoc, List.append_assoc, List.drop_left' (show M.magic.length = 4 from rfl), List.take_left' (M.be_length _ _), rb_be _ h]
theorem frame_out (l : List Int) (h : l.length ≤ 32756) : outErr (M.frame l) = 0 := by
  unfold outErr
  rw [M.frame_length, if_neg (by omega), if_neg (by omega), if_pos (frame_take4 l), frame_told l (by omega)]
  exact coErr_ok (by omega) (by omega)
theorem frame_head (l : List Int) : (M.frame l).take (l.length + 8) = M.bare l := List.take_left' (M.bare_length l)
theorem frame_tail (l : List Int) : (M.frame l).drop (l.length + 8) = M.le (M.sum (M.bare l)) 4 := List.drop_left' (M.bare_length l)
theorem frame_err (l : List Int) (h : l.length ≤ 32756) (hb : ∀ z ∈ l, 0 ≤ z ∧ z < 256) : opErr (M.frame l) = 0 := by
  refine opErr_ok (frame_out l h) ?_
  rw [M.frame_length, show l.length + 12 - 4 = l.length + 8 from by omega, frame_head, frame_tail, rl_le _ (M.sum_lt _ (fun z hz => (M.bare_byte l hb z hz).2))]
theorem frame_body (l : List Int) (h : l.length ≤ 32756) (hb : ∀ z ∈ l, 0 ≤ z ∧ z < 256) : opBody (M.frame l) = l := by
  rw [opBody_ok (frame_err l h hb), M.frame_length, show l.length + 12 - 12 = l.length from by omega]
  unfold M.frame M.bare
  rw [List.append_assoc, List.drop_left' (by simp [M.magic, M.be_length]), List.take_left' rfl]
theorem be_eq (n j : Nat) : ((n : Int) / 2 ^ (24 - 8 * j) % 256) = M.beAt n j := by
  unfold M.beAt
  rw [Nat.shiftRight_eq_div_pow]
  simp
theorem le_eq (n j : Nat) : ((n : Int) / 2 ^ (8 * j) % 256) = M.leAt n j := by
  unfold M.leAt
  rw [Nat.shiftRight_eq_div_pow]
  simp
theorem sb_magic : sb { data := #[97, 109, 110, 49] } = M.magic := rfl
theorem mk_own (w : World) {ops : Array Oper} {rest : List Oper} {o : Oper} {a : Act} {Q : Exit → Act → World → Prop} (hgd : o.guard = none) (c : Operand)
    (hop : o.op = Op.makeSlice 55 (.const (.int .i64 0)) c) (C : Int) (n : Nat) (hc : a.eval c = .int .i64 C) (hC : C = (n : Int)) (hm : n ≤ 281474976710656)
    (hK : ∀ w', Own w.heap.size w' (.slice (some ⟨w.heap.size, 0, none⟩) 0 n) [] → Below w.heap.size w w' → wpList Tryz.prog ops Q rest (a.put o.dst (.slice (some ⟨w.heap.size, 0, none⟩) 0 n)) w') : wpList Tryz.prog ops Q (o :: rest) a w := by
  obtain ⟨i0, hi, hz0, hz1, hz2⟩ := info_parts Tryz.info5
  refine wpList_make_own w hgd (.const (.int .i64 0)) c 55 hop w.heap.size 5 i0 (.int .u8 0) 1 Tryz.underlying55 hi hz0 hz1 .i64 .i64 C n rfl hc hC (by rw [hz2]; omega) (by unfold maxLen; omega) (Nat.le_refl _) ?_
  intro w' h1 h2
  exact hK w' h1 ((Below.refl _ _).grown h2 (Nat.le_refl _) (fun k hk => by cases hk))
set_option maxHeartbeats 400000 in
theorem seal_ok (a : Option Addr) (n c : Nat) (l : List Int) (w : World) (hh : Hs w a n c l) (h : n ≤ 32756) :
    Calls Tryz.prog 46 #[.slice a n c] w fun e w' => ∃ v', e = .returned (.tuple #[v', .int .i64 0]) ∧ Own w.heap.size w' v' (M.frame l) ∧ v' ≠ .slice none 0 0 ∧ Below w.heap.size w w' := by
  have hH := hide hh.len
  go_enter Tryz.func46, Tryz.ntmps46
  go_wp2_with (at_make; go_must (refine mk_own _ rfl (.tmp 13) rfl ((n : Int) + 12) (n + 12) rfl ?zc ?zm ?zk))
  case zc => omega
  case zm => omega
  case zk =>
    intro w1 ho1 hb1
    have hs1 := hb1.size
    go_wp2_with (at_builtin; go_must (refine app_str _ rfl (.tmp 15) (.const (.string { data := #[97, 109, 110, 49] })) rfl w.heap.size [] _ rfl { data := #[97, 109, 110, 49] } rfl ?yo ?yB ?yb ?yk))
    case yo => exact ho1
    case yB => exact hs1
    case yb => decide
    case yk =>
      intro v2 w2 ho2 hk2 hg2
      rw [sb_magic] at ho2
      have hb2 : Below w.heap.size w w2 := ho1.grown hb1 hg2 hs1
      have hn2 := hk2 (.inr (by decide))
      clear hk2 hg2 ho1 hb1 hs1
      have ho2' : Own w.heap.size w2 v2 (M.magic ++ M.be n 0) := by rw [show M.be n 0 = [] from rfl, List.append_nil]; exact ho2
      clear ho2
      go_wp2_with fail
      go_loopw [4, 5, 17] (fun b _ i wr => ∃ j : Nat, j ≤ 4 ∧ i = .int .i64 j ∧ Own w.heap.size wr b (M.magic ++ M.be n j) ∧ Below w.heap.size w wr ∧ b ≠ .slice none 0 0) (fun _ _ i _ => 4 - (intOf i).toNat)
      case atStart => exact ⟨0, by omega, rfl, ho2', hb2, hn2⟩
      case round =>
        obtain ⟨j, hj, rfl, hr, hbr, hnr⟩ := hrel
        have hsr := hbr.size
        by_cases hlt : j < 4
        · go_wp2_with (at_builtin; go_must (refine app_one _ rfl (.tmp 20) (.tmp 28) rfl w.heap.size (M.magic ++ M.be n j) u4 rfl _ rfl ((n : Int) / 2 ^ (24 - 8 * j) % 256) ?xc ?xo ?xB ?xb ?xk))
          case xc => simp
          case xo => exact hr.alloc _
          case xB => simp; omega
          case xb => simp [M.be_length, M.magic]; omega
          case xk =>
            intro v3 w3 k1 k2 k3
            have hb3 : Below w.heap.size w w3 := (hr.alloc _).grown (hbr.alloc hsr (.cells #[.int .u8 ((n : Int) / 2 ^ (24 - 8 * j) % 256)] 5)) k3 (by simp; omega)
            have k4 : Own w.heap.size w3 v3 (M.magic ++ M.be n (j + 1)) := by rw [M.be_succ, ← be_eq]; exact k1
            clear k1 k3 hr hbr
            go_wp2
            go_roundw
            case rel => exact ⟨j + 1, by omega, by go_num, k4, hb3, k2⟩
            case measure => simp [intOf]; omega
        · obtain rfl : j = 4 := by omega
          clear ho2' hb2 hn2
          go_wp2_with (at_builtin; go_must (refine app_hs _ rfl (.tmp 31) (.tmp 32) rfl w.heap.size (M.magic ++ M.be n 4) u4 rfl a n c rfl l ?xh ?xo ?xB ?xb ?xk))
          case xh => exact hh.later hbr
          case xo => exact hr
          case xB => exact hsr
          case xb => simp [M.be_length, M.magic]; omega
          case xk =>
            intro v3 w3 k1 k2 k3
            have hb3 : Below w.heap.size w w3 := hr.grown hbr k3 hsr
            have k4 := k2 (.inl hnr)
            have k5 : Own w.heap.size w3 v3 (M.bare l) := by unfold M.bare; rw [hH.out]; simpa using k1
            have hbb := M.bare_byte l hh.byte
            obtain ⟨g3, c3, hv3, hg3, hg4⟩ := k5.shape k4
            have hbl := M.bare_length l
            rw [hH.out] at hbl
            rw [hbl] at hv3
            subst hv3
            clear k1 k2 k3 hr hbr hnr k4
            have hr3 := k5.row
            go_wp2_with fail
            refine (sum_any ⟨g3, 0, none⟩ (n + 8) c3 (M.bare l) w3 (by omega) (by unfold maxLen; omega) hr3 hbb).mono ?_
            rintro e w4 ⟨rfl, rfl⟩
            rw [List.take_of_length_le (by omega)]
            have hS := M.sum_lt (M.bare l) (fun z hz => (hbb z hz).2)
            have hfr : M.frame l = M.bare l ++ M.le (M.sum (M.bare l)) 4 := rfl
            have HF := hide hfr
            clear hfr hr3 hbb
            generalize hSS : M.sum (M.bare l) = S at *
            generalize hBB : M.bare l = L at *
            have HBL := hide hbl
            clear hSS hBB hbl
            have k6 : Own w.heap.size w4 (.slice (some ⟨g3, 0, none⟩) (n + 8) c3) (L ++ M.le S 0) := by rw [show M.le S 0 = [] from rfl, List.append_nil]; exact k5
            have kn : (Value.slice (some ⟨g3, 0, none⟩) (n + 8) c3) ≠ .slice none 0 0 := by intro hh; cases hh
            clear k5
            go_wp2_with fail
            go_loopw [4, 7, 36] (fun b _ i wr => ∃ j : Nat, j ≤ 4 ∧ i = .int .i64 j ∧ Own w.heap.size wr b (L ++ M.le S j) ∧ Below w.heap.size w wr ∧ b ≠ .slice none 0 0) (fun _ _ i _ => 4 - (intOf i).toNat)
            case atStart => exact ⟨0, by omega, rfl, k6, hb3, kn⟩
            case round =>
              obtain ⟨j, hj, rfl, hr, hbr, hnr⟩ := hrel
              have hsr := hbr.size
              clear k6 hb3 kn
              by_cases hlt : j < 4
              · go_wp2_with (at_builtin; go_must (refine app_one _ rfl (.tmp 39) (.tmp 45) rfl w.heap.size (L ++ M.le S j) u4 rfl _ rfl ((S : Int) / 2 ^ (8 * j) % 256) ?xc ?xo ?xB ?xb ?xk))
                case xc => simp
                case xo => exact hr.alloc _
                case xB => simp; omega
                case xb => simp [M.le_length, HBL.out]; omega
                case xk =>
                  intro v3 w3 k1 k2 k3
                  have hb3 : Below w.heap.size w w3 := (hr.alloc _).grown (hbr.alloc hsr (.cells #[.int .u8 ((S : Int) / 2 ^ (8 * j) % 256)] 5)) k3 (by simp; omega)
                  have k4 : Own w.heap.size w3 v3 (L ++ M.le S (j + 1)) := by rw [M.le_succ, ← le_eq]; exact k1
                  clear k1 k3 hr hbr
                  go_wp2
                  go_roundw
                  case rel => exact ⟨j + 1, by omega, by go_num, k4, hb3, k2⟩
                  case measure => simp [intOf]; omega
              · obtain rfl : j = 4 := by omega
                go_wp2
                go_ret2
                exact ⟨_, rfl, by rw [HF.out]; exact hr, hnr, hbr⟩
theorem st_odd (s : Nat) (h : s < 4294967296) (ho : s % 2 = 1) : bits .xor .u32 ((s : Int) / 2) 3988292384 = ((M.st s : Nat) : Int) := by
  have e3 : ((s : Int) / (2 : Int)) = ((s >>> 1 : Nat) : Int) := by rw [Nat.shiftRight_eq_div_pow]; omega
  have h2 : s >>> 1 < 4294967296 := by rw [Nat.shiftRight_eq_div_pow]; omega
  rw [e3]
  refine (u32_xor_nat (s >>> 1) 3988292384 h2 (by omega)).trans ?_
  unfold M.st
  rw [Nat.and_one_is_mod, ho]
theorem st_even (s : Nat) (ho : s % 2 = 0) : ((s : Int) / 2) = ((M.st s : Nat) : Int) := by
  have e3 : ((s : Int) / (2 : Int)) = ((s >>> 1 : Nat) : Int) := by rw [Nat.shiftRight_eq_div_pow]; omega
  rw [e3]
  unfold M.st
  rw [Nat.and_one_is_mod, ho]
  simp
theorem odd_test (s : Nat) (h : s < 4294967296) : (bits .and .u32 (s : Int) 1 == 1) = decide (s % 2 = 1) := by
  have e1 : bits .and .u32 (s : Int) 1 = ((s &&& 1 : Nat) : Int) := u32_and_nat s 1 h (by omega)
  rw [e1, Nat.and_one_is_mod]
  have h2 : s % 2 < 2 := Nat.mod_lt _ (by omega)
  generalize s % 2 = b at *
  match b, h2 with
  | 0, _ | 1, _ => rfl
theorem not_bits' (a : Nat) (ha : a < 4294967296) : bits .xor .u32 (a : Int) 4294967295 = ((4294967295 ^^^ a : Nat) : Int) := by
  have := u32_xor_nat a 4294967295 ha (by omega)
  rw [Nat.xor_comm]
  exact this
set_option maxRecDepth 100000 in
set_option maxHeartbeats 1000000 in
theorem refsum_any (x : Addr) (len cap : Nat) (zs : List Int) (w : World) (hlen : zs.length = len) (hmax : len ≤ maxLen) (hc : Row w x zs) (hb : ∀ z ∈ zs, 0 ≤ z ∧ z < 256) :
    Calls Tryz.prog 60 #[.slice (some x) len cap] w fun e w' => e = .returned (.int .u32 (M.sum zs)) ∧ w' = w := by
  unfold maxLen at hmax
  have HLN := hide hlen
  clear hlen
  obtain ⟨xb, xo, xs⟩ := x
  go_enter Tryz.func60, Tryz.ntmps60
  go_wp2
  go_loop [3, 4, 5, 6] (fun t i _ _ => ∃ k : Nat, k ≤ len ∧ i = .int .i64 k ∧ t = .int .u32 (M.fold 4294967295 (zs.take k) : Nat)) (fun _ i _ _ => len - (intOf i).toNat)
  case atStart => exact ⟨0, Nat.zero_le _, rfl, rfl⟩
  case round =>
    obtain ⟨k, hk, rfl, rfl⟩ := hrel
    by_cases hlt : k < len
    · have hkl : k < zs.length := by rw [HLN.out]; exact hlt
      have hcell := hc k hkl
      have hz : 0 ≤ zs.getD k 0 ∧ zs.getD k 0 < 256 := hb _ (by simp [List.getD, hkl])
      have hfl : M.fold 4294967295 (zs.take k) < 4294967296 := M.fold_lt _ _ (by omega) (fun z hz => (hb z (List.mem_of_mem_take hz)).2)
      have HS := hide (M.fold_take 4294967295 zs k hkl)
      have HX := hide (u32_xor_cast _ _ hfl hz.1 hz.2)
      have hq : M.fold 4294967295 (zs.take k) ^^^ (zs.getD k 0).toNat < 4294967296 := M.xor_lt hfl (by omega)
      clear hkl
      go_wp2
      rw [show zs[k]?.getD 0 = zs.getD k 0 from rfl, HX.out]
      have HU : Hid (M.upd (M.fold 4294967295 (zs.take k)) (zs.getD k 0) = M.stN 8 (M.fold 4294967295 (zs.take k) ^^^ (zs.getD k 0).toNat)) := rfl
      generalize M.fold 4294967295 (zs.take k) ^^^ (zs.getD k 0).toNat = s0 at *
      go_loop [3, 5, 6] (fun t i _ => ∃ j : Nat, j ≤ 8 ∧ i = .int .i64 j ∧ t = .int .u32 (M.stN j s0 : Nat)) (fun _ i _ => 8 - (intOf i).toNat)
      case atStart => exact ⟨0, by omega, rfl, rfl⟩
      case round =>
        obtain ⟨j, hj, rfl, rfl⟩ := hrel
        have hsl := M.stN_lt j s0 hq
        have HT : Hid (M.st (M.stN j s0) = M.stN (j + 1) s0) := rfl
        have HR := hide (st_odd (M.stN j s0) hsl)
        have HE := hide (st_even (M.stN j s0))
        have hot := odd_test (M.stN j s0) hsl
        by_cases hj8 : j < 8
        · by_cases hodd : M.stN j s0 % 2 = 1
          · rw [decide_eq_true hodd] at hot
            have HO := hide (HR.out hodd)
            clear hodd HE HR
            go_wp2
            go_round
            case rel => exact ⟨j + 1, by omega, by go_num, int_eq (by rw [← HT.out]; exact HO.out)⟩
            case measure => simp [intOf]; omega
          · rw [decide_eq_false hodd] at hot
            have HO := hide (HE.out (by omega))
            clear hodd HE HR
            go_wp2
            go_round
            case rel => exact ⟨j + 1, by omega, by go_num, int_eq (by rw [← HT.out]; exact HO.out)⟩
            case measure => simp [intOf]; omega
        · clear hot HE HR
          go_wp2
          go_round
          case rel =>
            refine ⟨k + 1, by omega, by go_num, ?_⟩
            obtain rfl : j = 8 := by omega
            exact int_eq (by rw [HS.out, HU.out])
          case measure => simp [intOf]; omega
    · obtain rfl : k = len := by omega
      have hfl : M.fold 4294967295 (zs.take k) < 4294967296 := M.fold_lt _ _ (by omega) (fun z hz => (hb z (List.mem_of_mem_take hz)).2)
      have HX := hide (not_bits' _ hfl)
      go_wp2
      go_ret
      refine ⟨ret_int ?_, rfl⟩
      rw [show M.sum zs = 4294967295 ^^^ M.fold 4294967295 (zs.take k) from by rw [List.take_of_length_le (Nat.le_of_eq HLN.out)]; rfl]
      exact HX.out
theorem Own.kept {B : Nat} {w w' : World} {v : Value} {l : List Int} (h : Own B w v l) (hb : Below w.heap.size w w') : Own B w' v l := by
  refine ⟨h.1, ?_⟩
  rcases h.2 with h2 | ⟨g, c, cur, h1, h2, h3, r⟩
  · exact Or.inl h2
  · exact Or.inr ⟨g, c, cur, h1, h2, by rw [hb.block g ((World.ownsRow.lt h g (by rw [h1]; rfl)).2)]; exact h3, r⟩
theorem own_built (w : World) (C : Array Value) (n : Nat) (l : List Int) (hn : l.length = n) (hC : C.toList = bs l) (hm : n ≤ maxLen) : Own w.heap.size (w.alloc (.cells C 5)) (.slice (some ⟨w.heap.size, 0, none⟩) n n) l := by
  subst hn
  have hsz : C.size = l.length := by rw [← Array.length_toList, hC]; simp [bs]
  refine ⟨by simp [bs], .inr ⟨w.heap.size, l.length, C, rfl, Nat.le_refl _, heap_alloc_new w _, Nat.le_refl _, hm, by rw [hsz, Nat.mul_one], ?_⟩⟩
  rw [hC]
  exact List.take_of_length_le (by simp [bs])
theorem be4_vals (n : Nat) (h : n < 4294967296) : bs (M.be n 4) = [.int .u8 ((n : Int) / 16777216), .int .u8 ((n : Int) / 65536 % 256), .int .u8 ((n : Int) / 256 % 256), .int .u8 ((n : Int) % 256)] := by
  rw [be4]
  simp only [bs, List.map_cons, List.map_nil, M.beAt, Nat.shiftRight_eq_div_pow, List.cons.injEq, Value.int.injEq, true_and, and_true]
  simp
  omega
set_option maxRecDepth 100000 in
theorem four_any (n : Nat) (w : World) (h : n < 4294967296) :
    Calls Tryz.prog 59 #[.int .u32 n] w fun e w' => e = .returned (.slice (some ⟨w.heap.size, 0, none⟩) 4 4) ∧ Own w.heap.size w' (.slice (some ⟨w.heap.size, 0, none⟩) 4 4) (M.be n 4) ∧ Below w.heap.size w w' := by
  go_enter Tryz.func59, Tryz.ntmps59
  go_wp2
  go_ret
  exact ⟨rfl, own_built w _ 4 (M.be n 4) rfl (by rw [be4_vals n h]) (by unfold maxLen; omega), (Below.refl _ _).alloc (Nat.le_refl _) _⟩
theorem le_be (S : Nat) : M.le S 4 = [M.beAt S 3, M.beAt S 2, M.beAt S 1, M.beAt S 0] := by
  rw [le4]
  rfl
theorem step_bytes {ops : Array Oper} {o : Oper} {a : Act} {w : World} {K : Act → World → Prop} {Q : Exit → Act → World → Prop} {E : Prop} (hg : o.guard = none) (s x : Operand)
    (ho : o.op = .call { callee := .builtin .append, args := #[s, x], argTypes := #[55, 55] }) (B : Nat) (l : List Int) (v : Value) (hs : a.eval s = v)
    (ad : Addr) (m c : Nat) (hx : a.eval x = .slice (some ad) m c) (news : List Int) (hm : news.length = m) (hc : Row w ad news) (hown : Own B w v l) (hB : B ≤ w.heap.size) (hb : l.length + m ≤ 140737488355328)
    (hK : ∀ v' w', Own B w' v' (l ++ news) → Keeps v v' m → w.grownBy w' v.ownBlock → K (a.put o.dst v') w') :
    if Region.wanted o (yielded ops a.tmps) = true then Oper.wp Tryz.prog o a w K Q else E := by
  have hw : Region.wanted o (yielded ops a.tmps) = true := by simp [Region.wanted, hg]
  rw [if_pos hw]
  obtain ⟨i0, hi, hz0, hz1, hz2⟩ := info_parts Tryz.info5
  refine wp_append_own w s x 55 ho B 5 i0 (.int .u8 0) 1 1 Tryz.underlying55 hi hz0 hz1 hz2 rfl (by decide) v l.length (bs l) hs hown ad m c (bs news) hx (by simp [bs, hm]) ?_ (bs_oneCell _) (by unfold maxLen; omega) (by omega) hB ?_
  · intro j u hu
    have hj : j < news.length := by simpa [bs] using (List.getElem?_eq_some_iff.1 hu).1
    rw [hc j hj, ← hu]
    simp [bs, hj, List.getD]
  · intro v' w' h2 h3 h4
    refine hK v' w' ?_ ?_ h3
    · unfold Own; rw [bs_append, List.length_append, hm]; exact h2
    · intro hp he
      obtain ⟨k1, k2⟩ := h4.1 he
      rcases hp with hp | hp
      · exact hp k1
      · omega
set_option maxRecDepth 100000 in
set_option maxHeartbeats 1000000 in
theorem refseal_ok (a : Option Addr) (n c : Nat) (l : List Int) (w : World) (hh : Hs w a n c l) (h : n ≤ 32756) :
    Calls Tryz.prog 23 #[.slice a n c] w fun e w' => ∃ v', e = .returned (.tuple #[v', .int .i64 0]) ∧ Own w.heap.size w' v' (M.frame l) ∧ v' ≠ .slice none 0 0 ∧ Below w.heap.size w w' := by
  have hH := hide hh.len
  have hby := hh.byte
  go_enter Tryz.func23, Tryz.ntmps23
  go_wp2_with (at_builtin; go_must (refine app_any _ rfl (.tmp 9) (.tmp 10) rfl w.heap.size [] _ rfl ⟨w.heap.size, 0, none⟩ 4 4 rfl M.magic rfl (Own.nil _ _) (by intro j hj; match j, hj with | 0, _ | 1, _ | 2, _ | 3, _ => simp [Addr.add_lit]; rfl) (by simp) (by decide) ?_))
  intro v1 w1 o1 k1 g1
  have hn1 := k1 (.inr (by omega))
  have b1 : Below w.heap.size w w1 := ((Below.refl _ _).alloc (Nat.le_refl _) _).grown g1 (by simp) (fun k hk => by cases hk)
  have z1 := b1.size
  clear k1 g1
  go_wp2_with fail
  refine (four_any n w1 (by omega)).mono ?_
  rintro e w2 ⟨rfl, o2, b2⟩
  have o1' : Own w.heap.size w2 v1 M.magic := o1.kept b2
  have b2' : Below w.heap.size w w2 := b1.trans (b2.mono z1)
  have z2 := b2'.size
  have r2 := o2.row
  clear o1 o2 b2 b1
  go_wp2_with (at_builtin; go_must (refine app_any _ rfl (.tmp 12) (.tmp 16) rfl w.heap.size M.magic v1 rfl ⟨w1.heap.size, 0, none⟩ 4 4 rfl (M.be n 4) rfl o1' (fun j hj => r2 j hj) z2 (by decide) ?_))
  intro v3 w3 o3 k3 g3
  have hn3 := k3 (.inl hn1)
  have b3 : Below w.heap.size w w3 := o1'.grown b2' g3 z2
  have z3 := b3.size
  clear k3 g3 o1' b2' hn1 r2
  go_wp2_with (at_builtin; go_must (refine app_hs _ rfl (.tmp 18) (.tmp 19) rfl w.heap.size (M.magic ++ M.be n 4) v3 rfl a n c rfl l (hh.later b3) o3 z3 (by simp [M.be_length, M.magic]; omega) ?_))
  intro v4 w4 o4 k4 g4
  have hn4 := k4 (.inl hn3)
  have b4 : Below w.heap.size w w4 := o3.grown b3 g4 z3
  have z4 := b4.size
  have o5 : Own w.heap.size w4 v4 (M.bare l) := by unfold M.bare; rw [hH.out]; simpa using o4
  have hbb := M.bare_byte l hby
  have hbl := M.bare_length l
  rw [hH.out] at hbl
  obtain ⟨g, cc, hv, hg1, hg2⟩ := o5.shape hn4
  rw [hbl] at hv
  subst hv
  clear k4 g4 o3 b3 hn3 hn4 o4
  have r5 := o5.row
  go_wp2_with fail
  refine (refsum_any ⟨g, 0, none⟩ (n + 8) cc (M.bare l) w4 hbl (by unfold maxLen; omega) r5 hbb).mono ?_
  rintro e w5 ⟨rfl, hx⟩
  rw [hx]
  clear hx
  have hS := M.sum_lt (M.bare l) (fun z hz => (hbb z hz).2)
  have HF : Hid (M.frame l = M.bare l ++ M.le (M.sum (M.bare l)) 4) := rfl
  have HBL := hide hbl
  clear hbb hbl r5 w5
  generalize M.sum (M.bare l) = S at *
  generalize M.bare l = L at *
  go_wp2_with fail
  refine (four_any S w4 hS).mono ?_
  rintro e w6 ⟨rfl, o6, b6⟩
  have o7 : Own w.heap.size w6 (.slice (some ⟨g, 0, none⟩) (n + 8) cc) L := o5.kept b6
  have b7 : Below w.heap.size w w6 := b4.trans (b6.mono z4)
  have z7 := b7.size
  have r6 := o6.row
  have q0 : w6.cell? ⟨w4.heap.size, 0, none⟩ = some (.int .u8 (M.beAt S 0)) := r6 0 (by simp [M.be_length])
  have q1 : w6.cell? ⟨w4.heap.size, 1, none⟩ = some (.int .u8 (M.beAt S 1)) := r6 1 (by simp [M.be_length])
  have q2 : w6.cell? ⟨w4.heap.size, 2, none⟩ = some (.int .u8 (M.beAt S 2)) := r6 2 (by simp [M.be_length])
  have q3 : w6.cell? ⟨w4.heap.size, 3, none⟩ = some (.int .u8 (M.beAt S 3)) := r6 3 (by simp [M.be_length])
  clear o6 b6 b4 r6 o5
  go_wp2_with fail
  go_region_law (refine step_bytes rfl (.tmp 24) (.tmp 37) rfl w.heap.size L _ rfl ⟨w6.heap.size, 0, none⟩ 4 4 rfl [M.beAt S 3, M.beAt S 2, M.beAt S 1, M.beAt S 0] rfl (by intro j hj; match j, hj with | 0, _ | 1, _ | 2, _ | 3, _ => simp [Addr.add_lit]) (by exact o7.alloc _) (by simp; omega) (by rw [HBL.out]; omega) ?_; intro v8 w8 o8 k8 g8)
  all_goals
    have hn8 := k8 (.inl (by intro hh; cases hh))
    have b8 : Below w.heap.size w w8 := Own.grown (by exact o7.alloc _) (by exact (b7.drew).alloc z7 _) g8 (by simp; omega)
    have o9 : Own w.heap.size w8 v8 (L ++ M.le S 4) := by rw [le_be]; exact o8
    clear o8 k8 g8 o7 b7 q0 q1 q2 q3
    go_wp2
    go_ret2
    exact ⟨_, rfl, by rw [HF.out]; exact o9, hn8, b8⟩
def ptErr (K N m : Int) (s : ByteArray) : Int := if K = 0 then 0 else if K = 1 then (if N < 0 then 3 else 0) else if K = 2 then (if N < 0 ∨ m < 0 then 3 else if m < N then 11 else 0) else if m < 0 then 3 else if m < (s.size : Int) then 11 else 0
def ptBytes (K V N : Int) (s : ByteArray) : List Int := if K = 0 then M.form V.toNat else if K = 1 ∨ K = 2 then M.form N.toNat else M.form s.size ++ sb s
def putV (K V N m : Int) (s : ByteArray) : Value := .agg #[.int .i64 K, .int .u64 V, .int .i64 N, .int .i64 m, .string s]
theorem WBad.later {w w' : World} {b : Nat} {E : Int} (h : WBad w b E) (hb : Below w.heap.size w w') : WBad w' b E :=
  ⟨Nat.lt_of_lt_of_le h.lt hb.size, h.ne, cell_later hb h.c0, cell_later hb h.c1, cell_later hb h.c2, (hb.frozen (p := ⟨b, 0, none⟩) h.lt).trans h.f0, (hb.frozen (p := ⟨b, 1, none⟩) h.lt).trans h.f1, (hb.frozen (p := ⟨b, 2, none⟩) h.lt).trans h.f2⟩
theorem WOk.later {w w' : World} {b : Nat} {l : List Int} (h : WOk w b l) (hb : Below w.heap.size w w') : WOk w' b l := by
  rcases h with ⟨e, h⟩ | ⟨q, g, n, c, h⟩
  · exact .inl ⟨e, Nat.lt_of_lt_of_le h.lt hb.size, cell_later hb h.c0, cell_later hb h.c1, cell_later hb h.c2, (hb.frozen (p := ⟨b, 0, none⟩) h.lt).trans h.f0, (hb.frozen (p := ⟨b, 1, none⟩) h.lt).trans h.f1, (hb.frozen (p := ⟨b, 2, none⟩) h.lt).trans h.f2⟩
  · have lt : b < w.heap.size := Nat.lt_trans h.lt h.ltq
    exact .inr ⟨q, g, n, c, h.lt, Nat.lt_of_lt_of_le h.ltq hb.size, h.len, cell_later hb h.c0, cell_later hb h.c1, cell_later hb h.c2, (hb.frozen (p := ⟨b, 0, none⟩) lt).trans h.f0, (hb.frozen (p := ⟨b, 1, none⟩) lt).trans h.f1, (hb.frozen (p := ⟨b, 2, none⟩) lt).trans h.f2, cell_later hb h.cq, (hb.frozen (p := ⟨q, 0, none⟩) h.ltq).trans h.fq, h.own.kept hb⟩
end Go.Proofs.YtjfbkeommlopmaaGreatDoor.Wi
namespace Go.Proofs.YtjfbkeommlopmaaGreatDoor
open Go.RowKit Go.Maps
set_option linter.unusedVariables false
theorem isslot_any (s : Int) (w : World) : Calls Tryz.prog 155 #[.int .i64 s] w fun e w' => e = .returned (.bool (decide (0 ≤ s ∧ s < 1024))) ∧ w' = w := by
  by_cases h1 : 0 ≤ s
  · by_cases h2 : s < 1024
    · go_enter Tryz.func155, Tryz.ntmps155
      go_wp2
      go_ret
      exact ⟨by simp [h1, h2], rfl⟩
    · go_enter Tryz.func155, Tryz.ntmps155
      go_wp2
      go_ret
      exact ⟨by simp [h2], rfl⟩
  · go_enter Tryz.func155, Tryz.ntmps155
    go_wp2
    go_ret
    exact ⟨by simp; omega, rfl⟩
theorem rest_any (k s : Int) (v : ByteArray) (n : Int) (w : World) (hv : v.size ≤ maxLen) : Calls Tryz.prog 156 #[.agg #[.int .i64 k, .int .i64 s, .string v], .int .i64 n] w fun e w' => e = .returned (.int .i64 (if s ≠ 0 then 41 else if n < v.size then 42 else 0)) ∧ Below w.heap.size w w' := by
  by_cases h1 : s = 0
  · subst h1
    by_cases h2 : n < v.size
    · go_enter Tryz.func156, Tryz.ntmps156
      go_wp2
      go_ret
      exact ⟨by simp, (Below.refl _ w).alloc (Nat.le_refl _) _⟩
    · go_enter Tryz.func156, Tryz.ntmps156
      go_wp2
      go_ret
      exact ⟨by simp, (Below.refl _ w).alloc (Nat.le_refl _) _⟩
  · go_enter Tryz.func156, Tryz.ntmps156
    go_wp2
    go_ret
    exact ⟨by simp, (Below.refl _ w).alloc (Nat.le_refl _) _⟩
set_option maxHeartbeats 1000000 in
theorem check_any (o : Opn) (ho : o.fits) (w : World) : Calls Tryz.prog 148 #[o.val] w fun e w' => e = .returned (.int .i64 (ck o.k o.s o.v)) ∧ Below w.heap.size w w' := by
  obtain ⟨k, s, v⟩ := o
  obtain ⟨hk, hs, hv⟩ := ho
  dsimp only at hk hs hv
  dsimp only [Opn.val]
  have c1 := fun W => isslot_any s W
  have c2 := fun k s n W => rest_any k s v n W hv
  by_cases k1 : k = 1
  · subst k1
    by_cases h1 : 0 ≤ s ∧ s < 1024
    · have e1 : ck 1 s v = if (0 : Int) ≠ 0 then 41 else if (64 : Int) < v.size then 42 else 0 := by
        unfold ck
        have : ¬ (s < 0 ∨ 1024 ≤ s) := by omega
        simp [this] <;> omega
      have c2 := c2 1 0 64
      rw [← e1] at c2
      clear e1
      generalize ck 1 s v = r at c2 ⊢
      have c1 : ∀ W, Calls Tryz.prog 155 #[.int .i64 s] W fun e w' => e = .returned (.bool true) ∧ w' = W := fun W => by simpa [h1] using c1 W
      go_enter Tryz.func148, Tryz.ntmps148
      go_wp2_with (first | (go_at_call 155; refine (c1 _).mono ?_; rintro e w' ⟨rfl, rfl⟩) | (go_at_call 156; refine (c2 _).mono ?_; rintro e w' ⟨rfl, hb⟩))
      go_ret
      exact ⟨rfl, ((Below.refl w.heap.size w).alloc (Nat.le_refl _) _).trans (hb.mono (by simp))⟩
    · have e1 : ck 1 s v = 41 := by
        unfold ck
        have : s < 0 ∨ 1024 ≤ s := by omega
        simp [this]
      rw [e1]
      clear e1 c2
      have c1 : ∀ W, Calls Tryz.prog 155 #[.int .i64 s] W fun e w' => e = .returned (.bool false) ∧ w' = W := fun W => by simpa [h1] using c1 W
      go_enter Tryz.func148, Tryz.ntmps148
      go_wp2_with (go_at_call 155; refine (c1 _).mono ?_; rintro e w' ⟨rfl, rfl⟩)
      go_ret
      exact ⟨rfl, (Below.refl w.heap.size w).alloc (Nat.le_refl _) _⟩
  by_cases k2 : k = 2
  · subst k2
    have e1 : ck 2 s v = if s ≠ 0 then 41 else if (64 : Int) < v.size then 42 else 0 := by
      unfold ck
      by_cases h : s = 0 <;> simp [h] <;> omega
    have c2 := c2 2 s 64
    rw [← e1] at c2
    clear e1
    generalize ck 2 s v = r at c2 ⊢
    clear c1
    go_enter Tryz.func148, Tryz.ntmps148
    go_wp2_with (go_at_call 156; refine (c2 _).mono ?_; rintro e w' ⟨rfl, hb⟩)
    go_ret
    exact ⟨rfl, ((Below.refl w.heap.size w).alloc (Nat.le_refl _) _).trans (hb.mono (by simp))⟩
  by_cases k3 : k = 3
  · subst k3
    by_cases h1 : 0 ≤ s ∧ s < 1024
    · have e1 : ck 3 s v = if (0 : Int) ≠ 0 then 41 else if (0 : Int) < v.size then 42 else 0 := by
        unfold ck
        have : ¬ (s < 0 ∨ 1024 ≤ s) := by omega
        simp [this]
      have c2 := c2 3 0 0
      rw [← e1] at c2
      clear e1
      generalize ck 3 s v = r at c2 ⊢
      have c1 : ∀ W, Calls Tryz.prog 155 #[.int .i64 s] W fun e w' => e = .returned (.bool true) ∧ w' = W := fun W => by simpa [h1] using c1 W
      go_enter Tryz.func148, Tryz.ntmps148
      go_wp2_with (first | (go_at_call 155; refine (c1 _).mono ?_; rintro e w' ⟨rfl, rfl⟩) | (go_at_call 156; refine (c2 _).mono ?_; rintro e w' ⟨rfl, hb⟩))
      go_ret
      exact ⟨rfl, ((Below.refl w.heap.size w).alloc (Nat.le_refl _) _).trans (hb.mono (by simp))⟩
    · have e1 : ck 3 s v = 41 := by
        unfold ck
        have : s < 0 ∨ 1024 ≤ s := by omega
        simp [this]
      rw [e1]
      clear e1 c2
      have c1 : ∀ W, Calls Tryz.prog 155 #[.int .i64 s] W fun e w' => e = .returned (.bool false) ∧ w' = W := fun W => by simpa [h1] using c1 W
      go_enter Tryz.func148, Tryz.ntmps148
      go_wp2_with (go_at_call 155; refine (c1 _).mono ?_; rintro e w' ⟨rfl, rfl⟩)
      go_ret
      exact ⟨rfl, (Below.refl w.heap.size w).alloc (Nat.le_refl _) _⟩
  by_cases k4 : k = 4
  · subst k4
    have e1 : ck 4 s v = if s ≠ 0 then 41 else if (0 : Int) < v.size then 42 else 0 := by
      unfold ck
      by_cases h : s = 0 <;> simp [h]
    have c2 := c2 4 s 0
    rw [← e1] at c2
    clear e1
    generalize ck 4 s v = r at c2 ⊢
    clear c1
    go_enter Tryz.func148, Tryz.ntmps148
    go_wp2_with (go_at_call 156; refine (c2 _).mono ?_; rintro e w' ⟨rfl, hb⟩)
    go_ret
    exact ⟨rfl, ((Below.refl w.heap.size w).alloc (Nat.le_refl _) _).trans (hb.mono (by simp))⟩
  have e1 : ck k s v = 40 := by simp [ck, k1, k2, k3, k4]
  rw [e1]
  clear e1 c1 c2
  have b1 : (k == 1) = false := by simp [k1]
  have b2 : (k == 2) = false := by simp [k2]
  have b3 : (k == 3) = false := by simp [k3]
  have b4 : (k == 4) = false := by simp [k4]
  go_enter Tryz.func148, Tryz.ntmps148
  go_wp2
  go_ret
  exact ⟨rfl, (Below.refl w.heap.size w).alloc (Nat.le_refl _) _⟩
end Go.Proofs.YtjfbkeommlopmaaGreatDoor
namespace Go.Proofs.YtjfbkeommlopmaaGreatDoor
open Go.RowKit Go.Maps
set_option linter.unusedVariables false
def Took (w : World) (b : Nat) (m : Option Nat) (L : List Cl) (w' : World) : Prop :=
  ∃ m', Led w' b m' L ∧ (m' = m ∨ ∃ j, m' = some j ∧ w.heap.size ≤ j) ∧ Upd (LS b m) w w'
end Go.Proofs.YtjfbkeommlopmaaGreatDoor
namespace Go.Proofs.YtjfbkeommlopmaaGreatDoor
open Go.RowKit Go.Maps
set_option linter.unusedVariables false
end Go.Proofs.YtjfbkeommlopmaaGreatDoor
namespace Go.Proofs.YtjfbkeommlopmaaGreatDoor
open Go.RowKit Go.Maps
set_option linter.unusedVariables false
theorem Took.wrap {w wa wb wc : World} {b : Nat} {m : Option Nat} {L : List Cl} (hu : Upd (fun _ => False) w wa) (t : Took wa b m L wb) (hlt : b < w.heap.size) (hm : ∀ j, m = some j → j < w.heap.size) (hc : Upd (fun i => w.heap.size ≤ i ∧ i < wa.heap.size) wb wc) : Took w b m L wc := by
  obtain ⟨m', hl, hmm, hup⟩ := t
  have hle := hu.size
  have h1 : Upd (LS b m) w wb := (hu.mono (fun _ _ h => h.elim)).trans hup
  refine ⟨m', hl.upd hc (by omega) (fun j e => ?_), ?_, ⟨hc.os.trans h1.os, hc.tape.trans h1.tape, hc.output.trans h1.output, Nat.le_trans h1.size hc.size, fun k hk hs => ?_⟩⟩
  · rcases hmm with h | ⟨i, h, hi⟩
    · have := hm j (h ▸ e); omega
    · rw [h] at e; cases e; omega
  · rcases hmm with h | ⟨i, h, hi⟩
    · exact .inl h
    · exact .inr ⟨i, h, by omega⟩
  · exact (hc.block k (Nat.lt_of_lt_of_le hk h1.size) (by omega)).trans (h1.block k hk hs)
theorem Took.upd {w w' : World} {b : Nat} {m : Option Nat} {L : List Cl} (t : Took w b m L w') : Upd (LS b m) w w' := by
  obtain ⟨_, _, _, h⟩ := t
  exact h
theorem Took.same {w w' : World} {b : Nat} {m : Option Nat} {L : List Cl} (h : Led w b m L) (hb : Below w.heap.size w w') : Took w b m L w' :=
  ⟨m, h.upd (S := fun _ => False) (Upd.of_below hb) id (fun _ _ => id), .inl rfl, (Upd.of_below (S := fun _ => False) hb).mono (fun _ _ h => h.elim)⟩
end Go.Proofs.YtjfbkeommlopmaaGreatDoor
namespace Go.Proofs.YtjfbkeommlopmaaGreatDoor
open Go.RowKit Go.Maps
set_option linter.unusedVariables false
theorem bytes_inj (a b : ByteArray) : a.toList = b.toList ↔ a = b := by
  rw [ByteArray.toList_eq, ByteArray.toList_eq]
  obtain ⟨⟨x⟩⟩ := a
  obtain ⟨⟨y⟩⟩ := b
  simp
def LedB (B : Nat) (w0 w : World) (b : Nat) (L : List Cl) : Prop := ∃ m, Led w b m L ∧ B ≤ b ∧ (∀ j, m = some j → B ≤ j) ∧ Below B w0 w
theorem LedB.ok {B b : Nat} {w0 w : World} {L : List Cl} (h : LedB B w0 w b L) : Ok L := by obtain ⟨m, h, _⟩ := h; exact h.ok
theorem LedB.bel {B b : Nat} {w0 w : World} {L : List Cl} (h : LedB B w0 w b L) : Below B w0 w := by obtain ⟨m, _, _, _, h⟩ := h; exact h
theorem LedB.lt {B b : Nat} {w0 w : World} {L : List Cl} (h : LedB B w0 w b L) : B ≤ b ∧ b < w.heap.size := by obtain ⟨m, h, hb, _⟩ := h; exact ⟨hb, h.lt⟩
theorem LedB.upd {S : Nat → Prop} {B b : Nat} {w0 w w' : World} {L : List Cl} (h : LedB B w0 w b L) (u : Upd S w w') (hS : ∀ k, S k → B ≤ k) (hn : ¬ S b) (hm : ∀ k, S k → ∀ es c, w.heap[k]? ≠ some (.map es c)) : LedB B w0 w' b L := by
  obtain ⟨m, h1, h2, h3, h4⟩ := h
  refine ⟨m, h1.upd u hn (fun j e hs => ?_), h2, h3, h4.trans (u.below (by have := h1.lt; omega) hS)⟩
  obtain ⟨es, c, hb, _⟩ := (h1.sm j e).2
  exact hm j hs es c hb
end Go.Proofs.YtjfbkeommlopmaaGreatDoor
namespace Go.Proofs.YtjfbkeommlopmaaGreatDoor
open Go.RowKit Go.Maps
set_option linter.unusedVariables false
set_option linter.unusedSimpArgs false
def ccs : List Cl → List Value
  | [] => []
  | d :: r => .int .i64 d.1 :: .string d.2 :: ccs r
theorem ccs_get0 : ∀ (l : List Cl) (i : Nat) (d : Cl), l[i]? = some d → (ccs l)[i * 2]? = some (.int .i64 d.1)
  | [], i, d, h => by simp at h
  | x :: r, 0, d, h => by simp at h; subst h; simp [ccs]
  | x :: r, i + 1, d, h => by
    have e : (i + 1) * 2 = i * 2 + 1 + 1 := by omega
    rw [e]
    simp only [ccs, List.getElem?_cons_succ] at h ⊢
    exact ccs_get0 r i d h
theorem ccs_get1 : ∀ (l : List Cl) (i : Nat) (d : Cl), l[i]? = some d → (ccs l)[i * 2 + 1]? = some (.string d.2)
  | [], i, d, h => by simp at h
  | x :: r, 0, d, h => by simp at h; subst h; simp [ccs]
  | x :: r, i + 1, d, h => by
    have e : (i + 1) * 2 + 1 = i * 2 + 1 + 1 + 1 := by omega
    rw [e]
    simp only [ccs, List.getElem?_cons_succ] at h ⊢
    exact ccs_get1 r i d h
def OwnC (B : Nat) (w : World) (v : Value) (l : List Cl) : Prop := w.ownsRow B 171 2 v l.length (ccs l)
theorem OwnC.nil (B : Nat) (w : World) : OwnC B w (.slice none 0 0) [] := World.ownsRow_nil w B 171 2
theorem OwnC.alloc {B : Nat} {w : World} {v : Value} {l : List Cl} (h : OwnC B w v l) (o : Obj) : OwnC B (w.alloc o) v l := World.ownsRow.alloc h o
theorem OwnC.upd {B : Nat} {S : Nat → Prop} {w w' : World} {v : Value} {l : List Cl} (h : OwnC B w v l) (u : Upd S w w') (hs : ∀ k, B ≤ k → ¬ S k) : OwnC B w' v l := by
  obtain ⟨h1, h2⟩ := h
  refine ⟨h1, ?_⟩
  rcases h2 with h2 | ⟨g, cap, cur, e1, e2, e3, r⟩
  · exact .inl h2
  · refine .inr ⟨g, cap, cur, e1, e2, ?_, r⟩
    have hlt : g < w.heap.size := by
      rcases Nat.lt_or_ge g w.heap.size with h' | h'
      · exact h'
      · rw [Array.getElem?_eq_none h'] at e3; cases e3
    rw [u.block g hlt (hs g e2)]
    exact e3
theorem OwnC.form {B : Nat} {w : World} {v : Value} {l : List Cl} (h : OwnC B w v l) : ∃ a c, v = .slice a l.length c ∧ l.length ≤ c ∧ c ≤ maxLen ∧ (a = none → l = [] ∧ c = 0) ∧ ∀ x, a = some x → ∃ g, x = ⟨g, 0, none⟩ ∧ B ≤ g ∧ g < w.heap.size := by
  rcases h.2 with ⟨e1, e2⟩ | ⟨g, cap, cur, e1, e2, e3, e4, e5, _⟩
  · exact ⟨none, 0, by rw [e1, e2], by omega, by unfold maxLen; omega, fun _ => ⟨List.eq_nil_of_length_eq_zero e2, rfl⟩, fun x hx => by cases hx⟩
  · refine ⟨some ⟨g, 0, none⟩, cap, e1, e4, e5, (fun hx => by cases hx), fun x hx => ?_⟩
    cases hx
    refine ⟨g, rfl, e2, ?_⟩
    rcases Nat.lt_or_ge g w.heap.size with h' | h'
    · exact h'
    · rw [Array.getElem?_eq_none h'] at e3; cases e3
theorem OwnC.cell {B : Nat} {w : World} {g n c : Nat} {l : List Cl} (h : OwnC B w (.slice (some ⟨g, 0, none⟩) n c) l) (i : Nat) (d : Cl) (hd : l[i]? = some d) : w.cell? ⟨g, i * 2, none⟩ = some (.int .i64 d.1) ∧ w.cell? ⟨g, i * 2 + 1, none⟩ = some (.string d.2) := by
  have h0 := World.ownsRow.cells h (g := g) rfl _ _ (ccs_get0 l i d hd)
  have h1 := World.ownsRow.cells h (g := g) rfl _ _ (ccs_get1 l i d hd)
  rw [Addr.add_lit, Nat.zero_add] at h0 h1
  exact ⟨h0, h1⟩
theorem OwnC.grown {B : Nat} {w0 w w' : World} {v : Value} {l : List Cl} (ho : OwnC B w v l) (h0 : Below B w0 w) (hg : w.grownBy w' v.ownBlock) (hB : B ≤ w.heap.size) : Below B w0 w' :=
  h0.grown hg hB (fun k hk => (World.ownsRow.lt ho k hk).1)
theorem info_parts {P : Program} {t : TypeId} {z : Option Value} {s b : Nat} (h : (P.info? t).map (fun i => (i.zero, i.size, i.bytes)) = some (z, s, b)) : ∃ i, P.info? t = some i ∧ i.zero = z ∧ i.size = s ∧ i.bytes = b := by
  cases h2 : P.info? t with
  | none => rw [h2] at h; cases h
  | some i =>
    rw [h2] at h
    simp at h
    exact ⟨i, rfl, h.1, h.2.1, h.2.2⟩
def LieC (w : World) (q o : Nat) (D : List Cl) : Prop := ∀ i d, D[i]? = some d → w.cell? ⟨q, o + i * 2, none⟩ = some (.int .i64 d.1) ∧ w.cell? ⟨q, o + i * 2 + 1, none⟩ = some (.string d.2)
theorem LieC.upd {S : Nat → Prop} {w w' : World} {q o : Nat} {D : List Cl} (h : LieC w q o D) (u : Upd S w w') (hq : q < w.heap.size) (hs : ¬ S q) : LieC w' q o D := fun i d hd =>
  ⟨(u.cell (p := ⟨q, o + i * 2, none⟩) hq hs).trans (h i d hd).1, (u.cell (p := ⟨q, o + i * 2 + 1, none⟩) hq hs).trans (h i d hd).2⟩
structure SlC (w : World) (v : Value) (D : List Cl) (a : Option Addr) (c : Nat) : Prop where
  form : v = .slice a D.length c
  cap : D.length ≤ c
  max : c ≤ maxLen
  nil : a = none → D = [] ∧ c = 0
  at_ : ∀ x, a = some x → (D = [] ∧ c = 0) ∨ ∃ q o, x = ⟨q, o, none⟩ ∧ q < w.heap.size ∧ LieC w q o D
theorem SlC.upd {S : Nat → Prop} {w w' : World} {v : Value} {D : List Cl} {a : Option Addr} {c : Nat} (h : SlC w v D a c) (u : Upd S w w') (hs : ∀ x, a = some x → D ≠ [] → ¬ S x.block) : SlC w' v D a c :=
  ⟨h.form, h.cap, h.max, h.nil, fun x hx => by
    rcases h.at_ x hx with h1 | ⟨q, o, rfl, hq, hl⟩
    · exact .inl h1
    · refine .inr ⟨q, o, rfl, Nat.lt_of_lt_of_le hq u.size, ?_⟩
      by_cases hD : D = []
      · subst hD
        intro i d hd
        cases hd
      · exact hl.upd u hq (hs _ hx hD)⟩
theorem OwnC.sl {B : Nat} {w : World} {v : Value} {D : List Cl} (h : OwnC B w v D) : ∃ a c, SlC w v D a c ∧ ∀ z, a = some z → B ≤ z.block ∧ z.block < w.heap.size := by
  obtain ⟨a, c, rfl, h1, h2, h3, h4⟩ := h.form
  refine ⟨a, c, ⟨rfl, h1, h2, h3, fun x hx => ?_⟩, fun z hz => ?_⟩
  · obtain ⟨g, rfl, _, hl⟩ := h4 x hx
    subst hx
    exact .inr ⟨g, 0, rfl, hl, fun i d hd => by rw [Nat.zero_add]; exact h.cell i d hd⟩
  · obtain ⟨g, rfl, hB, hl⟩ := h4 z hz
    exact ⟨hB, hl⟩
theorem ccs_set : ∀ (l : List Cl) (k : Nat) (x : Int) (y : ByteArray), ccs (l.set k (x, y)) = ((ccs l).set (k * 2) (.int .i64 x)).set (k * 2 + 1) (.string y)
  | [], k, x, y => by simp [ccs]
  | d :: r, 0, x, y => by simp [ccs]
  | d :: r, k + 1, x, y => by
    have e : (k + 1) * 2 = k * 2 + 1 + 1 := by omega
    rw [e]
    simp only [List.set_cons_succ, ccs, ccs_set r k x y]
theorem OwnC.set {B : Nat} {w : World} {g n c : Nat} {l : List Cl} (h : OwnC B w (.slice (some ⟨g, 0, none⟩) n c) l) (k : Nat) (x : Int) (y : ByteArray) :
    OwnC B ((w.setCell ⟨g, k * 2, none⟩ (.int .i64 x)).setCell ⟨g, k * 2 + 1, none⟩ (.string y)) (.slice (some ⟨g, 0, none⟩) n c) (l.set k (x, y)) := by
  obtain ⟨a, c', e, _⟩ := h.form
  injection e with e1 e2 e3
  unfold OwnC at *
  rw [← e2] at h
  rw [ccs_set, List.length_set, ← e2]
  exact ((World.ownsRow.stored h (k * 2) _).1.stored (k * 2 + 1) _).1
theorem OwnC.free {B : Nat} {w : World} {g n c : Nat} {l : List Cl} (h : OwnC B w (.slice (some ⟨g, 0, none⟩) n c) l) (j : Nat) : w.frozen? ⟨g, j, none⟩ = false := by
  obtain ⟨a, c', e, _⟩ := h.form
  injection e with e1 e2 e3
  unfold OwnC at h
  rw [← e2] at h
  exact World.ownsRow.frozenAt h j
theorem OwnC.bel {B : Nat} {w w' : World} {v : Value} {l : List Cl} (h : OwnC B w v l) {B' : Nat} (hb : Below B' w w') (hB : w.heap.size ≤ B') : OwnC B w' v l :=
  h.upd (S := fun _ => False) (Upd.of_below (hb.mono hB)) (fun _ _ => id)
theorem OwnC.low {B B' : Nat} {w : World} {v : Value} {l : List Cl} (h : OwnC B w v l) (hb : B' ≤ B) : OwnC B' w v l := by
  obtain ⟨h1, h2⟩ := h
  refine ⟨h1, ?_⟩
  rcases h2 with h2 | ⟨g, cap, cur, e1, e2, r⟩
  · exact .inl h2
  · exact .inr ⟨g, cap, cur, e1, Nat.le_trans hb e2, r⟩
end Go.Proofs.YtjfbkeommlopmaaGreatDoor
namespace Go.Proofs.YtjfbkeommlopmaaGreatDoor
open Go.RowKit
set_option linter.unusedVariables false
set_option linter.unusedSimpArgs false
structure Lay (α : Type) where
  T : TypeId
  ST : TypeId
  k : Nat
  by_ : Nat
  cs : α → List Value
  z : α
structure Lay.Ok {α : Type} (Y : Lay α) : Prop where
  kp : 0 < Y.k
  len : ∀ x, (Y.cs x).length = Y.k
  one : ∀ x u, u ∈ Y.cs x → u.oneCell' = true
  und : Tryz.prog.underlying Y.ST = some (.slice Y.T)
  info : ∃ zv : Value, (Tryz.prog.info? Y.T).map (fun i => (i.zero, i.size, i.bytes)) = some (some zv, Y.k, Y.by_) ∧ zv.cells = (Y.cs Y.z).toArray
variable {α : Type} {Y : Lay α}
def fl (Y : Lay α) : List α → List Value
  | [] => []
  | x :: r => Y.cs x ++ fl Y r
theorem fl_length (K : Y.Ok) : ∀ l : List α, (fl Y l).length = l.length * Y.k
  | [] => by simp [fl]
  | x :: r => by rw [fl, List.length_append, fl_length K r, K.len, List.length_cons, Nat.add_mul]; omega
theorem fl_append : ∀ l m : List α, fl Y (l ++ m) = fl Y l ++ fl Y m
  | [], m => rfl
  | x :: r, m => by simp only [fl, List.cons_append, fl_append r m, List.append_assoc]
theorem fl_get (K : Y.Ok) : ∀ (l : List α) (i : Nat) (x : α), l[i]? = some x → ∀ j, j < Y.k → (fl Y l)[i * Y.k + j]? = (Y.cs x)[j]?
  | [], i, x, h, j, hj => by simp at h
  | y :: r, 0, x, h, j, hj => by
    simp at h; subst h
    rw [fl, Nat.zero_mul, Nat.zero_add, List.getElem?_append_left (by rw [K.len]; exact hj)]
  | y :: r, i + 1, x, h, j, hj => by
    have h' : r[i]? = some x := by simpa using h
    rw [fl, List.getElem?_append_right (by rw [K.len, Nat.add_mul]; omega), K.len, show (i + 1) * Y.k + j - Y.k = i * Y.k + j by rw [Nat.add_mul]; omega]
    exact fl_get K r i x h' j hj
theorem fl_one (K : Y.Ok) : ∀ (l : List α) (u : Value), u ∈ fl Y l → u.oneCell' = true
  | [], u, h => by cases h
  | x :: r, u, h => by
    rcases List.mem_append.1 h with h | h
    · exact K.one x u h
    · exact fl_one K r u h
theorem div_pos_lt {j n k : Nat} (hk : 0 < k) (h : j < n * k) : j / k < n ∧ j % k < k ∧ j / k * k + j % k = j :=
  ⟨Nat.div_lt_of_lt_mul (by rw [Nat.mul_comm]; exact h), Nat.mod_lt _ hk, by rw [Nat.mul_comm]; exact Nat.div_add_mod j k⟩
theorem fl_inv (K : Y.Ok) (l : List α) (j : Nat) (u : Value) (h : (fl Y l)[j]? = some u) : ∃ x, l[j / Y.k]? = some x ∧ (Y.cs x)[j % Y.k]? = some u := by
  have hj := (List.getElem?_eq_some_iff.1 h).1
  rw [fl_length K] at hj
  obtain ⟨h1, h2, h3⟩ := div_pos_lt K.kp hj
  refine ⟨_, List.getElem?_eq_getElem h1, ?_⟩
  rw [← fl_get K l _ _ (List.getElem?_eq_getElem h1) _ h2, h3]
  exact h
def OwnY (Y : Lay α) (B : Nat) (w : World) (v : Value) (l : List α) : Prop := w.ownsRow B Y.T Y.k v l.length (fl Y l)
theorem OwnY.nil (Y : Lay α) (B : Nat) (w : World) : OwnY Y B w (.slice none 0 0) [] := World.ownsRow_nil w B Y.T Y.k
theorem OwnY.alloc {B : Nat} {w : World} {v : Value} {l : List α} (h : OwnY Y B w v l) (o : Obj) : OwnY Y B (w.alloc o) v l := World.ownsRow.alloc h o
theorem OwnY.form {B : Nat} {w : World} {v : Value} {l : List α} (h : OwnY Y B w v l) : ∃ a c, v = .slice a l.length c ∧ l.length ≤ c ∧ c ≤ maxLen ∧ (a = none → l = [] ∧ c = 0) ∧ ∀ x, a = some x → ∃ g, x = ⟨g, 0, none⟩ ∧ B ≤ g ∧ g < w.heap.size := by
  rcases h.2 with ⟨e1, e2⟩ | ⟨g, cap, cur, e1, e2, e3, e4, e5, _⟩
  · exact ⟨none, 0, by rw [e1, e2], by omega, by unfold maxLen; omega, fun _ => ⟨List.eq_nil_of_length_eq_zero e2, rfl⟩, fun x hx => by cases hx⟩
  · refine ⟨some ⟨g, 0, none⟩, cap, e1, e4, e5, (fun hx => by cases hx), fun x hx => ?_⟩
    cases hx
    exact ⟨g, rfl, e2, (Array.getElem?_eq_some_iff.1 e3).1⟩
theorem OwnY.cell (K : Y.Ok) {B : Nat} {w : World} {g n c : Nat} {l : List α} (h : OwnY Y B w (.slice (some ⟨g, 0, none⟩) n c) l) (i : Nat) (x : α) (hx : l[i]? = some x) (j : Nat) (u : Value) (hu : (Y.cs x)[j]? = some u) : w.cell? ⟨g, i * Y.k + j, none⟩ = some u := by
  have hj := (List.getElem?_eq_some_iff.1 hu).1
  rw [K.len] at hj
  have h0 := World.ownsRow.cells h (g := g) rfl (i * Y.k + j) u (by rw [fl_get K l i x hx j hj]; exact hu)
  rw [Addr.add_lit, Nat.zero_add] at h0
  exact h0
theorem OwnY.upd1 {S : Nat → Prop} {B : Nat} {w w' : World} {v : Value} {l : List α} (h : OwnY Y B w v l) (u : Upd S w w') (hs : ∀ g, v.ownBlock = some g → ¬ S g) : OwnY Y B w' v l := by
  obtain ⟨h1, h2⟩ := h
  refine ⟨h1, ?_⟩
  rcases h2 with h2 | ⟨g, cap, cur, e1, e2, e3, r⟩
  · exact .inl h2
  · refine .inr ⟨g, cap, cur, e1, e2, ?_, r⟩
    rw [u.block g (Array.getElem?_eq_some_iff.1 e3).1 (hs g (by rw [e1]; rfl))]
    exact e3
theorem OwnY.blk {B : Nat} {w : World} {v : Value} {l : List α} (h : OwnY Y B w v l) : ∀ k, v.ownBlock = some k → B ≤ k ∧ k < w.heap.size := World.ownsRow.lt h
theorem OwnY.grow {B : Nat} {w w' : World} {v : Value} {l : List α} (h : OwnY Y B w v l) (hb : Below w.heap.size w w') : OwnY Y B w' v l := h.upd1 (S := fun _ => False) (Upd.of_below hb) (fun _ _ => id)
theorem OwnY.low {B B' : Nat} {w : World} {v : Value} {l : List α} (h : OwnY Y B w v l) (hb : B' ≤ B) : OwnY Y B' w v l := by
  obtain ⟨h1, h2⟩ := h
  refine ⟨h1, ?_⟩
  rcases h2 with h2 | ⟨g, cap, cur, e1, e2, r⟩
  · exact .inl h2
  · exact .inr ⟨g, cap, cur, e1, Nat.le_trans hb e2, r⟩
theorem OwnY.grown {B : Nat} {w0 w w' : World} {v : Value} {l : List α} (ho : OwnY Y B w v l) (h0 : Below B w0 w) (hg : w.grownBy w' v.ownBlock) (hB : B ≤ w.heap.size) : Below B w0 w' :=
  h0.grown hg hB (fun k hk => (ho.blk k hk).1)
theorem OwnY.free {B : Nat} {w : World} {g n c : Nat} {l : List α} (h : OwnY Y B w (.slice (some ⟨g, 0, none⟩) n c) l) (j : Nat) : w.frozen? ⟨g, j, none⟩ = false := by
  obtain ⟨a, c', e, _⟩ := h.form
  injection e with e1 e2 e3
  unfold OwnY at h
  rw [← e2] at h
  exact World.ownsRow.frozenAt h j
theorem OwnY.kind {B : Nat} {w : World} {v : Value} {l : List α} (h : OwnY Y B w v l) {g : Nat} (e : v.ownBlock = some g) : ∃ c f, w.heap[g]? = some (.cells c Y.T f) := by
  rcases h.2 with ⟨e1, _⟩ | ⟨g1, _, cur, e1, _, hb, _⟩
  · rw [e1] at e; cases e
  · rw [e1] at e; cases e; exact ⟨cur, _, hb⟩
theorem OwnY.apart {β : Type} {Y' : Lay β} {B B' : Nat} {w : World} {v v' : Value} {l : List α} {l' : List β} (h : OwnY Y B w v l) (h' : OwnY Y' B' w v' l') (hT : Y.T ≠ Y'.T) : ∀ g, v.ownBlock = some g → v'.ownBlock ≠ some g := by
  intro g e e'
  obtain ⟨c, f, h1⟩ := h.kind e
  obtain ⟨c', f', h2⟩ := h'.kind e'
  rw [h1] at h2
  injection h2 with h3
  injection h3 with _ h4
  exact hT h4
theorem OwnY.not_map {B : Nat} {w : World} {v : Value} {l : List α} {g : Nat} (h : OwnY Y B w v l) (e : v.ownBlock = some g) : ∀ es c, w.heap[g]? ≠ some (.map es c) := fun es c e' => by
  obtain ⟨c, f, h1⟩ := h.kind e
  rw [e'] at h1
  cases h1
def LieY (Y : Lay α) (w : World) (q o : Nat) (l : List α) : Prop := ∀ i x, l[i]? = some x → ∀ j u, (Y.cs x)[j]? = some u → w.cell? ⟨q, o + i * Y.k + j, none⟩ = some u
theorem LieY.upd {S : Nat → Prop} {w w' : World} {q o : Nat} {l : List α} (h : LieY Y w q o l) (u : Upd S w w') (hq : q < w.heap.size) (hs : ¬ S q) : LieY Y w' q o l := fun i x hx j v hv => (u.cell (p := ⟨q, _, none⟩) hq hs).trans (h i x hx j v hv)
theorem LieY.flat (K : Y.Ok) {w : World} {q o : Nat} {l : List α} (h : LieY Y w q o l) (j : Nat) (u : Value) (hu : (fl Y l)[j]? = some u) : w.cell? ⟨q, o + j, none⟩ = some u := by
  have hj := (List.getElem?_eq_some_iff.1 hu).1
  rw [fl_length K] at hj
  obtain ⟨x, h1, h2⟩ := fl_inv K l j u hu
  have := h _ _ h1 _ _ h2
  rw [Nat.add_assoc, (div_pos_lt K.kp hj).2.2] at this
  exact this
structure SlY (Y : Lay α) (w : World) (a : Option Addr) (n c : Nat) (l : List α) : Prop where
  len : l.length = n
  cap : n ≤ c
  max : c ≤ maxLen
  nil : a = none → n = 0 ∧ c = 0
  at_ : ∀ x, a = some x → l = [] ∨ ∃ q o, x = ⟨q, o, none⟩ ∧ q < w.heap.size ∧ LieY Y w q o l
theorem SlY.upd {S : Nat → Prop} {w w' : World} {a : Option Addr} {n c : Nat} {l : List α} (h : SlY Y w a n c l) (u : Upd S w w') (hs : ∀ x, a = some x → l ≠ [] → ¬ S x.block) : SlY Y w' a n c l :=
  ⟨h.len, h.cap, h.max, h.nil, fun x hx => by
    rcases h.at_ x hx with e | ⟨q, o, rfl, hq, hl⟩
    · exact .inl e
    · by_cases hl0 : l = []
      · exact .inl hl0
      · exact .inr ⟨q, o, rfl, Nat.lt_of_lt_of_le hq u.size, hl.upd u hq (hs _ hx hl0)⟩⟩
theorem SlY.later {w w' : World} {a : Option Addr} {n c : Nat} {l : List α} (h : SlY Y w a n c l) (hb : Below w.heap.size w w') : SlY Y w' a n c l := h.upd (S := fun _ => False) (Upd.of_below hb) (fun _ _ _ => id)
theorem SlY.bel {w w' : World} {a : Option Addr} {n c : Nat} {l : List α} (h : SlY Y w a n c l) {B : Nat} (hb : Below B w w') (hB : w.heap.size ≤ B) : SlY Y w' a n c l := h.upd (S := fun k => B ≤ k) ⟨hb.os, hb.tape, hb.output, hb.size, fun k hk hs => hb.block k (by omega)⟩ (fun x hx hne hs => by
  rcases h.at_ x hx with e | ⟨q, o, rfl, hq, hl⟩
  · exact hne e
  · dsimp only at hs; omega)
theorem SlY.place {w : World} {a : Option Addr} {n c : Nat} {l : List α} (h : SlY Y w a n c l) (hne : l ≠ []) : ∃ q o, a = some ⟨q, o, none⟩ ∧ q < w.heap.size ∧ LieY Y w q o l := by
  cases ha : a with
  | none =>
    have := (h.nil ha).1
    exact absurd (List.eq_nil_of_length_eq_zero (h.len.trans this)) hne
  | some x =>
    rcases h.at_ x ha with e | ⟨q, o, rfl, hq, hl⟩
    · exact absurd e hne
    · exact ⟨q, o, rfl, hq, hl⟩
theorem SlY.take {w : World} {a : Option Addr} {n c : Nat} {l : List α} (h : SlY Y w a n c l) (m : Nat) (hm : m ≤ n) : SlY Y w a m c (l.take m) :=
  ⟨by rw [List.length_take, h.len]; omega, Nat.le_trans hm h.cap, h.max, (fun e => by have := h.nil e; omega), fun x hx => by
    rcases h.at_ x hx with e | ⟨q, o, rfl, hq, hl⟩
    · exact .inl (by rw [e]; simp)
    · refine .inr ⟨q, o, rfl, hq, fun i y hy => hl i y ?_⟩
      rw [List.getElem?_take] at hy
      split at hy
      · exact hy
      · cases hy⟩
theorem OwnY.sl (K : Y.Ok) {B : Nat} {w : World} {v : Value} {l : List α} (h : OwnY Y B w v l) : ∃ a c, v = .slice a l.length c ∧ SlY Y w a l.length c l ∧ ∀ z, a = some z → ∃ g, z = ⟨g, 0, none⟩ ∧ B ≤ g ∧ g < w.heap.size := by
  obtain ⟨a, c, rfl, h1, h2, h3, h4⟩ := h.form
  refine ⟨a, c, rfl, ⟨rfl, h1, h2, (fun e => by obtain ⟨e1, e2⟩ := h3 e; rw [e1]; exact ⟨rfl, e2⟩), fun x hx => ?_⟩, h4⟩
  obtain ⟨g, rfl, _, hg⟩ := h4 x hx
  subst hx
  exact .inr ⟨g, 0, rfl, hg, fun i y hy j u hu => by rw [Nat.zero_add]; exact h.cell K i y hy j u hu⟩
theorem OwnY.sl' (K : Y.Ok) {B : Nat} {w : World} {a : Option Addr} {n c : Nat} {l : List α} (h : OwnY Y B w (.slice a n c) l) : SlY Y w a n c l := by
  obtain ⟨a', c', e, h1, _⟩ := h.sl K
  injection e with e1 e2 e3
  subst e1 e2 e3
  exact h1
theorem run_appY (K : Y.Ok) (w : World) (ty : TypeId) (B : Nat) (l : List α) (v : Value) (ad : Option Addr) (m c : Nat) (news : List α) (hh : SlY Y w ad m c news) (hown : OwnY Y B w v l) (hB : B ≤ w.heap.size) (hm : l.length + m ≤ maxLen) (hb : (l.length + m) * Y.by_ ≤ 140737488355328) :
    ∃ v' w', (Builtin.append_ #[Y.ST, Y.ST] ty #[v, .slice ad m c]).run Tryz.prog w = .ok v' w' ∧ OwnY Y B w' v' (l ++ news) ∧ w.grownBy w' v.ownBlock ∧ (v'.ownBlock = v.ownBlock ∨ ∃ k, v'.ownBlock = some k ∧ w.heap.size ≤ k) := by
  obtain ⟨zv, hinfo, hzc⟩ := K.info
  obtain ⟨i0, hi, hz0, hz1, hz2⟩ := info_parts hinfo
  have hzs : zv.cells.size = Y.k := by rw [hzc, List.size_toArray, K.len]
  cases ad with
  | none =>
    obtain ⟨rfl, rfl⟩ := hh.nil rfl
    obtain rfl : news = [] := List.eq_nil_of_length_eq_zero hh.len
    refine ⟨v, w, ?_, by rw [List.append_nil]; exact hown, World.grownBy.refl _ _, .inl rfl⟩
    exact run_append_owned_none (P := Tryz.prog) (w := w) B Y.ST ty Y.T i0 Y.k K.und hi v l.length (fl Y l) hown
  | some y =>
    have hnews : ∀ j u, (fl Y news)[j]? = some u → w.cell? (y.add j) = some u := fun j u hu => by
      rcases hh.at_ y rfl with e | ⟨q, o, rfl, _, hl⟩
      · subst e; cases hu
      · rw [Addr.add_lit]; exact hl.flat K j u hu
    have hlen : (fl Y news).length = m * Y.k := by rw [fl_length K, hh.len]
    obtain ⟨v', w', hr, h2, h3, h4⟩ := run_append_own (P := Tryz.prog) w B Y.ST ty Y.T i0 zv Y.k Y.by_ K.und hi hz0 hz1 hz2 hzs K.kp v l.length (fl Y l) hown y m c (fl Y news) hlen hnews (fl_one K news) hm hb hB
    refine ⟨v', w', hr, ?_, h3, ?_⟩
    · unfold OwnY
      rw [fl_append, List.length_append, hh.len]
      exact h2
    · rcases hown.2 with ⟨rfl, hn⟩ | ⟨g, cap, cur, rfl, hbg, hg, hnc, hcm, hcs, htake⟩
      · have hL : l = [] := List.eq_nil_of_length_eq_zero hn
        subst hL
        obtain ⟨v2, w2, hr2, k2, _⟩ := run_append_own (P := Tryz.prog) w w.heap.size Y.ST ty Y.T i0 zv Y.k Y.by_ K.und hi hz0 hz1 hz2 hzs K.kp (.slice none 0 0) 0 [] (World.ownsRow_nil w _ Y.T Y.k) y m c (fl Y news) hlen hnews (fl_one K news) hm hb (Nat.le_refl _)
        rw [hr] at hr2
        cases hr2
        cases hv : v'.ownBlock with
        | none => exact .inl rfl
        | some k => exact .inr ⟨k, rfl, (World.ownsRow.lt k2 k hv).1⟩
      · by_cases hroom : l.length + m ≤ cap
        · left
          have hfit : l.length * i0.size + (fl Y news).length ≤ cur.size := by rw [hcs, hz1, hlen, ← Nat.add_mul]; exact Nat.mul_le_mul_right _ hroom
          have hr2 := run_append_room (P := Tryz.prog) w Y.ST ty Y.T i0 K.und hi g l.length cap cur hg y m c (fl Y news) (by rw [hz1]; exact hlen) hnews (fl_one K news) hroom hfit
          rw [hr] at hr2
          cases hr2
          rfl
        · right
          have holds : ∀ j u, (fl Y l)[j]? = some u → w.cell? ((⟨g, 0, none⟩ : Addr).add j) = some u := World.ownsRow.cells hown (g := g) rfl
          have hr2 := run_append_grow (P := Tryz.prog) w Y.ST ty Y.T i0 zv K.und hi hz0 ⟨g, 0, none⟩ l.length cap (fl Y l) (by rw [hz1]; exact fl_length K l) holds y m c (fl Y news) (by rw [hz1]; exact hlen) hnews (by omega) (by unfold maxLen at hm; omega) (growslice_fits (by omega) (by rw [hz2]; exact hb))
          rw [hr] at hr2
          cases hr2
          exact ⟨_, rfl, Nat.le_refl _⟩
theorem appY (K : Y.Ok) (w : World) {ops : Array Oper} {rest : List Oper} {o : Oper} {a : Act} {Q : Exit → Act → World → Prop} (hgd : o.guard = none) (s x : Operand)
    (ho : o.op = .call { callee := .builtin .append, args := #[s, x], argTypes := #[Y.ST, Y.ST] }) (B : Nat) (l : List α) (v : Value) (hs : a.eval s = v)
    (ad : Option Addr) (m c : Nat) (hx : a.eval x = .slice ad m c) (news : List α) (hh : SlY Y w ad m c news) (hown : OwnY Y B w v l) (hB : B ≤ w.heap.size) (hm : l.length + m ≤ maxLen) (hb : (l.length + m) * Y.by_ ≤ 140737488355328)
    (hk : ∀ v' w', OwnY Y B w' v' (l ++ news) → w.grownBy w' v.ownBlock → (v'.ownBlock = v.ownBlock ∨ ∃ k, v'.ownBlock = some k ∧ w.heap.size ≤ k) → wpList Tryz.prog ops Q rest (a.put o.dst v') w') : wpList Tryz.prog ops Q (o :: rest) a w := by
  refine wpList_plain hgd fun K' hK' => ?_
  obtain ⟨v', w', hr, h2, h3, h4⟩ := run_appY K w o.type B l v ad m c news hh hown hB hm hb
  unfold Oper.wp execOp
  simp only [ho, resolve, invoke, builtin, Sem.run_bind, Sem.run_pure, Result.andThen_ok, List.map_toArray, List.map_cons, List.map_nil, hs, hx, hr]
  exact hK' _ _ (hk v' w' h2 h3 h4)
theorem stepY (K : Y.Ok) {ops : Array Oper} {o : Oper} {a : Act} {w : World} {K' : Act → World → Prop} {Q : Exit → Act → World → Prop} {E : Prop} (hg : o.guard = none) (s x : Operand)
    (ho : o.op = .call { callee := .builtin .append, args := #[s, x], argTypes := #[Y.ST, Y.ST] }) (B : Nat) (l : List α) (v : Value) (hs : a.eval s = v)
    (ad : Option Addr) (m c : Nat) (hx : a.eval x = .slice ad m c) (news : List α) (hh : SlY Y w ad m c news) (hown : OwnY Y B w v l) (hB : B ≤ w.heap.size) (hm : l.length + m ≤ maxLen) (hb : (l.length + m) * Y.by_ ≤ 140737488355328)
    (hk : ∀ v' w', OwnY Y B w' v' (l ++ news) → w.grownBy w' v.ownBlock → (v'.ownBlock = v.ownBlock ∨ ∃ k, v'.ownBlock = some k ∧ w.heap.size ≤ k) → K' (a.put o.dst v') w') :
    if Region.wanted o (yielded ops a.tmps) = true then Oper.wp Tryz.prog o a w K' Q else E := by
  have hw : Region.wanted o (yielded ops a.tmps) = true := by simp [Region.wanted, hg]
  rw [if_pos hw]
  obtain ⟨v', w', hr, h2, h3, h4⟩ := run_appY K w o.type B l v ad m c news hh hown hB hm hb
  unfold Oper.wp execOp
  simp only [ho, resolve, invoke, builtin, Sem.run_bind, Sem.run_pure, Result.andThen_ok, List.map_toArray, List.map_cons, List.map_nil, hs, hx, hr]
  exact hk v' w' h2 h3 h4
theorem madeY (K : Y.Ok) {zc : Array Value} (hzc : zc = (Y.cs Y.z).toArray) (n : Nat) : (madeCells zc (n * Y.k)).toList = fl Y (List.replicate n Y.z) := by
  subst hzc
  apply List.ext_getElem?
  intro j
  by_cases hj : j < n * Y.k
  · obtain ⟨h1, h2, h3⟩ := div_pos_lt K.kp hj
    have hg : (List.replicate n Y.z)[j / Y.k]? = some Y.z := List.getElem?_replicate_of_lt h1
    have := fl_get K _ _ _ hg _ h2
    rw [h3] at this
    rw [this]
    have hk := K.len Y.z
    simp [madeCells, hj, hk]
    rw [List.getElem?_eq_getElem (by rw [hk]; exact h2)]
    simp [hk, h2]
  · rw [List.getElem?_eq_none (by simp [madeCells]; omega), List.getElem?_eq_none (by rw [fl_length K]; simp; omega)]
theorem room_int {a n b : Nat} (e : a = b) (hb : n * b ≤ 140737488355328) : (a : Int) * (n : Int) ≤ 281474976710656 := by
  subst e
  have h : ((n * a : Nat) : Int) ≤ 140737488355328 := by omega
  rw [Int.natCast_mul, Int.mul_comm] at h
  omega
theorem makeY (K : Y.Ok) (w : World) {ops : Array Oper} {rest : List Oper} {o : Oper} {a : Act} {Q : Exit → Act → World → Prop} (hgd : o.guard = none) (x : Operand)
    (ho : o.op = .makeSlice Y.ST x x) (n : Nat) (hx : a.eval x = .int .i64 (n : Int)) (hm : n ≤ maxLen) (hb : n * Y.by_ ≤ 140737488355328)
    (h : ∀ w', OwnY Y w.heap.size w' (.slice (some ⟨w.heap.size, 0, none⟩) n n) (List.replicate n Y.z) → Below w.heap.size w w' → wpList Tryz.prog ops Q rest (a.put o.dst (.slice (some ⟨w.heap.size, 0, none⟩) n n)) w') : wpList Tryz.prog ops Q (o :: rest) a w := by
  obtain ⟨zv, hinfo, hzc⟩ := K.info
  obtain ⟨i0, hi, hz0, hz1, hz2⟩ := info_parts hinfo
  unfold maxLen at hm
  have hr := run_make (P := Tryz.prog) w Y.ST Y.T i0 zv K.und hi hz0 .i64 .i64 n n (by omega) (Int.le_refl _) (room_int hz2 hb) (by omega)
  rw [Int.toNat_natCast, hz1] at hr
  refine wpList_plain hgd fun K' hK' => ?_
  unfold Oper.wp execOp
  simp only [ho, hx, Sem.run_bind, Sem.run_pure, hr, Result.andThen_ok]
  refine hK' _ _ (h _ ?_ ((Below.refl _ _).alloc (Nat.le_refl _) _))
  unfold OwnY
  rw [List.length_replicate, ← madeY K hzc]
  exact World.ownsRow_lit w _ n (Nat.le_refl _) (by unfold maxLen; omega) (size_madeCells _ _)
end Go.Proofs.YtjfbkeommlopmaaGreatDoor
namespace Go.Proofs.YtjfbkeommlopmaaGreatDoor
open Go.RowKit Go.Maps
set_option linter.unusedVariables false
set_option linter.unusedSimpArgs false
def RV (v : Value) : Option (DataW Value × List MemPlace) := some (.held v, [])
def MapF (w : World) (b n : Nat) (f : Int → Option Value) : Prop := ∃ D : DataW Value, w.ownsMap Tryz.prog 3 RV b n D ∧ ∀ s z, D.atKey (.int .i64 s) z = match f s with | some v => .held v | none => z
theorem MapF.lt {w : World} {b n : Nat} {f : Int → Option Value} (h : MapF w b n f) : b < w.heap.size := by obtain ⟨D, h1, _⟩ := h; exact h1.lt
theorem MapF.block {w w' : World} {b n : Nat} {f : Int → Option Value} (h : MapF w b n f) (e : w'.heap[b]? = w.heap[b]?) : MapF w' b n f := by
  obtain ⟨D, ⟨es, clock, hb, F, hs, hD⟩, h2⟩ := h
  exact ⟨D, ⟨es, clock, e.trans hb, F, hs, hD⟩, h2⟩
theorem MapF.upd {S : Nat → Prop} {w w' : World} {b n : Nat} {f : Int → Option Value} (h : MapF w b n f) (u : Upd S w w') (hs : ¬ S b) : MapF w' b n f := h.block (u.block b h.lt hs)
theorem MapF.later {w w' : World} {b n : Nat} {f : Int → Option Value} (h : MapF w b n f) (hb : Below w.heap.size w w') : MapF w' b n f := h.block (hb.block b h.lt)
theorem MapF.grown {w w' : World} {b n : Nat} {f : Int → Option Value} (h : MapF w b n f) {row : Option Nat} (hg : w.grownBy w' row) (hne : some b ≠ row) : MapF w' b n f := h.block (hg.block b h.lt hne)
theorem MapF.isMap {w : World} {b n : Nat} {f : Int → Option Value} (h : MapF w b n f) : ∃ es c, w.heap[b]? = some (.map es c) := by
  obtain ⟨D, ⟨es, clock, hb, _⟩, _⟩ := h
  exact ⟨es, clock, hb⟩
theorem MapF.ne {α : Type} {Y : Lay α} {w : World} {b n B : Nat} {f : Int → Option Value} {v : Value} {l : List α} (h : MapF w b n f) (h' : OwnY Y B w v l) : some b ≠ v.ownBlock := fun e => by
  obtain ⟨es, c, hb⟩ := h.isMap
  exact h'.not_map e.symm es c hb
theorem MapF.len {w : World} {b n : Nat} {f : Int → Option Value} (h : MapF w b n f) {t e : TypeId} (ht : Tryz.prog.underlying t = some (.map 3 e)) : ∃ m : Nat, m ≤ n ∧ ∀ ty, (Builtin.len_ #[t] ty #[.map (some b)]).run Tryz.prog w = .ok (.int .i64 (m : Int)) w := by
  obtain ⟨D, h1, _⟩ := h
  exact ⟨Maps.size D, h1.size_le, fun ty => h1.len ht ty⟩
theorem MapF.put {w : World} {b n : Nat} {f : Int → Option Value} (h : MapF w b n f) {s : Int} {val : Value} {w' : World} {D : DataW Value} (hD : ∀ s z, D.atKey (.int .i64 s) z = match f s with | some v => .held v | none => z) (him : Maps.IsMap D) (h' : w'.ownsMap Tryz.prog 3 RV b (n + 1) (D.put (.int .i64 s) (.held val))) : MapF w' b (n + 1) (fun s' => if s' = s then some val else f s') := by
  refine ⟨_, h', fun s' z => ?_⟩
  by_cases e : s' = s
  · subst e
    rw [Maps.atKey_put_same him (by trivial)]
    simp
  · rw [Maps.atKey_put_other (by simpa using e), hD]
    simp [e]
end Go.Proofs.YtjfbkeommlopmaaGreatDoor
namespace Go.Proofs.YtjfbkeommlopmaaGreatDoor
open Go.RowKit Go.Maps
set_option linter.unusedVariables false
set_option linter.unusedSimpArgs false
variable {α : Type} {Y : Lay α}
theorem fl_splice (K : Y.Ok) {l : List α} {i j : Nat} {e e' : α} (he : l[i]? = some e) {xs : List Value} (hj : j + xs.length ≤ Y.k) (hc : Y.cs e' = (Y.cs e).take j ++ xs ++ (Y.cs e).drop (j + xs.length)) :
    fl Y (l.set i e') = (fl Y l).take (i * Y.k + j) ++ xs ++ (fl Y l).drop (i * Y.k + j + xs.length) := by
  have hi := (List.getElem?_eq_some_iff.1 he).1
  have hge := (List.getElem?_eq_some_iff.1 he).2
  have hl : l = l.take i ++ e :: l.drop (i + 1) := by
    rw [← hge, ← List.drop_eq_getElem_cons hi, List.take_append_drop]
  have h1 : l.set i e' = l.take i ++ e' :: l.drop (i + 1) := List.set_eq_take_append_cons_drop.trans (by rw [if_pos hi])
  have h2 : fl Y l = fl Y (l.take i) ++ (Y.cs e ++ fl Y (l.drop (i + 1))) := by
    conv => lhs; rw [hl, fl_append, fl]
  have hA : (fl Y (l.take i)).length = i * Y.k := by rw [fl_length K, List.length_take, Nat.min_eq_left (by omega)]
  have hC : (Y.cs e).length = Y.k := K.len e
  rw [h1, fl_append, fl, h2, hc]
  rw [List.take_append, List.take_of_length_le (l := fl Y (l.take i)) (by omega), hA, Nat.add_sub_cancel_left, List.take_append_of_le_length (by omega)]
  rw [Nat.add_assoc, List.drop_append, List.drop_of_length_le (l := fl Y (l.take i)) (by omega), hA, Nat.add_sub_cancel_left, List.nil_append, List.drop_append_of_le_length (by omega)]
  simp only [List.append_assoc]
theorem splice_take {A xs : List Value} {p m : Nat} (h : p + xs.length ≤ m) : (A.take p ++ xs ++ A.drop (p + xs.length)).take m = (A.take m).take p ++ xs ++ (A.take m).drop (p + xs.length) := by
  apply List.ext_getElem?
  intro q
  by_cases h0 : q < m
  · rw [List.getElem?_take, if_pos h0]
    by_cases hA : p ≤ A.length
    · have l1 : (A.take p).length = p := by rw [List.length_take]; omega
      have l2 : ((A.take m).take p).length = p := by rw [List.length_take, List.length_take]; omega
      by_cases h1 : q < p
      · rw [List.append_assoc, List.append_assoc, List.getElem?_append_left (by omega), List.getElem?_append_left (by omega), List.take_take, Nat.min_eq_left (by omega)]
      · by_cases h2 : q < p + xs.length
        · have t : ∀ (P D : List Value), P.length = p → (P ++ xs ++ D)[q]? = xs[q - p]? := fun P D hP => by
            rw [List.append_assoc, List.getElem?_append_right (by omega), hP, List.getElem?_append_left (by omega)]
          rw [t _ _ l1, t _ _ l2]
        · have t : ∀ (P D : List Value), P.length = p → (P ++ xs ++ D)[q]? = D[q - p - xs.length]? := fun P D hP => by
            rw [List.append_assoc, List.getElem?_append_right (by omega), hP, List.getElem?_append_right (by omega)]
          rw [t _ _ l1, t _ _ l2, List.getElem?_drop, List.getElem?_drop, List.getElem?_take, if_pos (by omega)]
    · have e1 : A.take p = A := List.take_of_length_le (by omega)
      have e2 : A.take m = A := List.take_of_length_le (by omega)
      rw [e1, e2, e1]
  · rw [List.getElem?_take, if_neg h0]
    symm
    apply List.getElem?_eq_none
    simp only [List.length_append, List.length_take, List.length_drop]
    omega
theorem storeY (K : Y.Ok) (w : World) {ops : Array Oper} {rest : List Oper} {o : Oper} {a : Act} {Q : Exit → Act → World → Prop} (hgd : o.guard = none) (ty : TypeId) (x y : Operand) (ho : o.op = .store ty x y)
    (B g n c : Nat) (l : List α) (i j : Nat) (e e' : α) (v : Value) (hx : a.eval x = .pointer (some ⟨g, i * Y.k + j, none⟩)) (hy : a.eval y = v) (he : l[i]? = some e) (hi : (Tryz.prog.info? ty).map (·.size) = some v.cells.size)
    (hj : j + v.cells.size ≤ Y.k) (hc : Y.cs e' = (Y.cs e).take j ++ v.cells.toList ++ (Y.cs e).drop (j + v.cells.toList.length)) (hown : OwnY Y B w (.slice (some ⟨g, 0, none⟩) n c) l)
    (hk : ∀ w', OwnY Y B w' (.slice (some ⟨g, 0, none⟩) n c) (l.set i e') → Upd (fun b => b = g) w w' → w'.heap.size = w.heap.size → wpList Tryz.prog ops Q rest (a.put o.dst undef) w') : wpList Tryz.prog ops Q (o :: rest) a w := by
  refine wpList_plain hgd fun K' hK' => ?_
  have hlt := (List.getElem?_eq_some_iff.1 he).1
  rcases hown with ⟨h0, h1 | ⟨g1, cap, cur, e1, e2, e3, e4, e5, e6, e7⟩⟩
  · have := h1.1; cases this
  · injection e1 with q1 q2 q3
    injection q1 with q1
    cases q1
    subst q3
    have hsz : l.length * Y.k ≤ cur.size := by rw [e6]; exact Nat.mul_le_mul_right _ e4
    have hlen : v.cells.toList.length = v.cells.size := by simp
    have hfit : i * Y.k + j + v.cells.toList.length ≤ l.length * Y.k := by
      have : (i + 1) * Y.k ≤ l.length * Y.k := Nat.mul_le_mul_right _ hlt
      rw [Nat.add_mul] at this
      omega
    have hrun := run_storeCells_at (P := Tryz.prog) g (i * Y.k + j) Y.T v.cells.toList 0 cur w e3 (by omega) (fun u hu => K.one e' u (by rw [hc]; exact List.mem_append_left _ (List.mem_append_right _ hu)))
    rw [Nat.add_zero] at hrun
    have hst : (Instr.storeAt ty (.pointer (some ⟨g, i * Y.k + j, none⟩)) v).run Tryz.prog w = .ok () (w.setRow g (cur.toList.take (i * Y.k + j) ++ v.cells.toList ++ cur.toList.drop (i * Y.k + j + v.cells.toList.length)).toArray) := by
      cases hq : Tryz.prog.info? ty with
      | none => rw [hq] at hi; cases hi
      | some t =>
        have hs : v.cells.size = t.size := by simp [hq] at hi; omega
        simp [Instr.storeAt, Instr.sureAddr, storeVar, sizeOf, typeInfo, hq, hs]
        rw [← hs]
        simpa using hrun
    unfold Oper.wp execOp
    simp only [ho, hx, hy, Sem.run_bind, Sem.run_pure, Result.andThen_ok, hst]
    refine hK' _ _ (hk _ ?_ ⟨rfl, rfl, rfl, by simp, fun b hb hs => setRow_other w g b _ hs⟩ (by simp))
    refine ⟨by rw [fl_length K], .inr ⟨g, c, _, ?_, e2, setRow_heap w g cur _ Y.T (0, 0) e3, ?_, e5, ?_, ?_⟩⟩
    · rw [List.length_set, ← q2]
    · rw [List.length_set]; exact e4
    · rw [List.size_toArray, ← e6]
      simp only [List.length_append, List.length_take, List.length_drop, Array.length_toList]
      omega
    · rw [List.length_set, fl_splice K he (by rw [hlen]; exact hj) hc, ← e7]
      exact splice_take hfit
end Go.Proofs.YtjfbkeommlopmaaGreatDoor
namespace Go.Proofs.YtjfbkeommlopmaaGreatDoor
open Go.RowKit Go.Maps
set_option linter.unusedVariables false
set_option linter.unusedSimpArgs false
structure SV (α : Type) where
  a : Option Addr
  c : Nat
  D : List α
def SV.v {α : Type} (x : SV α) : Value := .slice x.a x.D.length x.c
def yS (α : Type) (T ST : TypeId) : Lay (SV α) := ⟨T, ST, 1, 24, fun x => [.slice x.a x.D.length x.c], ⟨none, 0, []⟩⟩
theorem kS {α : Type} {T ST : TypeId} (hu : Tryz.prog.underlying ST = some (.slice T)) (hi : (Tryz.prog.info? T).map (fun i => (i.zero, i.size, i.bytes)) = some (some (.slice none 0 0), 1, 24)) : (yS α T ST).Ok :=
  ⟨by show 0 < 1; omega, fun x => rfl, fun x u h => by simp [yS] at h; subst h; rfl, hu, ⟨.slice none 0 0, hi, rfl⟩⟩
theorem setc_ne {w : World} {b i j : Nat} {u x : Value} (h : w.cell? ⟨b, i, none⟩ = some x) (hne : i ≠ j) : (w.setCell ⟨b, j, none⟩ u).cell? ⟨b, i, none⟩ = some x := by
  have hn : j ≠ i := fun e => hne e.symm
  go_simp
theorem setc_eq {w : World} {b i : Nat} {u x : Value} (h : w.cell? ⟨b, i, none⟩ = some x) : (w.setCell ⟨b, i, none⟩ u).cell? ⟨b, i, none⟩ = some u := by
  go_simp
theorem setf {w : World} {b i j : Nat} {u : Value} (h : w.frozen? ⟨b, i, none⟩ = false) : (w.setCell ⟨b, j, none⟩ u).frozen? ⟨b, i, none⟩ = false := by
  go_simp
theorem gcell {w w' : World} {row : Option Nat} (h : w.grownBy w' row) {b i : Nat} {x : Value} (hc : w.cell? ⟨b, i, none⟩ = some x) (hne : row ≠ some b) : w'.cell? ⟨b, i, none⟩ = some x :=
  h.cell hc (fun e => hne e.symm)
theorem gfroz {w w' : World} {row : Option Nat} (h : w.grownBy w' row) {b i : Nat} (hb : b < w.heap.size) (hc : w.frozen? ⟨b, i, none⟩ = false) (hne : row ≠ some b) : w'.frozen? ⟨b, i, none⟩ = false :=
  (World.frozen?_of_block (w := w) (h.block b hb (fun e => hne e.symm))).trans hc
theorem gupd {w w' : World} {row : Option Nat} (h : w.grownBy w' row) {S : Nat → Prop} (hs : ∀ k, row = some k → S k) : Upd S w w' :=
  ⟨h.os, h.tape, h.output, h.size, fun k hk hn => h.block k hk (fun e => hn (hs k e.symm))⟩
variable {α β : Type} {Y : Lay α} {Z : Lay β}
theorem OwnY.grownZ {B B' : Nat} {w w' : World} {v v2 : Value} {D : List α} {L : List β} (h : OwnY Y B w v D) (hv : OwnY Z B' w v2 L) (hT : Y.T ≠ Z.T) (hg : w.grownBy w' v2.ownBlock) : OwnY Y B w' v D := by
  refine World.ownsRow.kept h hg ?_
  cases e : v.ownBlock with
  | none => exact .inl rfl
  | some k => exact .inr (fun e' => h.apart hv hT k e e'.symm)
theorem OwnY.grownN {B : Nat} {w w' : World} {v v2 : Value} {D : List α} (h : OwnY Y B w v D) (hg : w.grownBy w' v2.ownBlock) (hne : ∀ k, v.ownBlock = some k → v2.ownBlock = some k → False) : OwnY Y B w' v D := by
  refine World.ownsRow.kept h hg ?_
  cases e : v.ownBlock with
  | none => exact .inl rfl
  | some k => exact .inr (fun e' => hne k e e'.symm)
theorem OwnY.low_set {B : Nat} {w : World} {v : Value} {D : List α} (h : OwnY Y B w v D) {p : Addr} (hp : p.block < B) (u : Value) : OwnY Y B (w.setCell p u) v D := ownsRow_setCell_below h hp u
structure GY (Y : Lay α) (Z : Lay (SV α)) (p : Nat) (E : Nat → Value) (w : World) (b B : Nat) (va vb : Value) (La Lb : List (SV α)) : Prop where
  lt : b < B
  ltB : B ≤ w.heap.size
  ca : w.cell? ⟨b, p, none⟩ = some va
  cb : w.cell? ⟨b, p + 1, none⟩ = some vb
  fa : w.frozen? ⟨b, p, none⟩ = false
  fb : w.frozen? ⟨b, p + 1, none⟩ = false
  ce : ∀ i, i < 10 → i ≠ p → i ≠ p + 1 → w.cell? ⟨b, i, none⟩ = some (E i)
  oa : OwnY Z B w va La
  ob : OwnY Z B w vb Lb
  ne : ∀ k, va.ownBlock = some k → vb.ownBlock = some k → False
  da : ∀ x, x ∈ La → OwnY Y B w x.v x.D
  db : ∀ x, x ∈ Lb → OwnY Y B w x.v x.D
variable {Z : Lay (SV α)} {p : Nat} {E : Nat → Value}
theorem GY.bel {w w' : World} {b B : Nat} {va vb : Value} {La Lb : List (SV α)} (h : GY Y Z p E w b B va vb La Lb) (hb : Below w.heap.size w w') : GY Y Z p E w' b B va vb La Lb := by
  have hlt : b < w.heap.size := Nat.lt_of_lt_of_le h.lt h.ltB
  exact ⟨h.lt, Nat.le_trans h.ltB hb.size, (hb.cell (p := ⟨b, _, none⟩) hlt).trans h.ca, (hb.cell (p := ⟨b, _, none⟩) hlt).trans h.cb, (hb.frozen (p := ⟨b, _, none⟩) hlt).trans h.fa, (hb.frozen (p := ⟨b, _, none⟩) hlt).trans h.fb, fun i h0 h1 h2 => (hb.cell (p := ⟨b, _, none⟩) hlt).trans (h.ce i h0 h1 h2), h.oa.grow hb, h.ob.grow hb, h.ne, fun x hx => (h.da x hx).grow hb, fun x hx => (h.db x hx).grow hb⟩
theorem GY.new (Y : Lay α) (Z : Lay (SV α)) (p : Nat) (hp : p + 1 < 10) (w : World) (t : TypeId) : GY Y Z p (fun _ => .slice none 0 0) (w.alloc (.cells #[.slice none 0 0, .slice none 0 0, .slice none 0 0, .slice none 0 0, .slice none 0 0, .slice none 0 0, .slice none 0 0, .slice none 0 0, .slice none 0 0, .slice none 0 0] t)) w.heap.size (w.heap.size + 1) (.slice none 0 0) (.slice none 0 0) [] [] := by
  have hc : ∀ i, i < 10 → (w.alloc (.cells #[.slice none 0 0, .slice none 0 0, .slice none 0 0, .slice none 0 0, .slice none 0 0, .slice none 0 0, .slice none 0 0, .slice none 0 0, .slice none 0 0, .slice none 0 0] t)).cell? ⟨w.heap.size, i, none⟩ = some (.slice none 0 0) := by
    intro i hi
    rw [World.cell?_alloc_at _ _ _ _ rfl]
    rcases (by omega : i = 0 ∨ i = 1 ∨ i = 2 ∨ i = 3 ∨ i = 4 ∨ i = 5 ∨ i = 6 ∨ i = 7 ∨ i = 8 ∨ i = 9) with rfl | rfl | rfl | rfl | rfl | rfl | rfl | rfl | rfl | rfl <;> rfl
  exact ⟨Nat.lt_succ_self _, by simp, hc p (by omega), hc (p + 1) hp, by simp, by simp, fun i h0 _ _ => hc i h0, OwnY.nil _ _ _, OwnY.nil _ _ _, (fun k h => by cases h), (fun p hp => by cases hp), (fun p hp => by cases hp)⟩
theorem OwnY.front (K : Y.Ok) {w : World} {g n c k B : Nat} {D F : List α} (h : OwnY Y B w (.slice (some ⟨g, 0, none⟩) k c) (D ++ F)) (hn : D.length = n) : SlY Y w (some ⟨g, 0, none⟩) n c D := by
  have := (h.sl' K).take n (by have := (h.sl' K).len; rw [List.length_append] at this; omega)
  rw [List.take_append_of_le_length (by omega), List.take_of_length_le (by omega)] at this
  exact this
end Go.Proofs.YtjfbkeommlopmaaGreatDoor
namespace Go.Proofs.YtjfbkeommlopmaaGreatDoor
open Go.RowKit Go.Maps
open Classical
set_option linter.unusedVariables false
set_option linter.unusedSimpArgs false
structure En where
  c : Int
  n : Int
  o : Opn
def En.cs (e : En) : List Value := [.int .i64 e.c, .int .i64 e.n, .int .i64 e.o.k, .int .i64 e.o.s, .string e.o.v]
structure En.fits (e : En) : Prop where
  cw : (Lit.int .i64 e.c).wf = true
  nw : (Lit.int .i64 e.n).wf = true
  ow : e.o.fits
def yE : Lay En := ⟨28, 34, 5, 48, En.cs, ⟨0, 0, ⟨0, 0, ByteArray.empty⟩⟩⟩
theorem kE : yE.Ok := ⟨by decide, fun x => rfl, fun x u h => by
    simp [yE, En.cs] at h
    rcases h with rfl | rfl | rfl | rfl | rfl <;> rfl, Tryz.underlying34, ⟨.agg #[.int .i64 0, .int .i64 0, .int .i64 0, .int .i64 0, .string ByteArray.empty], by kernel_rfl, rfl⟩⟩
theorem SlY.en {w : World} {a : Option Addr} {n c : Nat} {L : List En} (h : SlY yE w a n c L) {j : Nat} {e : En} (he : L[j]? = some e) : ∃ q o, a = some ⟨q, o, none⟩ ∧ q < w.heap.size ∧ w.cell? ⟨q, o + j * 5, none⟩ = some (.int .i64 e.c) ∧ w.cell? ⟨q, o + j * 5 + 1, none⟩ = some (.int .i64 e.n) ∧ w.cell? ⟨q, o + j * 5 + 2, none⟩ = some (.int .i64 e.o.k) ∧ w.cell? ⟨q, o + j * 5 + 3, none⟩ = some (.int .i64 e.o.s) ∧ w.cell? ⟨q, o + j * 5 + 4, none⟩ = some (.string e.o.v) := by
  obtain ⟨q, o, ea, hq, hl⟩ := h.place (by rintro rfl; simp at he)
  exact ⟨q, o, ea, hq, hl j e he 0 _ rfl, hl j e he 1 _ rfl, hl j e he 2 _ rfl, hl j e he 3 _ rfl, hl j e he 4 _ rfl⟩
theorem sl_box {α : Type} {Y : Lay α} (w : World) (x : α) (T : TypeId) : SlY Y (w.alloc (.cells (Y.cs x).toArray T)) (some ⟨w.heap.size, 0, none⟩) 1 1 [x] :=
  ⟨rfl, Nat.le_refl _, by unfold maxLen; omega, (fun e => by cases e), fun y hy => by
    cases hy
    refine .inr ⟨w.heap.size, 0, rfl, by simp, fun i z hz j u hu => ?_⟩
    match i, hz with
    | 0, hz =>
      simp at hz
      subst hz
      rw [Nat.zero_mul, Nat.zero_add]
      rw [World.cell?_alloc_at _ _ _ _ rfl, List.getElem?_toArray]
      exact hu
    | i + 1, hz => simp at hz⟩
theorem OwnY.drew {α : Type} {Y : Lay α} {B : Nat} {w : World} {v : Value} {l : List α} (h : OwnY Y B w v l) : OwnY Y B w.drew v l := World.ownsRow.drew h
theorem SlY.drewN {α : Type} {Y : Lay α} {w : World} {a : Option Addr} {n c : Nat} {l : List α} (h : SlY Y w a n c l) (k : Nat) : SlY Y (w.drewN k) a n c l := h.later (belN (Below.refl _ w) k)
theorem sl_lit {α : Type} {Y : Lay α} (K : Y.Ok) (w : World) (l : List α) (T : TypeId) (hm : l.length ≤ maxLen) : SlY Y (w.alloc (.cells (fl Y l).toArray T)) (some ⟨w.heap.size, 0, none⟩) l.length l.length l :=
  ⟨rfl, Nat.le_refl _, hm, (fun e => by cases e), fun y hy => by
    cases hy
    refine .inr ⟨w.heap.size, 0, rfl, by simp, fun i z hz j u hu => ?_⟩
    rw [Nat.zero_add, World.cell?_alloc_at _ _ _ _ rfl, List.getElem?_toArray, fl_get K l i z hz j (by have := (List.getElem?_eq_some_iff.1 hu).1; rw [K.len] at this; exact this)]
    exact hu⟩
def zE : Lay (SV En) := yS En 34 41
theorem kzE : zE.Ok := kS Tryz.underlying41 (by kernel_rfl)
def mkE : En := ⟨-77, -88, ⟨0, 0, ByteArray.empty⟩⟩
set_option maxRecDepth 100000 in
theorem copyent_any (a : Option Addr) (n c : Nat) (D : List En) (w : World) (h : SlY yE w a n c D) (hb : n * 48 ≤ 140737488355328) :
    Calls Tryz.prog 73 #[.slice a n c] w fun e w' => ∃ v', e = .returned v' ∧ OwnY yE w.heap.size w' v' D ∧ Below w.heap.size w w' := by
  have H := hide h
  clear h
  go_enter Tryz.func73, Tryz.ntmps73
  go_wp2_with (at_builtin; go_must (refine appY kE _ rfl (.const (.slice none 0 0)) (.tmp 3) rfl w.heap.size [] _ rfl a n c rfl D H.out (OwnY.nil _ _ _) (Nat.le_refl _) (by unfold maxLen; simp; omega) (by show (0 + n) * 48 ≤ _; omega) ?_))
  intro v' w' h1 h3 _
  have hb : Below w.heap.size w w' := (Below.refl _ _).grown h3 (Nat.le_refl _) (fun k hk => by cases hk)
  go_wp2
  go_ret
  exact ⟨v', rfl, h1, hb⟩
set_option maxRecDepth 100000 in
theorem step_copyent {ops : Array Oper} {o : Oper} {a : Act} {w : World} {K : Act → World → Prop} {Q : Exit → Act → World → Prop} {E : Prop} (hg : o.guard = none) (x : Operand)
    (ho : o.op = .call { callee := .value (.func 73), args := #[x], argTypes := #[34] }) (ad : Option Addr) (n c : Nat) (hx : a.eval x = .slice ad n c) (D : List En) (h : SlY yE w ad n c D) (hm : n * 48 ≤ 140737488355328)
    (hK : ∀ v' w', OwnY yE w.heap.size w' v' D → Below w.heap.size w w' → K (a.put o.dst v') w') :
    if Region.wanted o (yielded ops a.tmps) = true then Oper.wp Tryz.prog o a w K Q else E := by
  have hw : Region.wanted o (yielded ops a.tmps) = true := by simp [Region.wanted, hg]
  rw [if_pos hw]
  have hr : (execOp a.eval o).run Tryz.prog w = .ok (.enter 73 #[.slice ad n c]) w := by
    unfold execOp
    simp only [ho, resolve, invoke, Sem.run_bind, List.map_toArray, List.map_cons, List.map_nil, hx]
    rfl
  unfold Oper.wp
  rw [hr, Oper.upon_enter]
  refine (copyent_any ad n c D w h hm).mono ?_
  rintro e w' ⟨v', rfl, h1, h2⟩
  exact hK v' w' h1 h2
theorem hTE : yE.T ≠ zE.T := by decide
def yD : Lay (Int × Int) := ⟨33, 36, 2, 16, fun d => [.int .u64 d.1, .int .u64 d.2], (0, 0)⟩
theorem kD : yD.Ok := ⟨by decide, fun x => rfl, fun x u h => by
    simp [yD] at h
    rcases h with rfl | rfl <;> rfl, Tryz.underlying36, ⟨.agg #[.int .u64 0, .int .u64 0], by kernel_rfl, rfl⟩⟩
def zD : Lay (SV (Int × Int)) := yS (Int × Int) 36 40
theorem kzD : zD.Ok := kS Tryz.underlying40 (by kernel_rfl)
def mkD : Int × Int := (77, 88)
theorem hTD : yD.T ≠ zD.T := by decide
theorem hED : yE.T ≠ zD.T := by decide
theorem hDE : yD.T ≠ zE.T := by decide
theorem hzz : zD.T ≠ zE.T := by decide
theorem SlY.dw {w : World} {a : Option Addr} {n c : Nat} {L : List (Int × Int)} (h : SlY yD w a n c L) {j : Nat} {e : Int × Int} (he : L[j]? = some e) : ∃ q o, a = some ⟨q, o, none⟩ ∧ q < w.heap.size ∧ w.cell? ⟨q, o + j * 2, none⟩ = some (.int .u64 e.1) ∧ w.cell? ⟨q, o + j * 2 + 1, none⟩ = some (.int .u64 e.2) := by
  obtain ⟨q, o, ea, hq, hl⟩ := h.place (by rintro rfl; simp at he)
  exact ⟨q, o, ea, hq, hl j e he 0 _ rfl, hl j e he 1 _ rfl⟩
set_option maxRecDepth 100000 in
theorem copyvecY (a : Option Addr) (n c : Nat) (D : List (Int × Int)) (w : World) (h : SlY yD w a n c D) (hb : n * 16 ≤ 140737488355328) :
    Calls Tryz.prog 74 #[.slice a n c] w fun e w' => ∃ v', e = .returned v' ∧ OwnY yD w.heap.size w' v' D ∧ Below w.heap.size w w' := by
  have H := hide h
  have hmx := h.max
  have hcp := h.cap
  clear h
  go_enter Tryz.func74, Tryz.ntmps74
  go_wp2_with (at_builtin; go_must (refine appY kD _ rfl (.const (.slice none 0 0)) (.tmp 3) rfl w.heap.size [] _ rfl a n c rfl D H.out (OwnY.nil _ _ _) (Nat.le_refl _) (by simp; omega) (by show (0 + n) * 16 ≤ _; omega) ?_))
  intro v' w' h1 h3 _
  have hb : Below w.heap.size w w' := (Below.refl _ _).grown h3 (Nat.le_refl _) (fun k hk => by cases hk)
  go_wp2
  go_ret
  exact ⟨v', rfl, h1, hb⟩
set_option maxRecDepth 100000 in
theorem step_copyvecY {ops : Array Oper} {o : Oper} {a : Act} {w : World} {K : Act → World → Prop} {Q : Exit → Act → World → Prop} {E : Prop} (hg : o.guard = none) (x : Operand)
    (ho : o.op = .call { callee := .value (.func 74), args := #[x], argTypes := #[36] }) (ad : Option Addr) (n c : Nat) (hx : a.eval x = .slice ad n c) (D : List (Int × Int)) (h : SlY yD w ad n c D) (hm : n * 16 ≤ 140737488355328)
    (hK : ∀ v' w', OwnY yD w.heap.size w' v' D → Below w.heap.size w w' → K (a.put o.dst v') w') :
    if Region.wanted o (yielded ops a.tmps) = true then Oper.wp Tryz.prog o a w K Q else E := by
  have hw : Region.wanted o (yielded ops a.tmps) = true := by simp [Region.wanted, hg]
  rw [if_pos hw]
  have hr : (execOp a.eval o).run Tryz.prog w = .ok (.enter 74 #[.slice ad n c]) w := by
    unfold execOp
    simp only [ho, resolve, invoke, Sem.run_bind, List.map_toArray, List.map_cons, List.map_nil, hx]
    rfl
  unfold Oper.wp
  rw [hr, Oper.upon_enter]
  refine (copyvecY ad n c D w h hm).mono ?_
  rintro e w' ⟨v', rfl, h1, h2⟩
  exact hK v' w' h1 h2
theorem take_snoc {α : Type} {l : List α} {k : Nat} {x : α} (h : l[k]? = some x) : l.take (k + 1) = l.take k ++ [x] := by
  rw [List.take_add_one, h]; rfl
theorem ne_of_at {α : Type} {A B : List α} {k : Nat} {x y : α} (h1 : A[k]? = some x) (h2 : B[k]? = some y) (h : x ≠ y) : A ≠ B := by
  rintro rfl
  rw [h1] at h2
  exact h (Option.some.inj h2)
theorem take_all {α : Type} {A B : List α} {k : Nat} (h1 : A.length = k) (h2 : B.length = k) (h : A.take k = B.take k) : A = B := by
  rw [List.take_of_length_le (by omega), List.take_of_length_le (by omega)] at h
  exact h
theorem take_step {α : Type} {A B : List α} {k : Nat} {x : α} (h1 : A[k]? = some x) (h2 : B[k]? = some x) (h : A.take k = B.take k) : A.take (k + 1) = B.take (k + 1) := by
  rw [take_snoc h1, take_snoc h2, h]
set_option maxRecDepth 100000 in
set_option maxHeartbeats 2000000 in
theorem sameentsB (A B : List En) (a1 a2 : Option Addr) (n1 n2 c1 c2 : Nat) (w : World) (h1 : SlY yE w a1 n1 c1 A) (h2 : SlY yE w a2 n2 c2 B) :
    Calls Tryz.prog 41 #[.slice a1 n1 c1, .slice a2 n2 c2] w fun e w' => e = .returned (.bool (decide (A = B))) ∧ ∃ k, w' = w.drewN k := by
  have m1 := h1.max
  have m2 := h2.max
  have k1 := h1.cap
  have k2 := h2.cap
  unfold maxLen at m1 m2
  have L1 := hide h1.len
  have L2 := hide h2.len
  have H1 := hide h1
  have H2 := hide h2
  clear h1 h2
  by_cases hl : n1 = n2
  · subst hl
    go_enter Tryz.func41, Tryz.ntmps41
    go_wp2
    go_loopw [5] (fun i wr => ∃ (k j : Nat), i = .int .i64 (k : Int) ∧ k ≤ n1 ∧ A.take k = B.take k ∧ wr = w.drewN j) (fun i _ => n1 - (intOf i).toNat)
    case atStart => exact ⟨0, 0, rfl, Nat.zero_le _, rfl, rfl⟩
    case round =>
      obtain ⟨k, j, rfl, hk, hsame, rfl⟩ := hrel
      have HS := hide hsame
      clear hsame
      by_cases hlt : k < n1
      · obtain ⟨d1, hd1⟩ : ∃ d, A[k]? = some d := ⟨_, List.getElem?_eq_getElem (by rw [L1.out]; exact hlt)⟩
        obtain ⟨d2, hd2⟩ : ∃ d, B[k]? = some d := ⟨_, List.getElem?_eq_getElem (by rw [L2.out]; exact hlt)⟩
        have NS := hide (ne_of_at hd1 hd2)
        have HN := hide (fun (e : d1 = d2) => take_step hd1 (by rw [e]; exact hd2) HS.out)
        obtain ⟨q1, o1, rfl, _, e0, e1, e2, e3, e4⟩ := H1.out.en hd1
        obtain ⟨q2, o2, rfl, _, f0, f1, f2, f3, f4⟩ := H2.out.en hd2
        obtain ⟨C, N, ⟨ok, os, ov⟩⟩ := d1
        obtain ⟨C', N', ⟨ok', os', ov'⟩⟩ := d2
        dsimp only at e0 e1 e2 e3 e4 f0 f1 f2 f3 f4
        clear H1 H2 HS hd1 hd2
        by_cases ff : (⟨C, N, ⟨ok, os, ov⟩⟩ : En) = ⟨C', N', ⟨ok', os', ov'⟩⟩
        · have HS2 := hide (HN.out ff)
          cases ff
          clear HN NS
          go_wp2
          go_quiet (fail)
          go_wp2
          go_round
          case rel => exact ⟨k + 1, _, by go_num, by omega, HS2.out, rfl⟩
          case measure => simp [intOf]; omega
        · have NE := hide (decide_eq_false (NS.out ff))
          clear NS HN
          by_cases g_C : C = C'
          · subst g_C
            by_cases g_N : N = N'
            · subst g_N
              by_cases g_ok : ok = ok'
              · subst g_ok
                by_cases g_os : os = os'
                · subst g_os
                  by_cases g_ov : ov = ov'
                  · subst g_ov
                    exact absurd rfl ff
                  · have g2 : ¬ ov.toList = ov'.toList := fun e => g_ov ((bytes_inj _ _).1 e)
                    go_wp2
                    go_quiet (fail)
                    go_wp2
                    go_ret
                    exact ⟨by rw [NE.out]; rfl, j + nq, by simp⟩
                · go_wp2
                  go_quiet (fail)
                  go_wp2
                  go_ret
                  exact ⟨by rw [NE.out]; rfl, j + nq, by simp⟩
              · go_wp2
                go_quiet (fail)
                go_wp2
                go_ret
                exact ⟨by rw [NE.out]; rfl, j + nq, by simp⟩
            · go_wp2
              go_quiet (fail)
              go_wp2
              go_ret
              exact ⟨by rw [NE.out]; rfl, j + nq, by simp⟩
          · go_wp2
            go_quiet (fail)
            go_wp2
            go_ret
            exact ⟨by rw [NE.out]; rfl, j + nq, by simp⟩
      · obtain rfl : k = n1 := by omega
        have HE := hide (decide_eq_true (take_all L1.out L2.out HS.out))
        clear HS H1 H2
        go_wp2
        go_ret
        exact ⟨by rw [HE.out]; rfl, _, rfl⟩
  · have hl' : ¬ (n1 : Int) = (n2 : Int) := by omega
    have HE : Hid (decide (A = B) = false) := decide_eq_false (by rintro rfl; exact hl (L1.out.symm.trans L2.out))
    clear H1 H2
    go_enter Tryz.func41, Tryz.ntmps41
    go_wp2
    go_ret
    exact ⟨by rw [HE.out]; rfl, 0, rfl⟩
set_option maxRecDepth 100000 in
set_option maxHeartbeats 2000000 in
theorem samevecB (A B : List (Int × Int)) (a1 a2 : Option Addr) (n1 n2 c1 c2 : Nat) (w : World) (h1 : SlY yD w a1 n1 c1 A) (h2 : SlY yD w a2 n2 c2 B) :
    Calls Tryz.prog 40 #[.slice a1 n1 c1, .slice a2 n2 c2] w fun e w' => e = .returned (.bool (decide (A = B))) ∧ ∃ k, w' = w.drewN k := by
  have m1 := h1.max
  have m2 := h2.max
  have k1 := h1.cap
  have k2 := h2.cap
  unfold maxLen at m1 m2
  have L1 := hide h1.len
  have L2 := hide h2.len
  have H1 := hide h1
  have H2 := hide h2
  clear h1 h2
  by_cases hl : n1 = n2
  · subst hl
    go_enter Tryz.func40, Tryz.ntmps40
    go_wp2
    go_loopw [5] (fun i wr => ∃ (k j : Nat), i = .int .i64 (k : Int) ∧ k ≤ n1 ∧ A.take k = B.take k ∧ wr = w.drewN j) (fun i _ => n1 - (intOf i).toNat)
    case atStart => exact ⟨0, 0, rfl, Nat.zero_le _, rfl, rfl⟩
    case round =>
      obtain ⟨k, j, rfl, hk, hsame, rfl⟩ := hrel
      have HS := hide hsame
      clear hsame
      by_cases hlt : k < n1
      · obtain ⟨d1, hd1⟩ : ∃ d, A[k]? = some d := ⟨_, List.getElem?_eq_getElem (by rw [L1.out]; exact hlt)⟩
        obtain ⟨d2, hd2⟩ : ∃ d, B[k]? = some d := ⟨_, List.getElem?_eq_getElem (by rw [L2.out]; exact hlt)⟩
        have NS := hide (ne_of_at hd1 hd2)
        have HN := hide (fun (e : d1 = d2) => take_step hd1 (by rw [e]; exact hd2) HS.out)
        obtain ⟨q1, o1, rfl, _, e0, e1⟩ := H1.out.dw hd1
        obtain ⟨q2, o2, rfl, _, f0, f1⟩ := H2.out.dw hd2
        obtain ⟨X, Y⟩ := d1
        obtain ⟨X', Y'⟩ := d2
        dsimp only at e0 e1 f0 f1
        clear H1 H2 HS hd1 hd2
        by_cases ff : (X, Y) = (X', Y')
        · have HS2 := hide (HN.out ff)
          cases ff
          clear HN NS
          go_wp2
          go_quiet (fail)
          go_wp2
          go_round
          case rel => exact ⟨k + 1, _, by go_num, by omega, HS2.out, rfl⟩
          case measure => simp [intOf]; omega
        · have NE := hide (decide_eq_false (NS.out ff))
          clear NS HN
          by_cases g_X : X = X'
          · subst g_X
            by_cases g_Y : Y = Y'
            · subst g_Y
              exact absurd rfl ff
            · go_wp2
              go_quiet (fail)
              go_wp2
              go_ret
              exact ⟨by rw [NE.out]; rfl, j + nq, by simp⟩
          · go_wp2
            go_quiet (fail)
            go_wp2
            go_ret
            exact ⟨by rw [NE.out]; rfl, j + nq, by simp⟩
      · obtain rfl : k = n1 := by omega
        have HE := hide (decide_eq_true (take_all L1.out L2.out HS.out))
        clear HS H1 H2
        go_wp2
        go_ret
        exact ⟨by rw [HE.out]; rfl, _, rfl⟩
  · have hl' : ¬ (n1 : Int) = (n2 : Int) := by omega
    have HE : Hid (decide (A = B) = false) := decide_eq_false (by rintro rfl; exact hl (L1.out.symm.trans L2.out))
    clear H1 H2
    go_enter Tryz.func40, Tryz.ntmps40
    go_wp2
    go_ret
    exact ⟨by rw [HE.out]; rfl, 0, rfl⟩
structure GM (w : World) (b B : Nat) (v2 v3 v4 v5 : Value) (Da Db : List (SV (Int × Int))) (La Lb : List (SV En)) : Prop where
  lt : b < B
  ltB : B ≤ w.heap.size
  c2 : w.cell? ⟨b, 2, none⟩ = some v2
  c3 : w.cell? ⟨b, 3, none⟩ = some v3
  c4 : w.cell? ⟨b, 4, none⟩ = some v4
  c5 : w.cell? ⟨b, 5, none⟩ = some v5
  f : ∀ i, w.frozen? ⟨b, i, none⟩ = false
  ce : ∀ i, i < 10 → (i < 2 ∨ 5 < i) → w.cell? ⟨b, i, none⟩ = some (.slice none 0 0)
  o2 : OwnY zD B w v2 Da
  o3 : OwnY zD B w v3 Db
  o4 : OwnY zE B w v4 La
  o5 : OwnY zE B w v5 Lb
  ne2 : ∀ k, v2.ownBlock = some k → v3.ownBlock = some k → False
  ne4 : ∀ k, v4.ownBlock = some k → v5.ownBlock = some k → False
  m2 : ∀ x, x ∈ Da → OwnY yD B w x.v x.D
  m3 : ∀ x, x ∈ Db → OwnY yD B w x.v x.D
  m4 : ∀ x, x ∈ La → OwnY yE B w x.v x.D
  m5 : ∀ x, x ∈ Lb → OwnY yE B w x.v x.D
theorem GM.bel {w w' : World} {b B : Nat} {v2 v3 v4 v5 : Value} {Da Db : List (SV (Int × Int))} {La Lb : List (SV En)} (h : GM w b B v2 v3 v4 v5 Da Db La Lb) (hb : Below w.heap.size w w') : GM w' b B v2 v3 v4 v5 Da Db La Lb := by
  have hlt : b < w.heap.size := Nat.lt_of_lt_of_le h.lt h.ltB
  exact ⟨h.lt, Nat.le_trans h.ltB hb.size, (hb.cell (p := ⟨b, _, none⟩) hlt).trans h.c2, (hb.cell (p := ⟨b, _, none⟩) hlt).trans h.c3, (hb.cell (p := ⟨b, _, none⟩) hlt).trans h.c4, (hb.cell (p := ⟨b, _, none⟩) hlt).trans h.c5, fun i => (hb.frozen (p := ⟨b, _, none⟩) hlt).trans (h.f i), fun i h0 h1 => (hb.cell (p := ⟨b, _, none⟩) hlt).trans (h.ce i h0 h1), h.o2.grow hb, h.o3.grow hb, h.o4.grow hb, h.o5.grow hb, h.ne2, h.ne4, fun x hx => (h.m2 x hx).grow hb, fun x hx => (h.m3 x hx).grow hb, fun x hx => (h.m4 x hx).grow hb, fun x hx => (h.m5 x hx).grow hb⟩
theorem GM.new (w : World) (t : TypeId) : GM (w.alloc (.cells #[.slice none 0 0, .slice none 0 0, .slice none 0 0, .slice none 0 0, .slice none 0 0, .slice none 0 0, .slice none 0 0, .slice none 0 0, .slice none 0 0, .slice none 0 0] t)) w.heap.size (w.heap.size + 1) (.slice none 0 0) (.slice none 0 0) (.slice none 0 0) (.slice none 0 0) [] [] [] [] := by
  have hc : ∀ i, i < 10 → (w.alloc (.cells #[.slice none 0 0, .slice none 0 0, .slice none 0 0, .slice none 0 0, .slice none 0 0, .slice none 0 0, .slice none 0 0, .slice none 0 0, .slice none 0 0, .slice none 0 0] t)).cell? ⟨w.heap.size, i, none⟩ = some (.slice none 0 0) := by
    intro i hi
    rw [World.cell?_alloc_at _ _ _ _ rfl]
    rcases (by omega : i = 0 ∨ i = 1 ∨ i = 2 ∨ i = 3 ∨ i = 4 ∨ i = 5 ∨ i = 6 ∨ i = 7 ∨ i = 8 ∨ i = 9) with rfl | rfl | rfl | rfl | rfl | rfl | rfl | rfl | rfl | rfl <;> rfl
  exact ⟨Nat.lt_succ_self _, by simp, hc 2 (by omega), hc 3 (by omega), hc 4 (by omega), hc 5 (by omega), fun i => by simp, fun i h0 _ => hc i h0, OwnY.nil _ _ _, OwnY.nil _ _ _, OwnY.nil _ _ _, OwnY.nil _ _ _, (fun k h => by cases h), (fun k h => by cases h), (fun p hp => by cases hp), (fun p hp => by cases hp), (fun p hp => by cases hp), (fun p hp => by cases hp)⟩
theorem GM.pushDa {w w3 : World} {b B : Nat} {v2 v3 v4 v5 v' : Value} {Da Db : List (SV (Int × Int))} {La Lb : List (SV En)} {x : SV (Int × Int)} (G : GM w b B v2 v3 v4 v5 Da Db La Lb) (hx : OwnY yD B w x.v x.D) (g3 : w.grownBy w3 v2.ownBlock) (o3 : OwnY zD B w3 v' (Da ++ [x])) (n3 : v'.ownBlock = v2.ownBlock ∨ ∃ k, v'.ownBlock = some k ∧ w.heap.size ≤ k) :
    GM (w3.setCell ⟨b, 2, none⟩ v') b B v' v3 v4 v5 (Da ++ [x]) Db La Lb := by
  have hlt : b < w.heap.size := Nat.lt_of_lt_of_le G.lt G.ltB
  have hrow : v2.ownBlock ≠ some b := fun e => by have := (G.o2.blk b e).1; have := G.lt; omega
  have ob : (⟨b, 2, none⟩ : Addr).block < B := G.lt
  refine ⟨G.lt, by simpa [World.setCell] using Nat.le_trans G.ltB g3.size, setc_eq (gcell g3 G.c2 hrow), setc_ne (gcell g3 G.c3 hrow) (by omega), setc_ne (gcell g3 G.c4 hrow) (by omega), setc_ne (gcell g3 G.c5 hrow) (by omega), fun i => setf (gfroz g3 hlt (G.f i) hrow), fun i h0 h1 => setc_ne (gcell g3 (G.ce i h0 h1) hrow) (by omega), o3.low_set ob _, (OwnY.grownN G.o3 g3 (fun k e e' => G.ne2 k e' e)).low_set ob _, (OwnY.grownZ G.o4 G.o2 hzz.symm g3).low_set ob _, (OwnY.grownZ G.o5 G.o2 hzz.symm g3).low_set ob _, ?_, G.ne4, ?_, fun y hy => ((G.m3 y hy).grownZ G.o2 hTD g3).low_set ob _, fun y hy => ((G.m4 y hy).grownZ G.o2 hED g3).low_set ob _, fun y hy => ((G.m5 y hy).grownZ G.o2 hED g3).low_set ob _⟩
  · intro k e e'
    rcases n3 with n3 | ⟨k', hk, hk2⟩
    · exact G.ne2 k (n3.symm.trans e) e'
    · rw [hk] at e
      cases e
      have := (G.o3.blk k e').2
      omega
  · intro y hy
    rcases List.mem_append.1 hy with hy | hy
    · exact ((G.m2 y hy).grownZ G.o2 hTD g3).low_set ob _
    · simp at hy
      subst hy
      exact (hx.grownZ G.o2 hTD g3).low_set ob _
theorem GM.pushDb {w w3 : World} {b B : Nat} {v2 v3 v4 v5 v' : Value} {Da Db : List (SV (Int × Int))} {La Lb : List (SV En)} {x : SV (Int × Int)} (G : GM w b B v2 v3 v4 v5 Da Db La Lb) (hx : OwnY yD B w x.v x.D) (g3 : w.grownBy w3 v3.ownBlock) (o3 : OwnY zD B w3 v' (Db ++ [x])) (n3 : v'.ownBlock = v3.ownBlock ∨ ∃ k, v'.ownBlock = some k ∧ w.heap.size ≤ k) :
    GM (w3.setCell ⟨b, 3, none⟩ v') b B v2 v' v4 v5 Da (Db ++ [x]) La Lb := by
  have hlt : b < w.heap.size := Nat.lt_of_lt_of_le G.lt G.ltB
  have hrow : v3.ownBlock ≠ some b := fun e => by have := (G.o3.blk b e).1; have := G.lt; omega
  have ob : (⟨b, 3, none⟩ : Addr).block < B := G.lt
  refine ⟨G.lt, by simpa [World.setCell] using Nat.le_trans G.ltB g3.size, setc_ne (gcell g3 G.c2 hrow) (by omega), setc_eq (gcell g3 G.c3 hrow), setc_ne (gcell g3 G.c4 hrow) (by omega), setc_ne (gcell g3 G.c5 hrow) (by omega), fun i => setf (gfroz g3 hlt (G.f i) hrow), fun i h0 h1 => setc_ne (gcell g3 (G.ce i h0 h1) hrow) (by omega), (OwnY.grownN G.o2 g3 (fun k e e' => G.ne2 k e e')).low_set ob _, o3.low_set ob _, (OwnY.grownZ G.o4 G.o3 hzz.symm g3).low_set ob _, (OwnY.grownZ G.o5 G.o3 hzz.symm g3).low_set ob _, ?_, G.ne4, fun y hy => ((G.m2 y hy).grownZ G.o3 hTD g3).low_set ob _, ?_, fun y hy => ((G.m4 y hy).grownZ G.o3 hED g3).low_set ob _, fun y hy => ((G.m5 y hy).grownZ G.o3 hED g3).low_set ob _⟩
  · intro k e e'
    rcases n3 with n3 | ⟨k', hk, hk2⟩
    · exact G.ne2 k e (n3.symm.trans e')
    · rw [hk] at e'
      cases e'
      have := (G.o2.blk k e).2
      omega
  · intro y hy
    rcases List.mem_append.1 hy with hy | hy
    · exact ((G.m3 y hy).grownZ G.o3 hTD g3).low_set ob _
    · simp at hy
      subst hy
      exact (hx.grownZ G.o3 hTD g3).low_set ob _
theorem GM.pushLa {w w3 : World} {b B : Nat} {v2 v3 v4 v5 v' : Value} {Da Db : List (SV (Int × Int))} {La Lb : List (SV En)} {x : SV En} (G : GM w b B v2 v3 v4 v5 Da Db La Lb) (hx : OwnY yE B w x.v x.D) (g3 : w.grownBy w3 v4.ownBlock) (o3 : OwnY zE B w3 v' (La ++ [x])) (n3 : v'.ownBlock = v4.ownBlock ∨ ∃ k, v'.ownBlock = some k ∧ w.heap.size ≤ k) :
    GM (w3.setCell ⟨b, 4, none⟩ v') b B v2 v3 v' v5 Da Db (La ++ [x]) Lb := by
  have hlt : b < w.heap.size := Nat.lt_of_lt_of_le G.lt G.ltB
  have hrow : v4.ownBlock ≠ some b := fun e => by have := (G.o4.blk b e).1; have := G.lt; omega
  have ob : (⟨b, 4, none⟩ : Addr).block < B := G.lt
  refine ⟨G.lt, by simpa [World.setCell] using Nat.le_trans G.ltB g3.size, setc_ne (gcell g3 G.c2 hrow) (by omega), setc_ne (gcell g3 G.c3 hrow) (by omega), setc_eq (gcell g3 G.c4 hrow), setc_ne (gcell g3 G.c5 hrow) (by omega), fun i => setf (gfroz g3 hlt (G.f i) hrow), fun i h0 h1 => setc_ne (gcell g3 (G.ce i h0 h1) hrow) (by omega), (OwnY.grownZ G.o2 G.o4 hzz g3).low_set ob _, (OwnY.grownZ G.o3 G.o4 hzz g3).low_set ob _, o3.low_set ob _, (OwnY.grownN G.o5 g3 (fun k e e' => G.ne4 k e' e)).low_set ob _, G.ne2, ?_, fun y hy => ((G.m2 y hy).grownZ G.o4 hDE g3).low_set ob _, fun y hy => ((G.m3 y hy).grownZ G.o4 hDE g3).low_set ob _, ?_, fun y hy => ((G.m5 y hy).grownZ G.o4 hTE g3).low_set ob _⟩
  · intro k e e'
    rcases n3 with n3 | ⟨k', hk, hk2⟩
    · exact G.ne4 k (n3.symm.trans e) e'
    · rw [hk] at e
      cases e
      have := (G.o5.blk k e').2
      omega
  · intro y hy
    rcases List.mem_append.1 hy with hy | hy
    · exact ((G.m4 y hy).grownZ G.o4 hTE g3).low_set ob _
    · simp at hy
      subst hy
      exact (hx.grownZ G.o4 hTE g3).low_set ob _
theorem GM.pushLb {w w3 : World} {b B : Nat} {v2 v3 v4 v5 v' : Value} {Da Db : List (SV (Int × Int))} {La Lb : List (SV En)} {x : SV En} (G : GM w b B v2 v3 v4 v5 Da Db La Lb) (hx : OwnY yE B w x.v x.D) (g3 : w.grownBy w3 v5.ownBlock) (o3 : OwnY zE B w3 v' (Lb ++ [x])) (n3 : v'.ownBlock = v5.ownBlock ∨ ∃ k, v'.ownBlock = some k ∧ w.heap.size ≤ k) :
    GM (w3.setCell ⟨b, 5, none⟩ v') b B v2 v3 v4 v' Da Db La (Lb ++ [x]) := by
  have hlt : b < w.heap.size := Nat.lt_of_lt_of_le G.lt G.ltB
  have hrow : v5.ownBlock ≠ some b := fun e => by have := (G.o5.blk b e).1; have := G.lt; omega
  have ob : (⟨b, 5, none⟩ : Addr).block < B := G.lt
  refine ⟨G.lt, by simpa [World.setCell] using Nat.le_trans G.ltB g3.size, setc_ne (gcell g3 G.c2 hrow) (by omega), setc_ne (gcell g3 G.c3 hrow) (by omega), setc_ne (gcell g3 G.c4 hrow) (by omega), setc_eq (gcell g3 G.c5 hrow), fun i => setf (gfroz g3 hlt (G.f i) hrow), fun i h0 h1 => setc_ne (gcell g3 (G.ce i h0 h1) hrow) (by omega), (OwnY.grownZ G.o2 G.o5 hzz g3).low_set ob _, (OwnY.grownZ G.o3 G.o5 hzz g3).low_set ob _, (OwnY.grownN G.o4 g3 (fun k e e' => G.ne4 k e e')).low_set ob _, o3.low_set ob _, G.ne2, ?_, fun y hy => ((G.m2 y hy).grownZ G.o5 hDE g3).low_set ob _, fun y hy => ((G.m3 y hy).grownZ G.o5 hDE g3).low_set ob _, fun y hy => ((G.m4 y hy).grownZ G.o5 hTE g3).low_set ob _, ?_⟩
  · intro k e e'
    rcases n3 with n3 | ⟨k', hk, hk2⟩
    · exact G.ne4 k e (n3.symm.trans e')
    · rw [hk] at e'
      cases e'
      have := (G.o4.blk k e).2
      omega
  · intro y hy
    rcases List.mem_append.1 hy with hy | hy
    · exact ((G.m5 y hy).grownZ G.o5 hTE g3).low_set ob _
    · simp at hy
      subst hy
      exact (hx.grownZ G.o5 hTE g3).low_set ob _
set_option maxRecDepth 100000 in
set_option maxHeartbeats 2000000 in
theorem given_entM (b B : Nat) (v2 v3 va vb : Value) (Da Db : List (SV (Int × Int))) (La Lb : List (SV En)) (a : Option Addr) (n c : Nat) (D : List En) (w : World) (G : GM w b B v2 v3 va vb Da Db La Lb) (h : SlY yE w a n c D) (hm : n * 48 ≤ 140737488351232) (hP : (La.length + 1) * 24 ≤ 140737488355328) (hP3 : Lb.length = La.length) :
    Calls Tryz.prog 32 #[.pointer (some ⟨b, 0, none⟩), .slice a n c] w fun e w' => ∃ g c' va' vb' g5 k5, e = .returned (.slice (some ⟨g, 0, none⟩) n c') ∧ SlY yE w' (some ⟨g, 0, none⟩) n c' D ∧ w.heap.size ≤ g ∧ GM w' b B v2 v3 va' vb' Da Db (La ++ [⟨some ⟨g, 0, none⟩, c', D ++ [mkE]⟩]) (Lb ++ [⟨some ⟨g5, 0, none⟩, k5, D ++ [mkE]⟩]) ∧ Upd (fun k => k = b ∨ va.ownBlock = some k ∨ vb.ownBlock = some k) w w' ∧ (va'.ownBlock = va.ownBlock ∨ ∃ k, va'.ownBlock = some k ∧ w.heap.size ≤ k) ∧ (vb'.ownBlock = vb.ownBlock ∨ ∃ k, vb'.ownBlock = some k ∧ w.heap.size ≤ k) := by
  have HD := hide h.len
  have HS := hide h
  have hbw : b < w.heap.size := Nat.lt_of_lt_of_le G.lt G.ltB
  have HG := hide G
  clear h G
  go_enter Tryz.func32, Tryz.ntmps32
  go_wp2_with fail
  refine (copyent_any a n c D w HS.out (by omega)).mono ?_
  rintro e w1 ⟨v1, rfl, o1, b1⟩
  have z1 := b1.size
  have SB := hide (sl_box (Y := yE) w1 mkE 28)
  go_wp2_with (at_builtin; go_must (refine appY kE _ rfl (.tmp 7) (.tmp 9) rfl w.heap.size D v1 rfl (some ⟨w1.heap.size, 0, none⟩) 1 1 rfl [mkE] SB.out (o1.alloc _) (by simp; omega) (by rw [HD.out]; unfold maxLen; omega) (by show (_ + 1) * 48 ≤ _; rw [HD.out]; omega) ?_))
  intro v5 w2 o2 g2 _
  have b2 : Below w.heap.size w w2 := (o1.alloc _).grown (b1.alloc z1 _) g2 (by simp; omega)
  have z2 := b2.size
  obtain ⟨a5, k, hv, k1, k2, k3, k4⟩ := o2.form
  obtain ⟨g, rfl⟩ : ∃ g, a5 = some ⟨g, 0, none⟩ := by
    cases a5 with
    | none => exact absurd (k3 rfl).1 (by simp)
    | some z => obtain ⟨g, rfl, _⟩ := k4 z rfl; exact ⟨g, rfl⟩
  obtain ⟨g', eg, hgB, hgs⟩ := k4 _ rfl
  cases eg
  have HLN : Hid ((D ++ [mkE]).length = n + 1) := by show _ = _; rw [List.length_append, HD.out]; rfl
  rw [HLN.out] at hv k1
  subst hv
  have X2 := hide (o2.low (Nat.le_trans HG.out.ltB (Nat.le_refl _)))
  have G2 := hide (HG.out.bel b2)
  clear o1 b1 g2 k3 k4 o2 z1 SB
  have d2 := G2.out.c4
  have hb2 : b < w2.heap.size := by omega
  have y2 : ∀ ob, (w2.alloc ob).cell? ⟨b, 4, none⟩ = some va := fun ob => (World.cell?_alloc_past _ _ _ hb2).trans d2
  have ba : Below w2.heap.size w2 (w2.alloc (.cells #[.slice (some ⟨g, 0, none⟩) (n + 1) k] 34)) := (Below.refl _ _).alloc (Nat.le_refl _) _
  have GA := hide (G2.out.bel ba)
  have XA : Hid (OwnY yE B (w2.alloc (.cells #[.slice (some ⟨g, 0, none⟩) (n + 1) k] 34)) (.slice (some ⟨g, 0, none⟩) (D ++ [mkE]).length k) (D ++ [mkE])) := by
    show OwnY _ _ _ _ _
    rw [HLN.out]
    exact X2.out.grow ba
  have UA : Upd (fun k => k = b ∨ va.ownBlock = some k ∨ vb.ownBlock = some k) w (w2.alloc (.cells #[.slice (some ⟨g, 0, none⟩) (n + 1) k] 34)) := (Upd.of_below b2).trans (Upd.of_below ba)
  have UH := hide UA
  have SB : Hid (SlY zE (w2.alloc (.cells #[.slice (some ⟨g, 0, none⟩) (n + 1) k] 34)) (some ⟨w2.heap.size, 0, none⟩) 1 1 [⟨some ⟨g, 0, none⟩, k, D ++ [mkE]⟩]) := by
    have := sl_box (Y := zE) w2 ⟨some ⟨g, 0, none⟩, k, D ++ [mkE]⟩ 34
    simp only [zE, yS, HLN.out] at this
    exact this
  clear UA ba
  go_wp2_with (at_builtin; go_must (refine appY kzE _ rfl (.tmp 15) (.tmp 17) rfl B La va rfl (some ⟨w2.heap.size, 0, none⟩) 1 1 rfl [⟨some ⟨g, 0, none⟩, k, D ++ [mkE]⟩] SB.out GA.out.o4 (by have := HG.out.ltB; simp; omega) (by unfold maxLen; omega) hP ?_))
  intro va' w3 o3 g3 n3
  have zc := gcell g3 GA.out.c4 (fun e => by have := (GA.out.o4.blk b e).1; have := HG.out.lt; omega)
  have zf := gfroz g3 (by simp; omega) (GA.out.f 4) (fun e => by have := (GA.out.o4.blk b e).1; have := HG.out.lt; omega)
  have G4 := hide (GM.pushLa (x := ⟨some ⟨g, 0, none⟩, k, D ++ [mkE]⟩) GA.out XA.out g3 o3 (n3.imp id (fun ⟨k', h1, h2⟩ => ⟨k', h1, by simpa using h2⟩)))
  obtain ⟨r2, q2, hv2, _⟩ := o3.form
  have U4 : Hid (Upd (fun k => k = b ∨ va.ownBlock = some k ∨ vb.ownBlock = some k) w (w3.setCell ⟨b, 4, none⟩ va')) := (UH.out.trans (gupd g3 (fun k e => .inr (.inl e)))).setCell (.inl (.inl rfl)) _
  have N2 : Hid (va'.ownBlock = va.ownBlock ∨ ∃ k, va'.ownBlock = some k ∧ w.heap.size ≤ k) := n3.imp id (fun ⟨k', h1, h2⟩ => ⟨k', h1, by first | omega | (simp at h2; omega)⟩)
  clear GA XA UH G2 X2 y2 d2 o3 g3 n3 HS SB
  generalize (La ++ [(⟨some ⟨g, 0, none⟩, k, D ++ [mkE]⟩ : SV En)]).length = l2 at hv2
  subst hv2
  go_wp2_with fail
  clear zc zf
  generalize w3.setCell ⟨b, 4, none⟩ (.slice r2 l2 q2) = W at *
  have j3 := G4.out.c5
  have jz : b < W.heap.size := Nat.lt_of_lt_of_le G4.out.lt G4.out.ltB
  have XW : Hid (SlY yE W (some ⟨g, 0, none⟩) (n + 1) k (D ++ [mkE])) := by
    have := (G4.out.m4 ⟨some ⟨g, 0, none⟩, k, D ++ [mkE]⟩ (by simp)).sl' kE
    simp only [HLN.out] at this
    exact this
  have LT3 : Hid ((Lb.length + 1) * 24 ≤ 140737488355328) := by show _ ≤ _; rw [hP3]; exact hP
  go_region_law (first
    | (refine stepY kzE rfl (.tmp 25) (.tmp 28) rfl B Lb vb rfl (some ⟨w5.heap.size, 0, none⟩) 1 1 rfl [⟨some ⟨g5, 0, none⟩, k5, D ++ [mkE]⟩] SB5.out GB.out.o5 GB.out.ltB (by have := LT3.out; unfold maxLen; omega) LT3.out ?_; intro v6 w6 o6 g6 n6; have qc := gcell g6 GB.out.c5 (fun e => by have := (GB.out.o5.blk b e).1; have := GB.out.lt; omega); have qf := gfroz g6 (by have := GB.out.lt; have := GB.out.ltB; omega) (GB.out.f 5) (fun e => by have := (GB.out.o5.blk b e).1; have := GB.out.lt; omega); obtain ⟨r3, q3, hv3, _⟩ := o6.form; have G7 := hide (GM.pushLb (x := ⟨some ⟨g5, 0, none⟩, k5, D ++ [mkE]⟩) GB.out X5.out g6 o6 n6); have N3 : Hid (v6.ownBlock = vb.ownBlock ∨ ∃ k, v6.ownBlock = some k ∧ w.heap.size ≤ k) := n6.imp id (fun ⟨k', h1, h2⟩ => ⟨k', h1, Nat.le_trans UB.out.size h2⟩); have U7 := hide ((UB.out.trans (gupd g6 (fun k e => .inr (.inr e)))).setCell (p := ⟨b, 5, none⟩) (.inl (.inl rfl)) v6); generalize (Lb ++ [(⟨some ⟨g5, 0, none⟩, k5, D ++ [mkE]⟩ : SV En)]).length = l3 at hv3; subst hv3)
    | (refine step_copyent rfl (.tmp 26) rfl (some ⟨g, 0, none⟩) (n + 1) k rfl (D ++ [mkE]) (XW.out.later (Below.refl _ _).drew) (by omega) ?_; intro v5 w5 o5 b5; have s1 : w5.cell? ⟨b, 5, none⟩ = some vb := (b5.cell (p := ⟨b, 5, none⟩) jz).trans j3; have hz5 : b < w5.heap.size := Nat.lt_of_lt_of_le jz b5.size; have s2 : ∀ x, (w5.alloc x).cell? ⟨b, 5, none⟩ = some vb := (fun x => (World.cell?_alloc_past _ _ _ hz5).trans s1); obtain ⟨a5, k5, hv5, _, _, kn, kg⟩ := o5.form; obtain ⟨g5, ha5⟩ : ∃ g5, a5 = some ⟨g5, 0, none⟩ := (by cases a5 with | none => exact absurd (kn rfl).1 (by simp) | some z => obtain ⟨g5, hz, _⟩ := kg z rfl; exact ⟨g5, by rw [hz]⟩); subst ha5; rw [HLN.out] at hv5; subst hv5; have b5' : Below W.heap.size W w5 := (Below.refl _ _).drew.trans b5; have ba5 : Below w5.heap.size w5 (w5.alloc (.cells #[.slice (some ⟨g5, 0, none⟩) (n + 1) k5] 34)) := (Below.refl _ _).alloc (Nat.le_refl _) _; have GB := hide ((G4.out.bel b5').bel ba5); have X5 : Hid (OwnY yE B (w5.alloc (.cells #[.slice (some ⟨g5, 0, none⟩) (n + 1) k5] 34)) (.slice (some ⟨g5, 0, none⟩) (D ++ [mkE]).length k5) (D ++ [mkE])) := (by show OwnY _ _ _ _ _; rw [HLN.out]; exact (o5.low G4.out.ltB).grow ba5); have UB := hide ((U4.out.trans (Upd.of_below b5')).trans (Upd.of_below ba5)); have SB5 : Hid (SlY zE (w5.alloc (.cells #[.slice (some ⟨g5, 0, none⟩) (n + 1) k5] 34)) (some ⟨w5.heap.size, 0, none⟩) 1 1 [⟨some ⟨g5, 0, none⟩, k5, D ++ [mkE]⟩]) := (by have := sl_box (Y := zE) w5 ⟨some ⟨g5, 0, none⟩, k5, D ++ [mkE]⟩ 34; simp only [zE, yS, HLN.out] at this; exact this); clear o5 b5 ba5 kn kg))
  all_goals
    clear n6 o6 g6 qc qf UB X5 GB s2 s1 b5' LT3 XW j3 U4 G4 HG
    generalize w6.setCell ⟨b, 5, none⟩ (.slice r3 l3 q3) = W7 at *
    have PX : Hid (SlY yE W7 (some ⟨g, 0, none⟩) n k D) := (G7.out.m4 ⟨some ⟨g, 0, none⟩, k, D ++ [mkE]⟩ (by simp)).front kE HD.out
    unfold maxLen at k2
    go_wp2
    go_ret
    exact ⟨g, k, _, _, g5, k5, rfl, PX.out, hgB, G7.out, U7.out, N2.out, N3.out⟩
set_option maxRecDepth 100000 in
set_option maxHeartbeats 2000000 in
theorem given_vecM (b B : Nat) (va vb v4 v5 : Value) (La Lb : List (SV (Int × Int))) (Da Db : List (SV En)) (a : Option Addr) (n c : Nat) (D : List (Int × Int)) (w : World) (G : GM w b B va vb v4 v5 La Lb Da Db) (h : SlY yD w a n c D) (hm : n * 16 ≤ 140737488351232) (hP : (La.length + 1) * 24 ≤ 140737488355328) (hP3 : Lb.length = La.length) :
    Calls Tryz.prog 33 #[.pointer (some ⟨b, 0, none⟩), .slice a n c] w fun e w' => ∃ g c' va' vb' g5 k5, e = .returned (.slice (some ⟨g, 0, none⟩) n c') ∧ SlY yD w' (some ⟨g, 0, none⟩) n c' D ∧ w.heap.size ≤ g ∧ GM w' b B va' vb' v4 v5 (La ++ [⟨some ⟨g, 0, none⟩, c', D ++ [mkD]⟩]) (Lb ++ [⟨some ⟨g5, 0, none⟩, k5, D ++ [mkD]⟩]) Da Db ∧ Upd (fun k => k = b ∨ va.ownBlock = some k ∨ vb.ownBlock = some k) w w' ∧ (va'.ownBlock = va.ownBlock ∨ ∃ k, va'.ownBlock = some k ∧ w.heap.size ≤ k) ∧ (vb'.ownBlock = vb.ownBlock ∨ ∃ k, vb'.ownBlock = some k ∧ w.heap.size ≤ k) := by
  have HD := hide h.len
  have HS := hide h
  have hbw : b < w.heap.size := Nat.lt_of_lt_of_le G.lt G.ltB
  have HG := hide G
  clear h G
  go_enter Tryz.func33, Tryz.ntmps33
  go_wp2_with fail
  refine (copyvecY a n c D w HS.out (by omega)).mono ?_
  rintro e w1 ⟨v1, rfl, o1, b1⟩
  have z1 := b1.size
  have SB := hide (sl_box (Y := yD) w1 mkD 33)
  go_wp2_with (at_builtin; go_must (refine appY kD _ rfl (.tmp 7) (.tmp 9) rfl w.heap.size D v1 rfl (some ⟨w1.heap.size, 0, none⟩) 1 1 rfl [mkD] SB.out (o1.alloc _) (by simp; omega) (by rw [HD.out]; unfold maxLen; omega) (by show (_ + 1) * 16 ≤ _; rw [HD.out]; omega) ?_))
  intro v5 w2 o2 g2 _
  have b2 : Below w.heap.size w w2 := (o1.alloc _).grown (b1.alloc z1 _) g2 (by simp; omega)
  have z2 := b2.size
  obtain ⟨a5, k, hv, k1, k2, k3, k4⟩ := o2.form
  obtain ⟨g, rfl⟩ : ∃ g, a5 = some ⟨g, 0, none⟩ := by
    cases a5 with
    | none => exact absurd (k3 rfl).1 (by simp)
    | some z => obtain ⟨g, rfl, _⟩ := k4 z rfl; exact ⟨g, rfl⟩
  obtain ⟨g', eg, hgB, hgs⟩ := k4 _ rfl
  cases eg
  have HLN : Hid ((D ++ [mkD]).length = n + 1) := by show _ = _; rw [List.length_append, HD.out]; rfl
  rw [HLN.out] at hv k1
  subst hv
  have X2 := hide (o2.low (Nat.le_trans HG.out.ltB (Nat.le_refl _)))
  have G2 := hide (HG.out.bel b2)
  clear o1 b1 g2 k3 k4 o2 z1 SB
  have d2 := G2.out.c2
  have hb2 : b < w2.heap.size := by omega
  have y2 : ∀ ob, (w2.alloc ob).cell? ⟨b, 2, none⟩ = some va := fun ob => (World.cell?_alloc_past _ _ _ hb2).trans d2
  have ba : Below w2.heap.size w2 (w2.alloc (.cells #[.slice (some ⟨g, 0, none⟩) (n + 1) k] 36)) := (Below.refl _ _).alloc (Nat.le_refl _) _
  have GA := hide (G2.out.bel ba)
  have XA : Hid (OwnY yD B (w2.alloc (.cells #[.slice (some ⟨g, 0, none⟩) (n + 1) k] 36)) (.slice (some ⟨g, 0, none⟩) (D ++ [mkD]).length k) (D ++ [mkD])) := by
    show OwnY _ _ _ _ _
    rw [HLN.out]
    exact X2.out.grow ba
  have UA : Upd (fun k => k = b ∨ va.ownBlock = some k ∨ vb.ownBlock = some k) w (w2.alloc (.cells #[.slice (some ⟨g, 0, none⟩) (n + 1) k] 36)) := (Upd.of_below b2).trans (Upd.of_below ba)
  have UH := hide UA
  have SB : Hid (SlY zD (w2.alloc (.cells #[.slice (some ⟨g, 0, none⟩) (n + 1) k] 36)) (some ⟨w2.heap.size, 0, none⟩) 1 1 [⟨some ⟨g, 0, none⟩, k, D ++ [mkD]⟩]) := by
    have := sl_box (Y := zD) w2 ⟨some ⟨g, 0, none⟩, k, D ++ [mkD]⟩ 36
    simp only [zD, yS, HLN.out] at this
    exact this
  clear UA ba
  go_wp2_with (at_builtin; go_must (refine appY kzD _ rfl (.tmp 15) (.tmp 17) rfl B La va rfl (some ⟨w2.heap.size, 0, none⟩) 1 1 rfl [⟨some ⟨g, 0, none⟩, k, D ++ [mkD]⟩] SB.out GA.out.o2 (by have := HG.out.ltB; simp; omega) (by unfold maxLen; omega) hP ?_))
  intro va' w3 o3 g3 n3
  have zc := gcell g3 GA.out.c2 (fun e => by have := (GA.out.o2.blk b e).1; have := HG.out.lt; omega)
  have zf := gfroz g3 (by simp; omega) (GA.out.f 2) (fun e => by have := (GA.out.o2.blk b e).1; have := HG.out.lt; omega)
  have G4 := hide (GM.pushDa (x := ⟨some ⟨g, 0, none⟩, k, D ++ [mkD]⟩) GA.out XA.out g3 o3 (n3.imp id (fun ⟨k', h1, h2⟩ => ⟨k', h1, by simpa using h2⟩)))
  obtain ⟨r2, q2, hv2, _⟩ := o3.form
  have U4 : Hid (Upd (fun k => k = b ∨ va.ownBlock = some k ∨ vb.ownBlock = some k) w (w3.setCell ⟨b, 2, none⟩ va')) := (UH.out.trans (gupd g3 (fun k e => .inr (.inl e)))).setCell (.inl (.inl rfl)) _
  have N2 : Hid (va'.ownBlock = va.ownBlock ∨ ∃ k, va'.ownBlock = some k ∧ w.heap.size ≤ k) := n3.imp id (fun ⟨k', h1, h2⟩ => ⟨k', h1, by first | omega | (simp at h2; omega)⟩)
  clear GA XA UH G2 X2 y2 d2 o3 g3 n3 HS SB
  generalize (La ++ [(⟨some ⟨g, 0, none⟩, k, D ++ [mkD]⟩ : SV (Int × Int))]).length = l2 at hv2
  subst hv2
  go_wp2_with fail
  clear zc zf
  generalize w3.setCell ⟨b, 2, none⟩ (.slice r2 l2 q2) = W at *
  have j3 := G4.out.c3
  have jz : b < W.heap.size := Nat.lt_of_lt_of_le G4.out.lt G4.out.ltB
  have XW : Hid (SlY yD W (some ⟨g, 0, none⟩) (n + 1) k (D ++ [mkD])) := by
    have := (G4.out.m2 ⟨some ⟨g, 0, none⟩, k, D ++ [mkD]⟩ (by simp)).sl' kD
    simp only [HLN.out] at this
    exact this
  have LT3 : Hid ((Lb.length + 1) * 24 ≤ 140737488355328) := by show _ ≤ _; rw [hP3]; exact hP
  go_region_law (first
    | (refine stepY kzD rfl (.tmp 25) (.tmp 28) rfl B Lb vb rfl (some ⟨w5.heap.size, 0, none⟩) 1 1 rfl [⟨some ⟨g5, 0, none⟩, k5, D ++ [mkD]⟩] SB5.out GB.out.o3 GB.out.ltB (by have := LT3.out; unfold maxLen; omega) LT3.out ?_; intro v6 w6 o6 g6 n6; have qc := gcell g6 GB.out.c3 (fun e => by have := (GB.out.o3.blk b e).1; have := GB.out.lt; omega); have qf := gfroz g6 (by have := GB.out.lt; have := GB.out.ltB; omega) (GB.out.f 3) (fun e => by have := (GB.out.o3.blk b e).1; have := GB.out.lt; omega); obtain ⟨r3, q3, hv3, _⟩ := o6.form; have G7 := hide (GM.pushDb (x := ⟨some ⟨g5, 0, none⟩, k5, D ++ [mkD]⟩) GB.out X5.out g6 o6 n6); have N3 : Hid (v6.ownBlock = vb.ownBlock ∨ ∃ k, v6.ownBlock = some k ∧ w.heap.size ≤ k) := n6.imp id (fun ⟨k', h1, h2⟩ => ⟨k', h1, Nat.le_trans UB.out.size h2⟩); have U7 := hide ((UB.out.trans (gupd g6 (fun k e => .inr (.inr e)))).setCell (p := ⟨b, 3, none⟩) (.inl (.inl rfl)) v6); generalize (Lb ++ [(⟨some ⟨g5, 0, none⟩, k5, D ++ [mkD]⟩ : SV (Int × Int))]).length = l3 at hv3; subst hv3)
    | (refine step_copyvecY rfl (.tmp 26) rfl (some ⟨g, 0, none⟩) (n + 1) k rfl (D ++ [mkD]) (XW.out.later (Below.refl _ _).drew) (by omega) ?_; intro v5 w5 o5 b5; have s1 : w5.cell? ⟨b, 3, none⟩ = some vb := (b5.cell (p := ⟨b, 3, none⟩) jz).trans j3; have hz5 : b < w5.heap.size := Nat.lt_of_lt_of_le jz b5.size; have s2 : ∀ x, (w5.alloc x).cell? ⟨b, 3, none⟩ = some vb := (fun x => (World.cell?_alloc_past _ _ _ hz5).trans s1); obtain ⟨a5, k5, hv5, _, _, kn, kg⟩ := o5.form; obtain ⟨g5, ha5⟩ : ∃ g5, a5 = some ⟨g5, 0, none⟩ := (by cases a5 with | none => exact absurd (kn rfl).1 (by simp) | some z => obtain ⟨g5, hz, _⟩ := kg z rfl; exact ⟨g5, by rw [hz]⟩); subst ha5; rw [HLN.out] at hv5; subst hv5; have b5' : Below W.heap.size W w5 := (Below.refl _ _).drew.trans b5; have ba5 : Below w5.heap.size w5 (w5.alloc (.cells #[.slice (some ⟨g5, 0, none⟩) (n + 1) k5] 36)) := (Below.refl _ _).alloc (Nat.le_refl _) _; have GB := hide ((G4.out.bel b5').bel ba5); have X5 : Hid (OwnY yD B (w5.alloc (.cells #[.slice (some ⟨g5, 0, none⟩) (n + 1) k5] 36)) (.slice (some ⟨g5, 0, none⟩) (D ++ [mkD]).length k5) (D ++ [mkD])) := (by show OwnY _ _ _ _ _; rw [HLN.out]; exact (o5.low G4.out.ltB).grow ba5); have UB := hide ((U4.out.trans (Upd.of_below b5')).trans (Upd.of_below ba5)); have SB5 : Hid (SlY zD (w5.alloc (.cells #[.slice (some ⟨g5, 0, none⟩) (n + 1) k5] 36)) (some ⟨w5.heap.size, 0, none⟩) 1 1 [⟨some ⟨g5, 0, none⟩, k5, D ++ [mkD]⟩]) := (by have := sl_box (Y := zD) w5 ⟨some ⟨g5, 0, none⟩, k5, D ++ [mkD]⟩ 36; simp only [zD, yS, HLN.out] at this; exact this); clear o5 b5 ba5 kn kg))
  all_goals
    clear n6 o6 g6 qc qf UB X5 GB s2 s1 b5' LT3 XW j3 U4 G4 HG
    generalize w6.setCell ⟨b, 3, none⟩ (.slice r3 l3 q3) = W7 at *
    have PX : Hid (SlY yD W7 (some ⟨g, 0, none⟩) n k D) := (G7.out.m2 ⟨some ⟨g, 0, none⟩, k, D ++ [mkD]⟩ (by simp)).front kD HD.out
    unfold maxLen at k2
    go_wp2
    go_ret
    exact ⟨g, k, _, _, g5, k5, rfl, PX.out, hgB, G7.out, U7.out, N2.out, N3.out⟩
theorem OwnY.row {α : Type} {T ST : TypeId} (hz : (yS α T ST).Ok) {B : Nat} {w : World} {a : Option Addr} {n c : Nat} {L : List (SV α)} (h : OwnY (yS α T ST) B w (.slice a n c) L) {j : Nat} {x : SV α} (hx : L[j]? = some x) : ∃ g, a = some ⟨g, 0, none⟩ ∧ w.cell? ⟨g, j, none⟩ = some (.slice x.a x.D.length x.c) := by
  obtain ⟨a', c', e, _, _, hn, hs⟩ := h.form
  injection e with e1 e2 e3
  subst e1
  cases a with
  | none => have := (hn rfl).1; rw [this] at hx; simp at hx
  | some z =>
    obtain ⟨g, rfl, _, _⟩ := hs z rfl
    refine ⟨g, rfl, ?_⟩
    have := h.cell hz j x hx 0 _ rfl
    simpa [yS] using this
theorem map_at {α : Type} {La Lb : List (SV α)} (h : La.map (·.D) = Lb.map (·.D)) {j : Nat} {x y : SV α} (hx : La[j]? = some x) (hy : Lb[j]? = some y) : x.D = y.D := by
  have h1 := congrArg (fun l => l[j]?) h
  simp only [List.getElem?_map, hx, hy, Option.map_some] at h1
  exact Option.some.inj h1
theorem len_map {α : Type} {La Lb : List (SV α)} (h : La.map (·.D) = Lb.map (·.D)) : Lb.length = La.length := by
  have := congrArg List.length h
  simpa using this.symm
set_option maxRecDepth 100000 in
set_option maxHeartbeats 4000000 in
theorem intactM_any (b B : Nat) (v2 v3 v4 v5 : Value) (Da Db : List (SV (Int × Int))) (La Lb : List (SV En)) (w : World) (G : GM w b B v2 v3 v4 v5 Da Db La Lb) (hD : Da.map (·.D) = Db.map (·.D)) (hL : La.map (·.D) = Lb.map (·.D)) :
    Calls Tryz.prog 14 #[.pointer (some ⟨b, 0, none⟩)] w fun e w' => e = .returned (.bool true) ∧ ∃ n, w' = w.drewN n := by
  have d0 := G.ce 0 (by omega) (by omega)
  have d6 := G.ce 6 (by omega) (by omega)
  have d8 := G.ce 8 (by omega) (by omega)
  have hl1 := len_map hD
  have hl2 := len_map hL
  obtain ⟨a2, k2, rfl, p2, p2', _, _⟩ := G.o2.form
  obtain ⟨a3, k3, rfl, p3, p3', _, _⟩ := G.o3.form
  obtain ⟨a4, k4, rfl, p4, p4', _, _⟩ := G.o4.form
  obtain ⟨a5, k5, rfl, p5, p5', _, _⟩ := G.o5.form
  rw [hl1] at p3 G
  rw [hl2] at p5 G
  unfold maxLen at p2' p3' p4' p5'
  have N1 : Hid (∀ j, j < Da.length → ∃ x y, Da[j]? = some x ∧ Db[j]? = some y ∧ x.D = y.D ∧ x ∈ Da ∧ y ∈ Db) := fun j hj => by
    have h1 := List.getElem?_eq_getElem hj
    have h2 := List.getElem?_eq_getElem (l := Db) (i := j) (by omega)
    exact ⟨_, _, h1, h2, map_at hD h1 h2, List.mem_of_getElem? h1, List.mem_of_getElem? h2⟩
  have N2 : Hid (∀ j, j < La.length → ∃ x y, La[j]? = some x ∧ Lb[j]? = some y ∧ x.D = y.D ∧ x ∈ La ∧ y ∈ Lb) := fun j hj => by
    have h1 := List.getElem?_eq_getElem hj
    have h2 := List.getElem?_eq_getElem (l := Lb) (i := j) (by omega)
    exact ⟨_, _, h1, h2, map_at hL h1 h2, List.mem_of_getElem? h1, List.mem_of_getElem? h2⟩
  have HG := hide G
  have d2 := G.c2
  have d4 := G.c4
  clear G hD hL hl1 hl2
  generalize Da.length = n at *
  generalize La.length = m at *
  go_enter Tryz.func14, Tryz.ntmps14
  go_wp2_with fail
  go_loopw [3] (fun i wr => i = .int .i64 0 ∧ wr = w) (fun _ _ => 0)
  case atStart => exact ⟨rfl, rfl⟩
  case round =>
    obtain ⟨rfl, e1⟩ := hrel
    subst e1
    go_wp2_with fail
    go_loopw [4] (fun i ws => i = .int .i64 0 ∧ ws = wr) (fun _ _ => 0)
    case atStart => exact ⟨rfl, rfl⟩
    case round =>
      obtain ⟨rfl, e1⟩ := hrel
      subst e1
      go_wp2_with fail
      go_loopw [5] (fun i ws => i = .int .i64 0 ∧ ws = wr) (fun _ _ => 0)
      case atStart => exact ⟨rfl, rfl⟩
      case round =>
        obtain ⟨rfl, e1⟩ := hrel
        subst e1
        obtain ⟨w0, hw0⟩ : ∃ w0, w0 = wr := ⟨_, rfl⟩
        subst hw0
        go_wp2_with fail
        go_loopw [6] (fun i ws => ∃ j t : Nat, i = .int .i64 (j : Int) ∧ j ≤ n ∧ ws = w0.drewN t) (fun i _ => n - (intOf i).toNat)
        case atStart => exact ⟨0, 0, rfl, Nat.zero_le _, rfl⟩
        case round =>
          obtain ⟨j, t, rfl, hj, hws⟩ := hrel
          have HW := hide hws
          have G2 := hide (HG.out.bel (show Below w0.heap.size w0 wr by rw [hws]; exact belN (Below.refl _ _) t))
          clear d2 d4
          have d2 := G2.out.c2
          have d3 := G2.out.c3
          have d4 := G2.out.c4
          clear hws
          by_cases hlt : j < n
          · obtain ⟨x, y, hx, hy, hxy, mx, my⟩ := N1.out j hlt
            obtain ⟨g2, rfl, q2⟩ := G2.out.o2.row kzD hx
            obtain ⟨g3, rfl, q3⟩ := G2.out.o3.row kzD hy
            have sx := (G2.out.m2 x mx).sl' kD
            have sy := (G2.out.m3 y my).sl' kD
            rw [← hxy] at q3 sy
            have HH : Hid (∀ k, Calls Tryz.prog 40 #[.slice x.a x.D.length x.c, .slice y.a x.D.length y.c] (wr.drewN k) fun e w' => e = .returned (.bool true) ∧ ∃ n, w' = (wr.drewN k).drewN n) := fun k => by
              have := samevecB x.D x.D x.a y.a _ _ x.c y.c (wr.drewN k) (sx.drewN k) (sy.drewN k)
              simpa using this
            clear sx sy hx hy hxy HG G2 N1 N2 d4 mx my
            generalize x.D.length = lx at *
            generalize x.a = xa at *
            generalize y.a = ya at *
            generalize x.c = xc at *
            generalize y.c = yc at *
            go_wp2_with fail
            go_quiet ((go_at_call 40; exact Calls.quiet_of (HH.out _)))
            go_wp2
            go_round
            case rel => exact ⟨j + 1, t + nq, by go_num, by omega, by rw [HW.out, World.drewN_drewN]⟩
            case measure => simp [intOf]; omega
          · obtain rfl : j = n := by omega
            have d6' := (G2.out.ce 6 (by omega) (by omega))
            clear N1 d3
            obtain ⟨w1, hw1⟩ : ∃ w1, w1 = wr := ⟨_, rfl⟩
            subst hw1
            go_wp2_with fail
            go_loopw [7] (fun i ws => ∃ j t : Nat, i = .int .i64 (j : Int) ∧ j ≤ m ∧ ws = w1.drewN t) (fun i _ => m - (intOf i).toNat)
            case atStart => exact ⟨0, 0, rfl, Nat.zero_le _, rfl⟩
            case round =>
              obtain ⟨i, s, rfl, hi, hws⟩ := hrel
              have HW2 := hide hws
              have G3 := hide (G2.out.bel (show Below w1.heap.size w1 wr by rw [hws]; exact belN (Below.refl _ _) s))
              clear d2 d4
              have d4 := G3.out.c4
              have d5 := G3.out.c5
              clear hws
              by_cases hlt : i < m
              · obtain ⟨x, y, hx, hy, hxy, mx, my⟩ := N2.out i hlt
                obtain ⟨g4, rfl, q2⟩ := G3.out.o4.row kzE hx
                obtain ⟨g5, rfl, q3⟩ := G3.out.o5.row kzE hy
                have sx := (G3.out.m4 x mx).sl' kE
                have sy := (G3.out.m5 y my).sl' kE
                rw [← hxy] at q3 sy
                have HH : Hid (∀ k, Calls Tryz.prog 41 #[.slice x.a x.D.length x.c, .slice y.a x.D.length y.c] (wr.drewN k) fun e w' => e = .returned (.bool true) ∧ ∃ n, w' = (wr.drewN k).drewN n) := fun k => by
                  have := sameentsB x.D x.D x.a y.a _ _ x.c y.c (wr.drewN k) (sx.drewN k) (sy.drewN k)
                  simpa using this
                clear sx sy hx hy hxy HG G2 G3 N2 mx my
                generalize x.D.length = lx at *
                generalize x.a = xa at *
                generalize y.a = ya at *
                generalize x.c = xc at *
                generalize y.c = yc at *
                go_wp2_with fail
                go_quiet ((go_at_call 41; exact Calls.quiet_of (HH.out _)))
                go_wp2
                go_round
                case rel => exact ⟨i + 1, s + nq, by go_num, by omega, by rw [HW2.out, World.drewN_drewN]⟩
                case measure => simp [intOf]; omega
              · obtain rfl : i = m := by omega
                clear HG G2 G3 N2
                go_wp2
                go_ret
                exact ⟨rfl, t + s, by rw [HW2.out, HW.out, World.drewN_drewN]⟩
structure Mg where
  k : Int
  nd : Int
  vw : Int
  e : En
  r : Int × Int × ByteArray
  p : Int
  cm : Int
  ls : Int
  d : Int × Int
def Mg.val (m : Mg) (s t : Value) : Value := .agg #[.int .i64 m.k, .int .i64 m.nd, .int .i64 m.vw, .int .i64 m.e.c, .int .i64 m.e.n, .int .i64 m.e.o.k, .int .i64 m.e.o.s, .string m.e.o.v, .int .i64 m.r.1, .int .i64 m.r.2.1, .string m.r.2.2, .int .i64 m.p, .int .i64 m.cm, .int .i64 m.ls, .int .u64 m.d.1, .int .u64 m.d.2, s, t]
def Mg.cs (m : Mg) (s t : Value) : List Value := [.int .i64 m.k, .int .i64 m.nd, .int .i64 m.vw, .int .i64 m.e.c, .int .i64 m.e.n, .int .i64 m.e.o.k, .int .i64 m.e.o.s, .string m.e.o.v, .int .i64 m.r.1, .int .i64 m.r.2.1, .string m.r.2.2, .int .i64 m.p, .int .i64 m.cm, .int .i64 m.ls, .int .u64 m.d.1, .int .u64 m.d.2, s, t]
structure MBox (w : World) (q : Nat) (m : Mg) (s t : Value) : Prop where
  lt : q < w.heap.size
  kind : ∃ c f, w.heap[q]? = some (.cells c 38 f)
  cell : ∀ i x, (m.cs s t)[i]? = some x → w.cell? ⟨q, i, none⟩ = some x
  free : ∀ i, w.frozen? ⟨q, i, none⟩ = false
theorem MBox.upd {S : Nat → Prop} {w w' : World} {q : Nat} {m : Mg} {s t : Value} (h : MBox w q m s t) (u : Upd S w w') (hs : ¬ S q) : MBox w' q m s t := by
  have hb := u.block q h.lt hs
  exact ⟨Nat.lt_of_lt_of_le h.lt u.size, by rw [hb]; exact h.kind, fun i x hx => (u.cell (p := ⟨q, i, none⟩) h.lt hs).trans (h.cell i x hx), fun i => (u.frozen (p := ⟨q, i, none⟩) h.lt hs).trans (h.free i)⟩
theorem MBox.bel {w w' : World} {q : Nat} {m : Mg} {s t : Value} (h : MBox w q m s t) (hb : Below w.heap.size w w') : MBox w' q m s t := h.upd (S := fun _ => False) (Upd.of_below hb) id
theorem MBox.new (w : World) (m : Mg) (s t : Value) : MBox (w.alloc (.cells (m.cs s t).toArray 38)) w.heap.size m s t := by
  refine ⟨by simp, ?_, fun i x hx => ?_, fun i => by simp⟩
  · refine ⟨(m.cs s t).toArray, (0, 0), ?_⟩
    show (w.heap.push _)[w.heap.size]? = _
    rw [Array.getElem?_push_size]
  · rw [World.cell?_alloc_at _ _ _ _ rfl, List.getElem?_toArray]
    exact hx
theorem GM.upd {S : Nat → Prop} {w w' : World} {b B : Nat} {v2 v3 v4 v5 : Value} {Da Db : List (SV (Int × Int))} {La Lb : List (SV En)} (h : GM w b B v2 v3 v4 v5 Da Db La Lb) (u : Upd S w w') (hb : ¬ S b) (hs : ∀ k c f T, w.heap[k]? = some (.cells c T f) → (T = yD.T ∨ T = yE.T ∨ T = zD.T ∨ T = zE.T) → ¬ S k) : GM w' b B v2 v3 v4 v5 Da Db La Lb := by
  have hlt : b < w.heap.size := Nat.lt_of_lt_of_le h.lt h.ltB
  have o : ∀ {α : Type} {Y : Lay α} {v : Value} {l : List α}, OwnY Y B w v l → (Y.T = yD.T ∨ Y.T = yE.T ∨ Y.T = zD.T ∨ Y.T = zE.T) → OwnY Y B w' v l := fun ho hT => ho.upd1 u (fun g hg => by
    obtain ⟨c, f, hk⟩ := ho.kind hg
    exact hs g c f _ hk hT)
  exact ⟨h.lt, Nat.le_trans h.ltB u.size, (u.cell (p := ⟨b, _, none⟩) hlt hb).trans h.c2, (u.cell (p := ⟨b, _, none⟩) hlt hb).trans h.c3, (u.cell (p := ⟨b, _, none⟩) hlt hb).trans h.c4, (u.cell (p := ⟨b, _, none⟩) hlt hb).trans h.c5, fun i => (u.frozen (p := ⟨b, _, none⟩) hlt hb).trans (h.f i), fun i h0 h1 => (u.cell (p := ⟨b, _, none⟩) hlt hb).trans (h.ce i h0 h1), o h.o2 (by simp), o h.o3 (by simp), o h.o4 (by simp), o h.o5 (by simp), h.ne2, h.ne4, fun x hx => o (h.m2 x hx) (by simp), fun x hx => o (h.m3 x hx) (by simp), fun x hx => o (h.m4 x hx) (by simp), fun x hx => o (h.m5 x hx) (by simp)⟩
theorem GM.logAt {w : World} {b B : Nat} {v2 v3 v4 v5 : Value} {Da Db : List (SV (Int × Int))} {La Lb : List (SV En)} (h : GM w b B v2 v3 v4 v5 Da Db La Lb) {g c n : Nat} {L : List En} (hm : (⟨some ⟨g, 0, none⟩, c, L ++ [mkE]⟩ : SV En) ∈ La) (hn : L.length = n) : SlY yE w (some ⟨g, 0, none⟩) n c L := (h.m4 _ hm).front kE hn
theorem GM.vecAt {w : World} {b B : Nat} {v2 v3 v4 v5 : Value} {Da Db : List (SV (Int × Int))} {La Lb : List (SV En)} (h : GM w b B v2 v3 v4 v5 Da Db La Lb) {g c n : Nat} {L : List (Int × Int)} (hm : (⟨some ⟨g, 0, none⟩, c, L ++ [mkD]⟩ : SV (Int × Int)) ∈ Da) (hn : L.length = n) : SlY yD w (some ⟨g, 0, none⟩) n c L := (h.m2 _ hm).front kD hn
theorem hM : ∀ T : TypeId, T = yD.T ∨ T = yE.T ∨ T = zD.T ∨ T = zE.T → T ≠ 38 := by
  rintro T (rfl | rfl | rfl | rfl) <;> decide
theorem MBox.all {w : World} {q : Nat} {m : Mg} {s t : Value} (h : MBox w q m s t) : w.cell? ⟨q, 0, none⟩ = some (.int .i64 m.k) ∧ w.cell? ⟨q, 1, none⟩ = some (.int .i64 m.nd) ∧ w.cell? ⟨q, 2, none⟩ = some (.int .i64 m.vw) ∧ w.cell? ⟨q, 3, none⟩ = some (.int .i64 m.e.c) ∧ w.cell? ⟨q, 4, none⟩ = some (.int .i64 m.e.n) ∧ w.cell? ⟨q, 5, none⟩ = some (.int .i64 m.e.o.k) ∧ w.cell? ⟨q, 6, none⟩ = some (.int .i64 m.e.o.s) ∧ w.cell? ⟨q, 7, none⟩ = some (.string m.e.o.v) ∧ w.cell? ⟨q, 8, none⟩ = some (.int .i64 m.r.1) ∧ w.cell? ⟨q, 9, none⟩ = some (.int .i64 m.r.2.1) ∧ w.cell? ⟨q, 10, none⟩ = some (.string m.r.2.2) ∧ w.cell? ⟨q, 11, none⟩ = some (.int .i64 m.p) ∧ w.cell? ⟨q, 12, none⟩ = some (.int .i64 m.cm) ∧ w.cell? ⟨q, 13, none⟩ = some (.int .i64 m.ls) ∧ w.cell? ⟨q, 14, none⟩ = some (.int .u64 m.d.1) ∧ w.cell? ⟨q, 15, none⟩ = some (.int .u64 m.d.2) ∧ w.cell? ⟨q, 16, none⟩ = some (s) ∧ w.cell? ⟨q, 17, none⟩ = some (t) :=
  ⟨h.cell 0 _ rfl, h.cell 1 _ rfl, h.cell 2 _ rfl, h.cell 3 _ rfl, h.cell 4 _ rfl, h.cell 5 _ rfl, h.cell 6 _ rfl, h.cell 7 _ rfl, h.cell 8 _ rfl, h.cell 9 _ rfl, h.cell 10 _ rfl, h.cell 11 _ rfl, h.cell 12 _ rfl, h.cell 13 _ rfl, h.cell 14 _ rfl, h.cell 15 _ rfl, h.cell 16 _ rfl, h.cell 17 _ rfl⟩
def zM : Mg := ⟨0, 0, 0, ⟨0, 0, ⟨0, 0, ⟨#[]⟩⟩⟩, (0, 0, ⟨#[]⟩), 0, 0, 0, (0, 0)⟩
theorem setc_kind {w : World} {q k i : Nat} {u : Value} {c : Array Value} {T : TypeId} {f : Nat × Nat} (h : w.heap[q]? = some (.cells c T f)) : ∃ c f, (w.setCell ⟨k, i, none⟩ u).heap[q]? = some (.cells c T f) := by
  by_cases e : q = k
  · subst e
    have hlt := (Array.getElem?_eq_some_iff.1 h).1
    have h' : w.heap[q] = .cells c T f := (Array.getElem?_eq_some_iff.1 h).2
    refine ⟨c.setIfInBounds i u, f, ?_⟩
    show (w.heap.modify q _)[q]? = _
    rw [Array.getElem?_eq_getElem (by simpa using hlt), Array.getElem_modify_self, h']
    rfl
  · rw [Below.heap_setCell _ _ _ _ e]
    exact ⟨_, _, h⟩
theorem MBox.set {w : World} {q : Nat} {m : Mg} {s t : Value} (h : MBox w q m s t) (j : Nat) (u s' t' : Value) (m' : Mg) (hj : j < 18) (hc : m'.cs s' t' = (m.cs s t).set j u) : MBox (w.setCell ⟨q, j, none⟩ u) q m' s' t' := by
  obtain ⟨c, f, hk⟩ := h.kind
  refine ⟨by simpa [World.setCell] using h.lt, setc_kind hk, fun i x hx => ?_, fun i => setf (h.free i)⟩
  rw [hc] at hx
  have hl : (m.cs s t).length = 18 := rfl
  by_cases e : i = j
  · subst e
    rw [List.getElem?_set_self (by omega)] at hx
    cases hx
    exact setc_eq (h.cell i _ (List.getElem?_eq_getElem (by omega)))
  · rw [List.getElem?_set_ne (fun e' => e e'.symm)] at hx
    exact setc_ne (h.cell i x hx) e
def sets (w : World) (b : Nat) : Nat → List Value → World
  | _, [] => w
  | i, v :: r => sets (w.setCell ⟨b, i, none⟩ v) b (i + 1) r
theorem OwnY.sets {α : Type} {Y : Lay α} {B b : Nat} {v : Value} {l : List α} (hb : b < B) : ∀ (vs : List Value) (i : Nat) (w : World), OwnY Y B w v l → OwnY Y B (sets w b i vs) v l
  | [], _, _, h => h
  | u :: r, i, w, h => OwnY.sets hb r (i + 1) _ (h.low_set (p := ⟨b, i, none⟩) hb u)
theorem upd_sets {S : Nat → Prop} {b : Nat} {w0 : World} (hb : S b) : ∀ (vs : List Value) (i : Nat) (w : World), Upd S w0 w → Upd S w0 (sets w b i vs)
  | [], _, _, h => h
  | u :: r, i, w, h => upd_sets hb r (i + 1) _ (h.setCell (p := ⟨b, i, none⟩) (.inl hb) u)
theorem size_sets (b : Nat) : ∀ (vs : List Value) (i : Nat) (w : World), (sets w b i vs).heap.size = w.heap.size
  | [], _, _ => rfl
  | u :: r, i, w => (size_sets b r (i + 1) _).trans (by simp [World.setCell])
theorem sets_kind {q b : Nat} {T : TypeId} : ∀ (vs : List Value) (i : Nat) (w : World), (∃ c f, w.heap[q]? = some (.cells c T f)) → ∃ c f, (sets w b i vs).heap[q]? = some (.cells c T f)
  | [], _, _, h => h
  | u :: r, i, w, ⟨c, f, h⟩ => sets_kind r (i + 1) _ (setc_kind h)
theorem setf' {w : World} {q b i j : Nat} {u : Value} (h : w.frozen? ⟨q, i, none⟩ = false) : (w.setCell ⟨b, j, none⟩ u).frozen? ⟨q, i, none⟩ = false := by
  go_simp
theorem sets_free {q b j : Nat} : ∀ (vs : List Value) (i : Nat) (w : World), w.frozen? ⟨q, j, none⟩ = false → (sets w b i vs).frozen? ⟨q, j, none⟩ = false
  | [], _, _, h => h
  | u :: r, i, w, h => sets_free r (i + 1) _ (setf' h)
theorem sets_low {b j : Nat} {x : Value} : ∀ (vs : List Value) (i : Nat) (w : World), j < i → w.cell? ⟨b, j, none⟩ = some x → (sets w b i vs).cell? ⟨b, j, none⟩ = some x
  | [], _, _, _, h => h
  | u :: r, i, w, hj, h => sets_low r (i + 1) _ (by omega) (setc_ne h (by omega))
theorem sets_at {b : Nat} : ∀ (vs : List Value) (i : Nat) (w : World), (∀ k, k < vs.length → ∃ y, w.cell? ⟨b, i + k, none⟩ = some y) → ∀ k x, vs[k]? = some x → (sets w b i vs).cell? ⟨b, i + k, none⟩ = some x
  | [], _, _, _, k, x, hx => by simp at hx
  | u :: r, i, w, h, 0, x, hx => by
    simp at hx
    subst hx
    obtain ⟨y, hy⟩ := h 0 (by simp)
    exact sets_low r (i + 1) _ (by omega) (setc_eq hy)
  | u :: r, i, w, h, k + 1, x, hx => by
    have := sets_at r (i + 1) (w.setCell ⟨b, i, none⟩ u) (fun m hm => by
      obtain ⟨y, hy⟩ := h (m + 1) (by simpa using hm)
      rw [show i + (m + 1) = i + 1 + m by omega] at hy
      exact ⟨y, setc_ne hy (by omega)⟩) k x (by simpa using hx)
    rw [show i + 1 + k = i + (k + 1) by omega] at this
    exact this
theorem MBox.put {w : World} {q : Nat} {m : Mg} {s t : Value} (h : MBox w q m s t) (m' : Mg) (s' t' : Value) : MBox (sets w q 0 (m'.cs s' t')) q m' s' t' := by
  refine ⟨by rw [size_sets]; exact h.lt, sets_kind _ _ _ h.kind, fun i x hx => ?_, fun i => sets_free _ _ _ (h.free i)⟩
  have := sets_at (b := q) (m'.cs s' t') 0 w (fun k hk => ⟨_, by rw [Nat.zero_add]; exact h.cell k _ (List.getElem?_eq_getElem (show k < (m.cs s t).length from hk))⟩) i x hx
  rw [Nat.zero_add] at this
  exact this
theorem MBox.log {w : World} {q : Nat} {m : Mg} {s t : Value} (h : MBox w q m s t) (u : Value) : MBox (w.setCell ⟨q, 16, none⟩ u) q m u t := h.set 16 u u t m (by omega) rfl
theorem MBox.vec {w : World} {q : Nat} {m : Mg} {s t : Value} (h : MBox w q m s t) (u : Value) : MBox (w.setCell ⟨q, 17, none⟩ u) q m s u := h.set 17 u s u m (by omega) rfl
theorem MBox.other {w : World} {q : Nat} {m : Mg} {s t : Value} (h : MBox w q m s t) {k j : Nat} (hk : q ≠ k) (u : Value) : MBox (w.setCell ⟨k, j, none⟩ u) q m s t := h.upd (S := fun x => x = k) ((Upd.refl (fun x => x = k) w).setCell (p := ⟨k, j, none⟩) (.inl rfl) u) hk
theorem setCells_sets (b : Nat) : ∀ (vs : List Value) (i : Nat) (w : World), w.setCells b i vs = sets w b i vs
  | [], _, _ => rfl
  | u :: r, i, w => by rw [World.setCells, sets, setCells_sets b r (i + 1)]
theorem Mg.val_eq (m : Mg) (s t : Value) : m.val s t = .agg (m.cs s t).toArray := rfl
theorem boxM {ops : Array Oper} {rest : List Oper} {o : Oper} {a : Act} {w : World} {Q : Exit → Act → World → Prop} (hgd : o.guard = none) (x : Operand) (ho : o.op = .box 38 x) (m : Mg) (s t : Value) (hx : a.eval x = m.val s t)
    (hk : wpList Tryz.prog ops Q rest (a.put o.dst (.pointer (some ⟨w.heap.size, 0, none⟩))) (w.alloc (.cells (m.cs s t).toArray 38))) : wpList Tryz.prog ops Q (o :: rest) a w := by
  refine wpList_plain hgd fun K hK => ?_
  unfold Oper.wp execOp
  simp only [ho, hx, Mg.val_eq]
  exact hK _ _ hk
theorem loadM {ops : Array Oper} {rest : List Oper} {o : Oper} {a : Act} {w : World} {Q : Exit → Act → World → Prop} (hgd : o.guard = none) (x : Operand) (ho : o.op = .load 38 x) (q : Nat) (m : Mg) (s t : Value) (hx : a.eval x = .pointer (some ⟨q, 0, none⟩)) (h : MBox w q m s t)
    (hk : wpList Tryz.prog ops Q rest (a.put o.dst (m.val s t)) w) : wpList Tryz.prog ops Q (o :: rest) a w :=
  wpList_load_mid hgd 38 x ho q 0 hx (m.cs s t) _ (fun j v hv => by rw [Nat.zero_add]; exact h.cell j v hv) Tryz.underlying38 rfl (by kernel_rfl) hk
theorem run_storeM {w : World} {q : Nat} {m : Mg} {s t : Value} (h : MBox w q m s t) (m' : Mg) (s' t' : Value) (h1 : s'.oneCell' = true) (h2 : t'.oneCell' = true) : (Instr.storeAt 38 (.pointer (some ⟨q, 0, none⟩)) (m'.val s' t')).run Tryz.prog w = .ok () (sets w q 0 (m'.cs s' t')) := by
  have := run_storeAt_mid (P := Tryz.prog) w q 0 38 (m'.cs s' t').toArray (fun j hj => ⟨by rw [Nat.zero_add, h.cell j _ (List.getElem?_eq_getElem (show j < (m.cs s t).length from hj))]; rfl, by rw [Nat.zero_add]; exact h.free j⟩) (by kernel_rfl) (all_oneCell_toArray (by
    intro v hv
    simp only [Mg.cs, List.mem_cons, List.not_mem_nil, or_false] at hv
    rcases hv with rfl | rfl | rfl | rfl | rfl | rfl | rfl | rfl | rfl | rfl | rfl | rfl | rfl | rfl | rfl | rfl | rfl | rfl <;> first | rfl | exact h1 | exact h2))
  rw [setCells_sets] at this
  exact this
theorem storeM {ops : Array Oper} {rest : List Oper} {o : Oper} {a : Act} {w : World} {Q : Exit → Act → World → Prop} (hgd : o.guard = none) (x y : Operand) (ho : o.op = .store 38 x y) (q : Nat) (m m' : Mg) (s t s' t' : Value) (hx : a.eval x = .pointer (some ⟨q, 0, none⟩)) (hy : a.eval y = m'.val s' t') (h : MBox w q m s t) (h1 : s'.oneCell' = true) (h2 : t'.oneCell' = true)
    (hk : ∀ w', w' = sets w q 0 (m'.cs s' t') → MBox w' q m' s' t' → Upd (fun b => b = q) w w' → w'.heap.size = w.heap.size → wpList Tryz.prog ops Q rest (a.put o.dst undef) w') : wpList Tryz.prog ops Q (o :: rest) a w := by
  refine wpList_plain hgd fun K hK => ?_
  unfold Oper.wp execOp
  simp only [ho, hx, hy, Sem.run_bind, Sem.run_pure, Result.andThen_ok, run_storeM h m' s' t' h1 h2]
  exact hK _ _ (hk _ rfl (h.put m' s' t') (upd_sets (S := fun b => b = q) (b := q) rfl _ _ _ (Upd.refl _ _)) (size_sets _ _ _ _))
theorem results_msg {fn : Func} {i : Tmp} {q : Nat} {m : Mg} {s t : Value} {tmps : Array Value} {w : World} (h : fn.results = #[.cell i 38]) (hq : tmps.getD i undef = .pointer (some ⟨q, 0, none⟩)) (hb : MBox w q m s t) : (results fn tmps).run Tryz.prog w = .ok (m.val s t) w := by
  have := run_loadVar_mid (P := Tryz.prog) w q 0 38 (m.cs s t) _ (fun j v hv => by rw [Nat.zero_add]; exact hb.cell j v hv) Tryz.underlying38 rfl (by kernel_rfl)
  simp only [results, h]
  simp only [Array.getD_eq_getD_getElem?] at hq
  simp [Sem.run_bind, Result.andThen, hq, asAddr, this]
  rfl
theorem upd_sets' {S : Nat → Prop} {b : Nat} {w0 : World} (hb : w0.heap.size ≤ b) : ∀ (vs : List Value) (i : Nat) (w : World), Upd S w0 w → Upd S w0 (sets w b i vs)
  | [], _, _, h => h
  | u :: r, i, w, h => upd_sets' hb r (i + 1) _ (h.setCell (p := ⟨b, i, none⟩) (.inr hb) u)
set_option maxRecDepth 100000 in
set_option maxHeartbeats 4000000 in
theorem given_msg (m : Mg) (a1 a2 : Option Addr) (n1 n2 c1 c2 : Nat) (L : List En) (D : List (Int × Int)) (b B : Nat) (v2 v3 v4 v5 : Value) (Da Db : List (SV (Int × Int))) (La Lb : List (SV En)) (w : World) (G : GM w b B v2 v3 v4 v5 Da Db La Lb) (h1 : SlY yE w a1 n1 c1 L) (h2 : SlY yD w a2 n2 c2 D) (hb1 : n1 * 48 ≤ 140737488351232) (hb2 : n2 * 16 ≤ 140737488351232) (hP : (La.length + 1) * 24 ≤ 140737488355328) (hP3 : Lb.length = La.length) (hQ : (Da.length + 1) * 24 ≤ 140737488355328) (hQ3 : Db.length = Da.length) (hS : ∀ z, a2 = some z → D ≠ [] → z.block ≠ b ∧ v4.ownBlock ≠ some z.block ∧ v5.ownBlock ≠ some z.block) :
    Calls Tryz.prog 10 #[.pointer (some ⟨b, 0, none⟩), m.val (.slice a1 n1 c1) (.slice a2 n2 c2)] w fun e w' => ∃ g c g' c' v2' v3' v4' v5' h k h' k', e = .returned (m.val (.slice (some ⟨g, 0, none⟩) n1 c) (.slice (some ⟨g', 0, none⟩) n2 c')) ∧ GM w' b B v2' v3' v4' v5' (Da ++ [⟨some ⟨g', 0, none⟩, c', D ++ [mkD]⟩]) (Db ++ [⟨some ⟨h', 0, none⟩, k', D ++ [mkD]⟩]) (La ++ [⟨some ⟨g, 0, none⟩, c, L ++ [mkE]⟩]) (Lb ++ [⟨some ⟨h, 0, none⟩, k, L ++ [mkE]⟩]) ∧ Upd (fun k => k = b ∨ v2.ownBlock = some k ∨ v3.ownBlock = some k ∨ v4.ownBlock = some k ∨ v5.ownBlock = some k) w w' ∧ (v2'.ownBlock = v2.ownBlock ∨ ∃ k, v2'.ownBlock = some k ∧ w.heap.size ≤ k) ∧ (v3'.ownBlock = v3.ownBlock ∨ ∃ k, v3'.ownBlock = some k ∧ w.heap.size ≤ k) ∧ (v4'.ownBlock = v4.ownBlock ∨ ∃ k, v4'.ownBlock = some k ∧ w.heap.size ≤ k) ∧ (v5'.ownBlock = v5.ownBlock ∨ ∃ k, v5'.ownBlock = some k ∧ w.heap.size ≤ k) := by
  have H1 := hide h1
  have H2 := hide h2
  have HG := hide G
  have HS := hide hS
  have hbw : b < w.heap.size := Nat.lt_of_lt_of_le G.lt G.ltB
  have hBw := G.ltB
  have K2 := hide G.o2.blk
  have K3 := hide G.o3.blk
  have K4 := hide G.o4.blk
  have K5 := hide G.o5.blk
  clear h1 h2 G hS
  have M1 := hide ((MBox.new w m (.slice a1 n1 c1) (.slice a2 n2 c2)).bel ((Below.refl _ _).alloc (Nat.le_refl _) (.cells (zM.cs (.slice none 0 0) (.slice none 0 0)).toArray 38)))
  have Z0 := MBox.new (w.alloc (.cells (m.cs (.slice a1 n1 c1) (.slice a2 n2 c2)).toArray 38)) zM (.slice none 0 0) (.slice none 0 0)
  rw [World.size_alloc] at Z0
  have Z1 := hide Z0
  clear Z0
  have B1 : Hid (Below w.heap.size w ((w.alloc (.cells (m.cs (.slice a1 n1 c1) (.slice a2 n2 c2)).toArray 38)).alloc (.cells (zM.cs (.slice none 0 0) (.slice none 0 0)).toArray 38))) := ((Below.refl _ _).alloc (Nat.le_refl _) _).alloc (by simp) _
  have hZ : (zM.cs (.slice none 0 0) (.slice none 0 0)).toArray = #[.int .i64 0, .int .i64 0, .int .i64 0, .int .i64 0, .int .i64 0, .int .i64 0, .int .i64 0, .string ⟨#[]⟩, .int .i64 0, .int .i64 0, .string ⟨#[]⟩, .int .i64 0, .int .i64 0, .int .i64 0, .int .u64 0, .int .u64 0, .slice none 0 0, .slice none 0 0] := rfl
  go_enter Tryz.func10, Tryz.ntmps10
  go_upto_region 1 with (refine boxM rfl (.tmp 1) rfl m _ _ rfl ?_)
  rw [← hZ]
  generalize hW : ((w.alloc _).alloc _) = W at M1 Z1 B1 ⊢
  have hws : W.heap.size = w.heap.size + 2 := by rw [← hW]; simp
  clear hW hZ
  have z16 := M1.out.cell 16 _ rfl
  have hpos : w.heap.size < W.heap.size := by omega
  go_wp2_with fail
  refine (given_entM b B v2 v3 v4 v5 Da Db La Lb a1 n1 c1 L W (HG.out.bel B1.out) (H1.out.later B1.out) hb1 hP hP3).mono ?_
  rintro e W1 ⟨g, c, v4', v5', h5, k5, rfl, sl1, hg, G1, u1, N4, N5⟩
  have hz1 := u1.size
  have nq : ¬ (w.heap.size = b ∨ v4.ownBlock = some w.heap.size ∨ v5.ownBlock = some w.heap.size) := by
    rintro (e | e | e)
    · omega
    · have := (K4.out _ e).2; omega
    · have := (K5.out _ e).2; omega
  have nq1 : ¬ (w.heap.size + 1 = b ∨ v4.ownBlock = some (w.heap.size + 1) ∨ v5.ownBlock = some (w.heap.size + 1)) := by
    rintro (e | e | e)
    · omega
    · have := (K4.out _ e).2; omega
    · have := (K5.out _ e).2; omega
  have M2 := hide ((M1.out.upd u1 nq).log (.slice (some ⟨g, 0, none⟩) n1 c))
  have Z2 := hide ((Z1.out.upd u1 nq1).other (k := w.heap.size) (j := 16) (by omega) (.slice (some ⟨g, 0, none⟩) n1 c))
  have y16 := (M1.out.upd u1 nq).cell 16 _ rfl
  have yf := (M1.out.upd u1 nq).free 16
  have y17 := (M1.out.upd u1 nq).cell 17 _ rfl
  have G2 := hide (G1.upd (S := fun x => x = w.heap.size) ((Upd.refl (fun x => x = w.heap.size) W1).setCell (p := ⟨w.heap.size, 16, none⟩) (.inl rfl) (.slice (some ⟨g, 0, none⟩) n1 c)) (by intro e; exact absurd e (by omega)) (by
    rintro k c f T hk hT rfl
    obtain ⟨c', f', hk'⟩ := (M1.out.upd u1 nq).kind
    rw [hk'] at hk
    injection hk with hk
    injection hk with _ hk
    exact hM T hT hk.symm))
  have U2 : Hid (Upd (fun k => k = b ∨ v4.ownBlock = some k ∨ v5.ownBlock = some k) w (W1.setCell ⟨w.heap.size, 16, none⟩ (.slice (some ⟨g, 0, none⟩) n1 c))) := ((Upd.of_below B1.out).trans u1).setCell (p := ⟨w.heap.size, 16, none⟩) (.inr (Nat.le_refl _)) _
  have hz2 : (W1.setCell ⟨w.heap.size, 16, none⟩ (.slice (some ⟨g, 0, none⟩) n1 c)).heap.size = W1.heap.size := by simp [World.setCell]
  have HN4 := hide N4
  have HN5 := hide N5
  clear z16 M1 Z1 B1 nq nq1 sl1 G1 u1 N4 N5
  go_wp2_with fail
  clear y16 y17 yf
  generalize W1.setCell ⟨w.heap.size, 16, none⟩ (.slice (some ⟨g, 0, none⟩) n1 c) = W2 at *
  refine (given_vecM b B v2 v3 v4' v5' Da Db _ _ a2 n2 c2 D W2 G2.out (H2.out.upd U2.out (fun z hz hne => by
    rintro (e | e | e)
    · exact (HS.out z hz hne).1 e
    · exact (HS.out z hz hne).2.1 e
    · exact (HS.out z hz hne).2.2 e)) hb2 hQ hQ3).mono ?_
  rintro e W3 ⟨g', c', v2', v3', h3, k3, rfl, sl3, hg', G3, u3, N2, N3⟩
  have hz3 := u3.size
  have nq : ¬ (w.heap.size = b ∨ v2.ownBlock = some w.heap.size ∨ v3.ownBlock = some w.heap.size) := by
    rintro (e | e | e)
    · omega
    · have := (K2.out _ e).2; omega
    · have := (K3.out _ e).2; omega
  have nq1 : ¬ (w.heap.size + 1 = b ∨ v2.ownBlock = some (w.heap.size + 1) ∨ v3.ownBlock = some (w.heap.size + 1)) := by
    rintro (e | e | e)
    · omega
    · have := (K2.out _ e).2; omega
    · have := (K3.out _ e).2; omega
  have M3 := hide ((M2.out.upd u3 nq).vec (.slice (some ⟨g', 0, none⟩) n2 c'))
  have Z3 := hide ((Z2.out.upd u3 nq1).other (k := w.heap.size) (j := 17) (by omega) (.slice (some ⟨g', 0, none⟩) n2 c'))
  have y17 := (M2.out.upd u3 nq).cell 17 _ rfl
  have yf := (M2.out.upd u3 nq).free 17
  have KM := hide (M2.out.upd u3 nq).kind
  have KZ := hide (Z2.out.upd u3 nq1).kind
  have U3 : Hid (Upd (fun k => k = b ∨ v2.ownBlock = some k ∨ v3.ownBlock = some k ∨ v4.ownBlock = some k ∨ v5.ownBlock = some k) w (W3.setCell ⟨w.heap.size, 17, none⟩ (.slice (some ⟨g', 0, none⟩) n2 c'))) := ((U2.out.mono (fun k _ h => by rcases h with h | h | h <;> simp [h])).trans (u3.mono (fun k _ h => by rcases h with h | h | h <;> simp [h]))).setCell (p := ⟨w.heap.size, 17, none⟩) (.inr (Nat.le_refl _)) _
  have HN2 := hide N2
  have HN3 := hide N3
  have HG3 := hide G3
  clear M2 Z2 nq nq1 sl3 G3 u3 N2 N3 G2 U2
  go_upto_region 3 with fail
  clear y17 yf
  have e4 : Hid (∃ W4, W4 = W3.setCell ⟨w.heap.size, 17, none⟩ (.slice (some ⟨g', 0, none⟩) n2 c')) := ⟨_, rfl⟩
  obtain ⟨W4, e4⟩ := e4.out
  rw [← e4] at M3 Z3 U3 ⊢
  have E4 := hide e4
  clear e4
  go_wp2_with (first
    | (refine loadM rfl (.tmp 3) rfl w.heap.size m _ _ rfl M3.out ?_)
    | (refine storeM rfl (.tmp 4) (.tmp 15) rfl (w.heap.size + 1) zM m _ _ _ _ rfl rfl Z3.out rfl rfl ?_; intro W5 e5 M5 u5 z5))
  refine bodyPost_ret (results_msg rfl rfl M5) rfl ⟨g, c, g', c', v2', v3', v4', v5', h5, k5, h3, k3, rfl, ?_, ?_, ?_, ?_, ?_, ?_⟩
  · refine HG3.out.upd (S := fun x => x = w.heap.size ∨ x = w.heap.size + 1) (w' := W5) ?_ (by omega) ?_
    · rw [e5, E4.out]
      exact upd_sets (.inr rfl) _ _ _ ((Upd.refl _ _).setCell (p := ⟨w.heap.size, 17, none⟩) (.inl (.inl rfl)) _)
    · rintro k c f T hk hT (rfl | rfl)
      · obtain ⟨c', f', hk'⟩ := KM.out
        rw [hk'] at hk
        injection hk with hk
        injection hk with _ hk
        exact hM T hT hk.symm
      · obtain ⟨c', f', hk'⟩ := KZ.out
        rw [hk'] at hk
        injection hk with hk
        injection hk with _ hk
        exact hM T hT hk.symm
  · rw [e5]
    exact upd_sets' (by omega) _ _ _ U3.out
  · exact HN2.out.imp id (fun ⟨k, h1, h2⟩ => ⟨k, h1, by omega⟩)
  · exact HN3.out.imp id (fun ⟨k, h1, h2⟩ => ⟨k, h1, by omega⟩)
  · exact HN4.out.imp id (fun ⟨k, h1, h2⟩ => ⟨k, h1, by omega⟩)
  · exact HN5.out.imp id (fun ⟨k, h1, h2⟩ => ⟨k, h1, by omega⟩)
end Go.Proofs.YtjfbkeommlopmaaGreatDoor
