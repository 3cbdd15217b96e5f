import Derived.Test.YtibedokegignhaaGreatDoorRows
import Derived.WalkKit
import Derived.WalkSpells
import Derived.WalkLawsBesides
import Derived.Lib.BitFns
import Derived.Deep.Light
import Derived.Lib.AppendStr
import Derived.Deep.QuietTactic
import Derived.BigQuiet
import Derived.Laws.AppendOwnNone
import Derived.Deep.RegionWith
import Derived.Maps.OwnSet
import Derived.Maps.RangeWalk
import Derived.Below
import Derived.Deep.RegionLaw
import Derived.Deep.RegionHeld3
import Derived.Laws.OwnMore
import Derived.Laws.StructEq
import Derived.Sort.OwnSorted
import Derived.Maps.Views
import Derived.Laws.CopyRow
import Derived.Deep.MidRow
import Derived.Deep.Cut
import Derived.OrdersHeld
set_option maxRecDepth 100000
set_option linter.unusedVariables false
set_option linter.unusedSimpArgs false
/- The plain mathematics of wire: the sum (a CRC, bit by bit) over natural numbers below 2^32. -/
namespace Go.Proofs.YtibedokegignhaaGreatDoor.M
def st (s : Nat) : Nat := (s >>> 1) ^^^ (3988292384 * (s &&& 1))
def stN : Nat → Nat → Nat
  | 0, s => s
  | k + 1, s => st (stN k s)
def upd (s : Nat) (z : Int) : Nat := stN 8 (s ^^^ z.toNat)
def fold (s : Nat) (l : List Int) : Nat := l.foldl upd s
def sum (l : List Int) : Nat := 4294967295 ^^^ fold 4294967295 l
theorem one_le (s : Nat) : s &&& 1 ≤ 1 := Nat.and_le_right
theorem mul_lt (s : Nat) : 3988292384 * (s &&& 1) < 4294967296 := by have := one_le s; omega
theorem st_lt (s : Nat) (h : s < 4294967296) : st s < 4294967296 := by
  unfold st
  have h1 : s >>> 1 < 2 ^ 32 := by rw [Nat.shiftRight_eq_div_pow]; omega
  have h2 : 3988292384 * (s &&& 1) < 2 ^ 32 := by have := mul_lt s; omega
  have := Nat.xor_lt_two_pow h1 h2
  omega
theorem stN_lt (k s : Nat) (h : s < 4294967296) : stN k s < 4294967296 := by
  induction k with
  | zero => exact h
  | succ k ih => exact st_lt _ ih
theorem xor_lt {a b : Nat} (ha : a < 4294967296) (hb : b < 4294967296) : a ^^^ b < 4294967296 := by
  have h1 : a < 2 ^ 32 := by omega
  have h2 : b < 2 ^ 32 := by omega
  have := Nat.xor_lt_two_pow h1 h2
  omega
theorem upd_lt (s : Nat) (z : Int) (h : s < 4294967296) (h2 : z < 256) : upd s z < 4294967296 :=
  stN_lt _ _ (xor_lt h (by omega))
theorem fold_lt (l : List Int) (s : Nat) (h : s < 4294967296) (h2 : ∀ z ∈ l, z < 256) : fold s l < 4294967296 := by
  induction l generalizing s with
  | nil => exact h
  | cons z l ih =>
    exact ih (upd s z) (upd_lt s z h (h2 z (by simp))) (fun y hy => h2 y (by simp [hy]))
theorem fold_snoc (s : Nat) (l : List Int) (z : Int) : fold s (l ++ [z]) = upd (fold s l) z := by simp [fold]
theorem fold_take (s : Nat) (l : List Int) (k : Nat) (h : k < l.length) : fold s (l.take (k + 1)) = upd (fold s (l.take k)) (l.getD k 0) := by
  rw [List.take_succ_eq_append_getElem h, fold_snoc]
  simp [List.getD, h]
theorem sum_lt (l : List Int) (h2 : ∀ z ∈ l, z < 256) : sum l < 4294967296 := xor_lt (by omega) (fold_lt l _ (by omega) h2)
def bl (v : Nat) : Nat := if v = 0 then 0 else Nat.log2 v + 1
theorem bl_le (v j : Nat) : bl v ≤ j ↔ v < 2 ^ j := by
  unfold bl
  by_cases h : v = 0
  · subst h; simp [Nat.pow_pos]
  · rw [if_neg h]
    have := Nat.log2_lt (k := j) h
    omega
theorem bl_shift (v j : Nat) (h : 2 ^ j ≤ v) : bl v = bl (v / 2 ^ j) + j := by
  apply Nat.le_antisymm
  · rw [bl_le, Nat.pow_add]
    have h2 : v / 2 ^ j < 2 ^ bl (v / 2 ^ j) := (bl_le _ _).1 (Nat.le_refl _)
    exact (Nat.div_lt_iff_lt_mul (Nat.pow_pos (by omega))).1 h2
  · have h1 : j < bl v := by
      apply Nat.lt_of_not_le
      intro hle
      have := (bl_le v j).1 hle
      omega
    have h3 : v < 2 ^ bl v := (bl_le _ _).1 (Nat.le_refl _)
    have h4 : bl (v / 2 ^ j) ≤ bl v - j := by
      rw [bl_le, Nat.div_lt_iff_lt_mul (Nat.pow_pos (by omega)), ← Nat.pow_add]
      rwa [Nat.sub_add_cancel (by omega)]
    omega
theorem bl_half (v : Nat) (h : v ≠ 0) : bl v = 1 + bl (v / 2) := by
  by_cases h1 : v = 1
  · subst h1; decide
  · have := bl_shift v 1 (by omega)
    rw [Nat.pow_one] at this
    omega
def nb (v : Nat) : Nat := (bl v + 7) / 8
def dig (v k i : Nat) : Int := ((v >>> (8 * (k - 1 - i)) % 256 : Nat) : Int)
def digs (v k j : Nat) : List Int := (List.range j).map (dig v k)
def form (v : Nat) : List Int := (nb v : Int) :: digs v (nb v) (nb v)
theorem digs_succ (v k j : Nat) : digs v k (j + 1) = digs v k j ++ [dig v k j] := by simp [digs, List.range_succ]
theorem digs_length (v k j : Nat) : (digs v k j).length = j := by simp [digs]
theorem nb_le (v : Nat) (h : v < 2 ^ 64) : nb v ≤ 8 := by have := (bl_le v 64).2 h; unfold nb; omega
theorem form_length (v : Nat) : (form v).length = nb v + 1 := by simp [form, digs_length]
theorem dig_byte (v k i : Nat) : 0 ≤ dig v k i ∧ dig v k i < 256 := by unfold dig; omega
theorem form_byte (v : Nat) (h : v < 2 ^ 64) : ∀ z ∈ form v, 0 ≤ z ∧ z < 256 := by
  intro z hz
  have := nb_le v h
  simp only [form, List.mem_cons, digs, List.mem_map] at hz
  rcases hz with rfl | ⟨i, _, rfl⟩
  · omega
  · exact dig_byte _ _ _
def pre (v j : Nat) : List Int := (nb v : Int) :: digs v (nb v) j
theorem pre_zero (v : Nat) : pre v 0 = [(nb v : Int)] := rfl
theorem pre_succ (v j : Nat) : pre v (j + 1) = pre v j ++ [dig v (nb v) j] := by simp [pre, digs_succ]
theorem pre_length (v j : Nat) : (pre v j).length = j + 1 := by simp [pre, digs_length]
def beAt (n i : Nat) : Int := ((n >>> (24 - 8 * i) % 256 : Nat) : Int)
def be (n j : Nat) : List Int := (List.range j).map (beAt n)
def leAt (n i : Nat) : Int := ((n >>> (8 * i) % 256 : Nat) : Int)
def le (n j : Nat) : List Int := (List.range j).map (leAt n)
theorem be_succ (n j : Nat) : be n (j + 1) = be n j ++ [beAt n j] := by simp [be, List.range_succ]
theorem le_succ (n j : Nat) : le n (j + 1) = le n j ++ [leAt n j] := by simp [le, List.range_succ]
theorem be_length (n j : Nat) : (be n j).length = j := by simp [be]
theorem le_length (n j : Nat) : (le n j).length = j := by simp [le]
theorem be_byte (n j : Nat) : ∀ z ∈ be n j, 0 ≤ z ∧ z < 256 := by
  intro z hz
  simp only [be, List.mem_map] at hz
  obtain ⟨i, _, rfl⟩ := hz
  unfold beAt
  omega
theorem le_byte (n j : Nat) : ∀ z ∈ le n j, 0 ≤ z ∧ z < 256 := by
  intro z hz
  simp only [le, List.mem_map] at hz
  obtain ⟨i, _, rfl⟩ := hz
  unfold leAt
  omega
def magic : List Int := [97, 109, 110, 49]
def bare (l : List Int) : List Int := magic ++ be l.length 4 ++ l
def frame (l : List Int) : List Int := bare l ++ le (sum (bare l)) 4
theorem bare_length (l : List Int) : (bare l).length = l.length + 8 := by simp [bare, magic, be_length]; omega
theorem frame_length (l : List Int) : (frame l).length = l.length + 12 := by simp [frame, bare_length, le_length]
theorem bare_byte (l : List Int) (h : ∀ z ∈ l, 0 ≤ z ∧ z < 256) : ∀ z ∈ bare l, 0 ≤ z ∧ z < 256 := by
  intro z hz
  simp only [bare, List.mem_append] at hz
  rcases hz with (hz | hz) | hz
  · simp only [magic, List.mem_cons, List.not_mem_nil, or_false] at hz
    omega
  · exact be_byte _ _ z hz
  · exact h z hz
theorem frame_byte (l : List Int) (h : ∀ z ∈ l, 0 ≤ z ∧ z < 256) : ∀ z ∈ frame l, 0 ≤ z ∧ z < 256 := by
  intro z hz
  simp only [frame, List.mem_append] at hz
  rcases hz with hz | hz
  · exact bare_byte l h z hz
  · exact le_byte _ _ z hz
end Go.Proofs.YtibedokegignhaaGreatDoor.M
namespace Go.Proofs.YtibedokegignhaaGreatDoor.Wi
open Go.RowKit
theorem int_eq {k : IntKind} {a b : Int} (h : a = b) : Value.int k a = .int k b := by rw [h]
theorem ret_int {k : IntKind} {a b : Int} (h : a = b) : Ending.returned (.int k a) = .returned (.int k b) := by rw [h]
theorem not_bits (a : Nat) (ha : a < 4294967296) : bits .xor .u32 IntKind.u32.max (a : Int) = ((4294967295 ^^^ a : Nat) : Int) :=
  u32_xor_nat 4294967295 a (by omega) ha
theorem hide {p : Prop} (h : p) : Hid p := h
theorem u32_xor_cast (a : Nat) (z : Int) (ha : a < 4294967296) (h0 : 0 ≤ z) (h1 : z < 256) :
    bits .xor .u32 (a : Int) (z % 4294967296) = ((a ^^^ z.toNat : Nat) : Int) := by
  obtain ⟨n, rfl⟩ := Int.eq_ofNat_of_zero_le h0
  have e : ((n : Int) % 4294967296) = (n : Int) := by omega
  rw [e, u32_xor_nat a n ha (by omega)]
  rfl
theorem st_bits (s : Nat) (h : s < 4294967296) : bits .xor .u32 ((s : Int) / 2) (3988292384 * bits .and .u32 (s : Int) 1 % 4294967296) = ((M.st s : Nat) : Int) := by
  have e1 : bits .and .u32 (s : Int) 1 = ((s &&& 1 : Nat) : Int) := u32_and_nat s 1 h (by omega)
  have h1 := M.mul_lt s
  have e2 : (3988292384 * ((s &&& 1 : Nat) : Int) % 4294967296) = ((3988292384 * (s &&& 1) : Nat) : Int) := by omega
  have e3 : ((s : Int) / (2 : Int)) = ((s >>> 1 : Nat) : Int) := by rw [Nat.shiftRight_eq_div_pow]; omega
  have h2 : s >>> 1 < 4294967296 := by rw [Nat.shiftRight_eq_div_pow]; omega
  rw [e1, e2, e3, u32_xor_nat _ _ h2 h1]
  rfl
set_option maxHeartbeats 400000 in
theorem sum_any (x : Addr) (len cap : Nat) (zs : List Int) (w : World) (hlen : len ≤ zs.length) (hmax : len ≤ maxLen)
    (hc : ∀ i, i < zs.length → w.cell? (x.add i) = some (.int .u8 (zs.getD i 0))) (hb : ∀ z ∈ zs, 0 ≤ z ∧ z < 256) :
    Calls Tryz.prog 93 #[.slice (some x) len cap] w fun e w' => e = .returned (.int .u32 (M.sum (zs.take len))) ∧ w' = w := by
  unfold maxLen at hmax
  obtain ⟨xb, xo, xs⟩ := x
  go_enter Tryz.func93, Tryz.ntmps93
  go_wp2
  go_loop [3, 9] (fun t i => ∃ k : Nat, k ≤ len ∧ i = .int .i64 k ∧ t = .int .u32 (M.fold 4294967295 (zs.take k) : Nat)) (fun _ i => len - (intOf i).toNat)
  case atStart => exact ⟨0, Nat.zero_le _, rfl, rfl⟩
  case round =>
    obtain ⟨k, hk, rfl, rfl⟩ := hrel
    by_cases hlt : k < len
    · have hcell := hc k (by omega)
      have hz : 0 ≤ zs.getD k 0 ∧ zs.getD k 0 < 256 := hb _ (by simp [List.getD, show k < zs.length by omega])
      have hfl : M.fold 4294967295 (zs.take k) < 4294967296 := M.fold_lt _ _ (by omega) (fun z hz => (hb z (List.mem_of_mem_take hz)).2)
      have HS := hide (M.fold_take 4294967295 zs k (by omega))
      have HX := hide (u32_xor_cast _ _ hfl hz.1 hz.2)
      go_wp2
      rw [show zs[k]?.getD 0 = zs.getD k 0 from rfl, HX.out]
      go_loop [3, 17] (fun t i => ∃ j : Nat, j ≤ 8 ∧ i = .int .i64 j ∧ t = .int .u32 (M.stN j (M.fold 4294967295 (zs.take k) ^^^ (zs.getD k 0).toNat) : Nat)) (fun _ i => 8 - (intOf i).toNat)
      case atStart => exact ⟨0, by omega, rfl, rfl⟩
      case round =>
        obtain ⟨j, hj, rfl, rfl⟩ := hrel
        by_cases hj8 : j < 8
        · go_wp2
          go_round
          case rel =>
            refine ⟨j + 1, by omega, by go_num, ?_⟩
            exact int_eq (st_bits _ (M.stN_lt j _ (M.xor_lt hfl (show (zs.getD k 0).toNat < 4294967296 by omega))))
          case measure => simp [intOf]; omega
        · go_wp2
          go_round
          case rel =>
            refine ⟨k + 1, by omega, by go_num, ?_⟩
            obtain rfl : j = 8 := by omega
            exact int_eq (by rw [HS.out]; rfl)
          case measure => simp [intOf]; omega
    · obtain rfl : k = len := by omega
      have hfl : M.fold 4294967295 (zs.take k) < 4294967296 := M.fold_lt _ _ (by omega) (fun z hz => (hb z (List.mem_of_mem_take hz)).2)
      have HX := hide (not_bits _ hfl)
      go_wp2
      go_ret
      exact ⟨ret_int HX.out, rfl⟩
theorem tab_size : Lib.len8tab.size = 256 := by decide
theorem tab_at (y : Int) (h : y.toNat < Lib.len8tab.size) (h0 : 0 ≤ y) (h1 : y ≤ 255) : ((Lib.len8tab[y.toNat]'h).toNat : Int) = (Lib.bitLen y.toNat : Nat) := by
  rw [← Lib.len8_of y h0 h1]
  unfold Lib.len8
  rw [getElem?_pos Lib.len8tab y.toNat h]
  rfl
theorem way (k : Nat) (x y : Int) (h : y.toNat < Lib.len8tab.size) (hk : k ≤ 56) (h0 : 0 ≤ y) (h1 : y ≤ 255) (e : y.toNat = x.toNat / 2 ^ k) (hx : 2 ^ k ≤ x.toNat) (hm : x.toNat < 2 ^ 64) :
    wrap64 ((k : Int) + wrap64 ((Lib.len8tab[y.toNat]'h).toNat : Int)) = (Lib.bitLen x.toNat : Nat) := by
  have hl := Lib.bitLen_le8' y h0 h1
  rw [tab_at y h h0 h1, Lib.bitLen_shift k x.toNat hx hm, ← e]
  unfold wrap64
  omega
theorem way0 (y : Int) (h : y.toNat < Lib.len8tab.size) (h0 : 0 ≤ y) (h1 : y ≤ 255) :
    wrap64 ((Lib.len8tab[y.toNat]'h).toNat : Int) = (Lib.bitLen y.toNat : Nat) := by
  have hl := Lib.bitLen_le8' y h0 h1
  rw [tab_at y h h0 h1]
  unfold wrap64
  omega
theorem way00 (y : Int) (h : y.toNat < Lib.len8tab.size) (h0 : 0 ≤ y) (h1 : y ≤ 255) :
    wrap64 (wrap64 ((Lib.len8tab[y.toNat]'h).toNat : Int)) = (Lib.bitLen y.toNat : Nat) := by
  rw [way0 y h h0 h1]
  have hl := Lib.bitLen_le8' y h0 h1
  unfold wrap64
  omega
set_option maxHeartbeats 1000000 in
theorem len64_raw (x : Int) (w : World) (h0 : 0 ≤ x) (h1 : x ≤ 18446744073709551615) :
    Calls Tryz.prog 149 #[.int .u64 x] w fun e w' => e = .returned (.int .i64 (Lib.bitLen x.toNat)) ∧ w' = w := by
  go_enter Tryz.func149, Tryz.ntmps149
  go_wp2
  all_goals first
    | (go_ret; refine ⟨ret_int ?_, rfl⟩; go_light)
    | (exfalso; go_light; have hs := tab_size; omega)
  all_goals first
    | exact way 56 x _ _ (by omega) (by omega) (by omega) (by omega) (by omega) (by omega)
    | exact way 48 x _ _ (by omega) (by omega) (by omega) (by omega) (by omega) (by omega)
    | exact way 40 x _ _ (by omega) (by omega) (by omega) (by omega) (by omega) (by omega)
    | exact way 32 x _ _ (by omega) (by omega) (by omega) (by omega) (by omega) (by omega)
    | exact way 24 x _ _ (by omega) (by omega) (by omega) (by omega) (by omega) (by omega)
    | exact way 16 x _ _ (by omega) (by omega) (by omega) (by omega) (by omega) (by omega)
    | exact way 8 x _ _ (by omega) (by omega) (by omega) (by omega) (by omega) (by omega)
    | exact way00 x _ (by omega) (by omega)
    | exact way0 x _ (by omega) (by omega)
theorem bitLenAux_bl : ∀ (f x : Nat), x < 2 ^ f → Lib.bitLenAux f x = M.bl x
  | 0, x, h => by
    obtain rfl : x = 0 := by simpa using h
    rfl
  | f + 1, x, h => by
    simp only [Lib.bitLenAux]
    split
    · rename_i hx; subst hx; rfl
    · rename_i hx
      rw [bitLenAux_bl f (x / 2) (by rw [Nat.pow_succ] at h; omega), M.bl_half x hx]
theorem len64_any (x : Nat) (w : World) (h : x < 2 ^ 64) :
    Calls Tryz.prog 149 #[.int .u64 x] w fun e w' => e = .returned (.int .i64 (M.bl x)) ∧ w' = w := by
  have := len64_raw x w (by omega) (by omega)
  rw [show Lib.bitLen (x : Int).toNat = M.bl x from by rw [Int.toNat_natCast]; exact bitLenAux_bl 64 x h] at this
  exact this
theorem Tryz.info5 : (Tryz.prog.info? 5).map (fun i => (i.zero, i.size, i.bytes)) = some (some (.int .u8 0), 1, 1) := by kernel_rfl
def bs (l : List Int) : List Value := l.map (Value.int .u8)
theorem bs_append (a b : List Int) : bs (a ++ b) = bs a ++ bs b := by simp [bs]
theorem bs_oneCell (l : List Int) : ∀ u ∈ bs l, u.oneCell' = true := ints_oneCell .u8 l
def Own (B : Nat) (w : World) (v : Value) (l : List Int) : Prop := w.ownsRow B 5 1 v l.length (bs l)
theorem Own.alloc {B : Nat} {w : World} {v : Value} {l : List Int} (h : Own B w v l) (o : Obj) : Own B (w.alloc o) v l := World.ownsRow.alloc h o
theorem Own.nil (B : Nat) (w : World) : Own B w (.slice none 0 0) [] := World.ownsRow_nil w B 5 1
theorem Own.grown {B : Nat} {w0 w w' : World} {v : Value} {l : List Int} (ho : Own B w v l) (h0 : Below B w0 w) (hg : w.grownBy w' v.ownBlock) (hB : B ≤ w.heap.size) : Below B w0 w' :=
  h0.grown hg hB (fun k hk => (World.ownsRow.lt ho k hk).1)
def Keeps (v v' : Value) (m : Nat) : Prop := v ≠ .slice none 0 0 ∨ 0 < m → v' ≠ .slice none 0 0
theorem app_any (w : World) {ops : Array Oper} {rest : List Oper} {o : Oper} {a : Act} {Q : Exit → Act → World → Prop} (hgd : o.guard = none) (s x : Operand)
    (ho : o.op = .call { callee := .builtin .append, args := #[s, x], argTypes := #[55, 55] }) (B : Nat) (l : List Int) (v : Value) (hs : a.eval s = v)
    (ad : Addr) (m c : Nat) (hx : a.eval x = .slice (some ad) m c) (news : List Int) (hm : news.length = m) (hown : Own B w v l)
    (hnews : ∀ j, j < m → w.cell? (ad.add j) = some (.int .u8 (news.getD j 0))) (hB : B ≤ w.heap.size) (hb : l.length + m ≤ 140737488355328)
    (h : ∀ v' w', Own B w' v' (l ++ news) → Keeps v v' m → w.grownBy w' v.ownBlock → wpList Tryz.prog ops Q rest (a.put o.dst v') w') : wpList Tryz.prog ops Q (o :: rest) a w := by
  obtain ⟨i0, hi, hz0, hz1, hz2⟩ := info_parts Tryz.info5
  refine wpList_append_own _ hgd s x 55 ho B 5 i0 (.int .u8 0) 1 1 Tryz.underlying55 hi hz0 hz1 hz2 rfl (by decide) v l.length (bs l) hs hown ad m c (bs news) hx (by simp [bs, hm]) ?_ (bs_oneCell _) (by unfold maxLen; omega) (by omega) hB ?_
  · intro j u hu
    have hj : j < news.length := by simpa [bs] using (List.getElem?_eq_some_iff.1 hu).1
    rw [hnews j (by omega), ← hu]
    simp [bs, hj, List.getD]
  · intro v' w' h2 h3 h4
    refine h v' w' ?_ ?_ h3
    · unfold Own; rw [bs_append, List.length_append, hm]; exact h2
    · intro hp he
      obtain ⟨k1, k2⟩ := h4.1 he
      rcases hp with hp | hp
      · exact hp k1
      · omega
theorem app_one (w : World) {ops : Array Oper} {rest : List Oper} {o : Oper} {a : Act} {Q : Exit → Act → World → Prop} (hgd : o.guard = none) (s x : Operand)
    (ho : o.op = .call { callee := .builtin .append, args := #[s, x], argTypes := #[55, 55] }) (B : Nat) (l : List Int) (v : Value) (hs : a.eval s = v)
    (ad : Addr) (hx : a.eval x = .slice (some ad) 1 1) (y : Int) (hc : w.cell? ad = some (.int .u8 y)) (hown : Own B w v l) (hB : B ≤ w.heap.size) (hb : l.length + 1 ≤ 140737488355328)
    (h : ∀ v' w', Own B w' v' (l ++ [y]) → v' ≠ .slice none 0 0 → w.grownBy w' v.ownBlock → wpList Tryz.prog ops Q rest (a.put o.dst v') w') : wpList Tryz.prog ops Q (o :: rest) a w := by
  refine app_any w hgd s x ho B l v hs ad 1 1 hx [y] rfl hown ?_ hB hb fun v' w' h1 h2 h3 => h v' w' h1 (h2 (.inr (by omega))) h3
  intro j hj
  obtain rfl : j = 0 := by omega
  obtain ⟨b, o, s⟩ := ad
  exact hc
theorem dig_eq (x k j : Nat) : ((x : Int) / 2 ^ (8 * (k - 1 - j)) % 256) = M.dig x k j := by
  unfold M.dig
  rw [Nat.shiftRight_eq_div_pow]
  simp
set_option maxHeartbeats 400000 in
theorem appendNumber_any (B : Nat) (v : Value) (l : List Int) (x : Nat) (w : World) (hown : Own B w v l) (hB : B ≤ w.heap.size) (hx : x < 2 ^ 64) (hl : l.length + 9 ≤ 140737488355328) :
    Calls Tryz.prog 139 #[v, .int .u64 x] w fun e w' => ∃ v', e = .returned v' ∧ Own B w' v' (l ++ M.form x) ∧ v' ≠ .slice none 0 0 ∧ Below B w w' := by
  have hk8 := M.nb_le x hx
  have hbl : M.bl x ≤ 64 := (M.bl_le x 64).2 hx
  have HC := len64_any x
  have hc := fun w => HC w hx
  clear HC
  have HX := hide hx
  have HL := hide hl
  clear hx hl
  go_enter Tryz.func139, Tryz.ntmps139
  go_wp2_with fail
  refine (hc _).mono ?_
  clear hc
  rintro e w' ⟨rfl, rfl⟩
  go_wp2_with (at_builtin; go_must (refine app_one _ rfl (.tmp 11) (.tmp 14) rfl B l v rfl _ rfl (((M.bl x : Int) + 7) / 8) ?zc ?zown ?zB ?zb ?zk))
  case zc => simp
  case zown => exact hown.alloc _
  case zB => simp; omega
  case zb => have := HL.out; omega
  case zk =>
    intro v1 w1 h1 h2 h3
    have hb1 : Below B w' w1 := (hown.alloc _).grown ((Below.refl B w').alloc hB (.cells #[.int .u8 (((M.bl x : Int) + 7) / 8)] 5)) h3 (by simp; omega)
    clear h3 hown
    have ek : (((M.bl x : Int) + 7) / 8) = ((M.nb x : Nat) : Int) := by unfold M.nb; omega
    rw [ek, ← M.pre_zero] at h1
    rw [ek]
    go_wp2_with fail
    go_loopw [0, 6, 17] (fun b _ i wr => ∃ j : Nat, j ≤ M.nb x ∧ i = .int .i64 j ∧ Own B wr b (l ++ M.pre x j) ∧ Below B w' wr ∧ b ≠ .slice none 0 0) (fun _ _ i _ => M.nb x - (intOf i).toNat)
    case atStart => exact ⟨0, Nat.zero_le _, rfl, h1, hb1, h2⟩
    case round =>
      obtain ⟨j, hj, rfl, hr, hbr, hn⟩ := hrel
      have hsr := hbr.size
      by_cases hlt : j < M.nb x
      · go_wp2_with (at_builtin; go_must (refine app_one _ rfl (.tmp 20) (.tmp 29) rfl B (l ++ M.pre x j) u0 rfl _ rfl ((x : Int) / 2 ^ (8 * (M.nb x - 1 - j)) % 256) ?zc ?zown ?zB ?zb ?zk))
        case zc => simp
        case zown => exact hr.alloc _
        case zB => simp; omega
        case zb => have := HL.out; simp [M.pre_length]; omega
        case zk =>
          intro v2 w2 k1 k2 k3
          have hb2 : Below B w' w2 := (hr.alloc _).grown (hbr.alloc (by omega) (.cells #[.int .u8 ((x : Int) / 2 ^ (8 * (M.nb x - 1 - j)) % 256)] 5)) k3 (by simp; omega)
          have k4 : Own B w2 v2 (l ++ M.pre x (j + 1)) := by rw [M.pre_succ, ← dig_eq]; exact k1
          clear k1 k3 hr hbr
          go_wp2
          go_roundw
          case rel => exact ⟨j + 1, by omega, by go_num, k4, hb2, k2⟩
          case measure => simp [intOf]; omega
      · obtain rfl : j = M.nb x := by omega
        go_wp2
        go_ret
        exact ⟨_, rfl, hr, hn, hbr⟩
def sb (s : ByteArray) : List Int := s.data.toList.map fun b => (b.toNat : Int)
theorem sb_length (s : ByteArray) : (sb s).length = s.size := by
  rw [sb, List.length_map, Array.length_toList]
  rfl
theorem sb_cells (s : ByteArray) : Lib.strCells s = bs (sb s) := by simp [Lib.strCells, bs, sb]
theorem sb_byte (s : ByteArray) : ∀ z ∈ sb s, 0 ≤ z ∧ z < 256 := by
  intro z hz
  simp only [sb, List.mem_map] at hz
  obtain ⟨b, _, rfl⟩ := hz
  have := b.toNat_lt
  omega
theorem app_str (w : World) {ops : Array Oper} {rest : List Oper} {o : Oper} {a : Act} {Q : Exit → Act → World → Prop} (hgd : o.guard = none) (sl x : Operand)
    (ho : o.op = .call { callee := .builtin .append, args := #[sl, x], argTypes := #[55, 9] }) (B : Nat) (l : List Int) (v : Value) (hs : a.eval sl = v)
    (s : ByteArray) (hx : a.eval x = .string s) (hown : Own B w v l) (hB : B ≤ w.heap.size) (hb : l.length + s.size ≤ 140737488355328)
    (h : ∀ v' w', Own B w' v' (l ++ sb s) → Keeps v v' s.size → w.grownBy w' v.ownBlock → wpList Tryz.prog ops Q rest (a.put o.dst v') w') : wpList Tryz.prog ops Q (o :: rest) a w := by
  obtain ⟨i0, hi, hz0, hz1, hz2⟩ := info_parts Tryz.info5
  refine Lib.wpList_append_own_string w hgd sl x 55 9 ho B 5 i0 Tryz.underlying55 Tryz.underlying9 hi hz0 hz1 hz2 v l.length (bs l) hs hown s hx (by unfold maxLen; omega) hb hB ?_
  intro v' w' h2 h3 h4
  refine h v' w' ?_ ?_ h3
  · unfold Own; rw [bs_append, List.length_append, sb_length, ← sb_cells]; exact h2
  · intro hp he
    obtain ⟨k1, k2⟩ := h4.1 he
    rcases hp with hp | hp
    · exact hp k1
    · omega
structure WNew (w : World) (b : Nat) : Prop where
  lt : b < w.heap.size
  c0 : w.cell? ⟨b, 0, none⟩ = some (.pointer none)
  c1 : w.cell? ⟨b, 1, none⟩ = some (.int .i64 0)
  c2 : w.cell? ⟨b, 2, none⟩ = some (.int .i64 0)
  f0 : w.frozen? ⟨b, 0, none⟩ = false
  f1 : w.frozen? ⟨b, 1, none⟩ = false
  f2 : w.frozen? ⟨b, 2, none⟩ = false
structure WHas (w : World) (b q : Nat) (s : Option Addr) (n c : Nat) (l : List Int) : Prop where
  lt : b < q
  ltq : q < w.heap.size
  len : n = l.length
  c0 : w.cell? ⟨b, 0, none⟩ = some (.pointer (some ⟨q, 0, none⟩))
  c1 : w.cell? ⟨b, 1, none⟩ = some (.int .i64 n)
  c2 : w.cell? ⟨b, 2, none⟩ = some (.int .i64 0)
  f0 : w.frozen? ⟨b, 0, none⟩ = false
  f1 : w.frozen? ⟨b, 1, none⟩ = false
  f2 : w.frozen? ⟨b, 2, none⟩ = false
  cq : w.cell? ⟨q, 0, none⟩ = some (.slice s n c)
  fq : w.frozen? ⟨q, 0, none⟩ = false
  own : Own (q + 1) w (.slice s n c) l
def WOk (w : World) (b : Nat) (l : List Int) : Prop := (l = [] ∧ WNew w b) ∨ ∃ q g n c, WHas w b q (some ⟨g, 0, none⟩) n c l
set_option maxHeartbeats 400000 in
theorem own_nil (b : Nat) (w : World) (hb : b < w.heap.size) (h0 : w.cell? ⟨b, 0, none⟩ = some (.pointer none)) (f0 : w.frozen? ⟨b, 0, none⟩ = false) :
    Calls Tryz.prog 138 #[.pointer (some ⟨b, 0, none⟩)] w fun e w' => e = .returned (.pointer (some ⟨w.heap.size, 0, none⟩)) ∧
      w' = (w.setCell ⟨b, 0, none⟩ (.pointer (some ⟨w.heap.size, 0, none⟩))).alloc (.cells #[.slice none 0 0] 151) := by
  go_enter Tryz.func138, Tryz.ntmps138
  go_wp2
  go_ret
  exact ⟨rfl, rfl⟩
set_option maxHeartbeats 400000 in
theorem own_has (b q n : Nat) (s : Option Addr) (c : Nat) (w : World) (h0 : w.cell? ⟨b, 0, none⟩ = some (.pointer (some ⟨q, 0, none⟩))) (h1 : w.cell? ⟨b, 1, none⟩ = some (.int .i64 n)) (hq : w.cell? ⟨q, 0, none⟩ = some (.slice s n c)) :
    Calls Tryz.prog 138 #[.pointer (some ⟨b, 0, none⟩)] w fun e w' => e = .returned (.pointer (some ⟨q, 0, none⟩)) ∧ ∃ k, w' = w.drewN k := by
  go_enter Tryz.func138, Tryz.ntmps138
  go_wp2
  go_quiet (fail)
  go_wp2
  go_ret
  exact ⟨rfl, _, rfl⟩
theorem own_any (B b : Nat) (l : List Int) (w : World) (hB : B ≤ b) (h : WOk w b l) :
    Calls Tryz.prog 138 #[.pointer (some ⟨b, 0, none⟩)] w fun e w' => ∃ q s n c, e = .returned (.pointer (some ⟨q, 0, none⟩)) ∧ WHas w' b q s n c l ∧ Below B w w' := by
  rcases h with ⟨rfl, h⟩ | ⟨q, g, n, c, h⟩
  · refine (own_nil b w h.lt h.c0 h.f0).mono ?_
    rintro e w' ⟨rfl, rfl⟩
    have hlt := h.lt
    refine ⟨w.heap.size, none, 0, 0, rfl, ⟨h.lt, by simp, rfl, ?_, ?_, ?_, ?_, ?_, ?_, ?_, ?_, Own.nil _ _⟩, ((Below.refl B w).setCell hB _).alloc (by simp; omega) _⟩
    all_goals obtain ⟨_, c0, c1, c2, f0, f1, f2⟩ := h
    all_goals go_simp
  · refine (own_has b q n (some ⟨g, 0, none⟩) c w h.c0 h.c1 h.cq).mono ?_
    rintro e w' ⟨rfl, k, rfl⟩
    exact ⟨q, _, n, c, rfl, ⟨h.lt, h.ltq, h.len, h.c0, h.c1, h.c2, h.f0, h.f1, h.f2, h.cq, h.fq, h.own⟩, below_drewN (Below.refl _ _) k⟩
theorem Own.shape {B : Nat} {w : World} {v : Value} {l : List Int} (h : Own B w v l) (hn : v ≠ .slice none 0 0) : ∃ g c, v = .slice (some ⟨g, 0, none⟩) l.length c ∧ B ≤ g ∧ g < w.heap.size := by
  have hl := World.ownsRow.lt h
  rcases h.2 with ⟨h1, _⟩ | ⟨g, c, _, h1, h2, _⟩
  · exact absurd h1 hn
  · exact ⟨g, c, h1, h2, (hl g (by rw [h1]; rfl)).2⟩
theorem Own.setCell_below {B : Nat} {w : World} {v : Value} {l : List Int} (h : Own B w v l) {a : Addr} (ha : a.block < B) (u : Value) : Own B (w.setCell a u) v l := ownsRow_setCell_below h ha u
set_option maxHeartbeats 400000 in
theorem lay_any (B b : Nat) (l : List Int) (x : Nat) (t : ByteArray) (w : World) (hB : B ≤ b) (h : WOk w b l) (hx : x < 2 ^ 64) (hl : l.length + 9 + t.size ≤ 140737488355328) :
    Calls Tryz.prog 119 #[.pointer (some ⟨b, 0, none⟩), .int .u64 x, .string t] w fun e w' => e = .returned (.tuple #[]) ∧ WOk w' b (l ++ M.form x ++ sb t) ∧ Below B w w' := by
  have hnb := M.nb_le x hx
  have HX := hide hx
  have HL := hide hl
  clear hx hl
  go_enter Tryz.func119, Tryz.ntmps119
  go_wp2_with fail
  refine (own_any B b l w hB h).mono ?_
  clear h
  rintro e w1 ⟨q, s, n, c, rfl, hw, hb1⟩
  obtain ⟨hlt, hltq, hlen, c0, c1, c2, f0, f1, f2, cq, fq, ho⟩ := hw
  have HLEN := hide hlen
  clear hlen
  go_wp2_with fail
  refine (appendNumber_any (q + 1) _ l x _ ho (by omega) HX.out (by have := HL.out; omega)).mono ?_
  clear ho
  rintro e w2 ⟨v2, rfl, ho2, hn2, hb2⟩
  have hs2 := hb2.size
  go_wp2_with (at_builtin; go_must (refine app_str _ rfl (.tmp 15) (.tmp 16) rfl (q + 1) (l ++ M.form x) v2 rfl t rfl ho2 ?zB ?zb ?zk))
  case zB => omega
  case zb => have := HL.out; simp [M.form_length]; omega
  case zk =>
    intro v3 w3 ho3 hn3 hg3
    have hb3 : Below (q + 1) w1 w3 := ho2.grown hb2 hg3 (by omega)
    have hs3 := hb3.size
    obtain ⟨g, c3, hv3, hg1, hg2⟩ := ho3.shape (hn3 (.inl hn2))
    subst hv3
    clear hn3 hg3 hn2 hb2 ho2
    rw [← List.append_assoc] at ho3
    generalize hLL : l ++ M.form x ++ sb t = L at *
    rw [show l ++ (M.form x ++ sb t) = L from by rw [← hLL, List.append_assoc]]
    generalize hNN : L.length = N at *
    have HLL := hide hLL
    have HNN := hide hNN
    clear hLL hNN
    have d0 := (hb3.cell (p := ⟨b, 0, none⟩) (by show b < q + 1; omega)).trans c0
    have d1 := (hb3.cell (p := ⟨b, 1, none⟩) (by show b < q + 1; omega)).trans c1
    have d2 := (hb3.cell (p := ⟨b, 2, none⟩) (by show b < q + 1; omega)).trans c2
    have e0 := (hb3.frozen (p := ⟨b, 0, none⟩) (by show b < q + 1; omega)).trans f0
    have e1 := (hb3.frozen (p := ⟨b, 1, none⟩) (by show b < q + 1; omega)).trans f1
    have e2 := (hb3.frozen (p := ⟨b, 2, none⟩) (by show b < q + 1; omega)).trans f2
    have dq := (hb3.cell (p := ⟨q, 0, none⟩) (by show q < q + 1; omega)).trans cq
    have eq := (hb3.frozen (p := ⟨q, 0, none⟩) (by show q < q + 1; omega)).trans fq
    clear c0 c1 c2 f0 f1 f2 cq fq
    go_wp2
    go_end0
    rw [HLL.out]
    refine ⟨rfl, Or.inr ⟨q, g, N, c3, ⟨hlt, by simp; omega, HNN.out.symm, ?_, ?_, ?_, ?_, ?_, ?_, ?_, ?_, ?_⟩⟩, hb1.trans (((hb3.mono (by omega)).setCell (by show B ≤ q; omega) _).setCell hB _)⟩
    all_goals first | (exact (ho3.setCell_below (by show q < q + 1; omega) _).setCell_below (by show b < q + 1; omega) _) | go_simp
def Row (w : World) (x : Addr) (zs : List Int) : Prop := ∀ i, i < zs.length → w.cell? (x.add i) = some (.int .u8 (zs.getD i 0))
theorem Row.later {w w' : World} {x : Addr} {zs : List Int} (h : Row w x zs) (hb : Below w.heap.size w w') : Row w' x zs := fun i hi => cell_later hb (h i hi)
set_option maxHeartbeats 400000 in
theorem clone_any (x : Addr) (len cap : Nat) (zs : List Int) (w : World) (hl : len ≤ zs.length) (hm : len ≤ 140737488355328) (hc : Row w x zs) :
    Calls Tryz.prog 92 #[.slice (some x) len cap] w fun e w' => ∃ v', e = .returned v' ∧ Own w.heap.size w' v' (zs.take len) ∧ v' ≠ .slice none 0 0 ∧ Below w.heap.size w w' := by
  have kn := fun (w : World) => Lib.run_eql_slice_nil (P := Tryz.prog) w 55 5 (some x) len cap 0 0 Tryz.underlying55
  go_enter Tryz.func92, Tryz.ntmps92
  go_wp2_with (at_builtin; go_must (refine app_any _ rfl (.tmp 5) (.tmp 6) rfl w.heap.size [] _ rfl x len cap rfl (zs.take len) ?zl ?zown ?zc ?zB ?zb ?zk))
  case zl => simp; omega
  case zown => exact World.ownsRow_made w #[] 0 (Nat.le_refl _) (by unfold maxLen; omega) rfl
  case zc =>
    intro j hj
    rw [List.getD_eq_getElem?_getD, List.getElem?_take_of_lt hj, ← List.getD_eq_getElem?_getD]
    exact hc.later ((Below.refl _ _).alloc (Nat.le_refl _) _) j (by omega)
  case zB => simp
  case zb => simpa using hm
  case zk =>
    intro v' w' h1 h2 h3
    have hb : Below w.heap.size w w' := ((Below.refl _ _).alloc (Nat.le_refl _) _).grown h3 (by simp) (fun k hk => by cases hk; exact Nat.le_refl _)
    go_wp2
    go_ret
    exact ⟨v', rfl, h1, h2 (.inl (by intro h; cases h)), hb⟩
theorem Own.row {B : Nat} {w : World} {g n c : Nat} {l : List Int} (h : Own B w (.slice (some ⟨g, 0, none⟩) n c) l) : Row w ⟨g, 0, none⟩ l := by
  intro i hi
  refine World.ownsRow.cells h (g := g) rfl i _ ?_
  simp [bs, hi, List.getD]
theorem Own.cap {B : Nat} {w : World} {g n c : Nat} {l : List Int} (h : Own B w (.slice (some ⟨g, 0, none⟩) n c) l) : n ≤ c := by
  rcases h.2 with ⟨h1, _⟩ | ⟨g, c, _, h1, _, _, h2, _⟩
  · cases h1
  · cases h1; exact h2
structure Hs (w : World) (a : Option Addr) (n c : Nat) (l : List Int) : Prop where
  len : l.length = n
  cap : n ≤ c
  row : ∀ x, a = some x → Row w x l
  nil : a = none → l = [] ∧ c = 0
  byte : ∀ z ∈ l, 0 ≤ z ∧ z < 256
theorem Hs.later {w w' : World} {a : Option Addr} {n c : Nat} {l : List Int} (h : Hs w a n c l) (hb : Below w.heap.size w w') : Hs w' a n c l :=
  ⟨h.len, h.cap, fun x hx => (h.row x hx).later hb, h.nil, h.byte⟩
theorem Row.take {w : World} {x : Addr} {l : List Int} (h : Row w x l) (k : Nat) : Row w x (l.take k) := by
  intro i hi
  have h1 : i < k := by simp at hi; omega
  have h2 : i < l.length := by simp at hi; omega
  rw [List.getD_eq_getElem?_getD, List.getElem?_take_of_lt h1, ← List.getD_eq_getElem?_getD]
  exact h i h2
theorem Own.hs {B : Nat} {w : World} {v : Value} {l : List Int} (h : Own B w v l) (hb : ∀ z ∈ l, 0 ≤ z ∧ z < 256) : ∃ a n c, v = .slice a n c ∧ Hs w a n c l ∧ (v ≠ .slice none 0 0 → a ≠ none) := by
  by_cases hn : v = .slice none 0 0
  · subst hn
    have hl : l = [] := by
      rcases h.2 with ⟨_, h2⟩ | ⟨_, _, _, h2, _⟩
      · exact List.eq_nil_of_length_eq_zero h2
      · cases h2
    subst hl
    exact ⟨none, 0, 0, rfl, ⟨rfl, Nat.le_refl _, fun x hx => by (cases hx), fun _ => ⟨rfl, rfl⟩, hb⟩, fun h => absurd rfl h⟩
  · obtain ⟨g, c, rfl, _, _⟩ := h.shape hn
    exact ⟨_, _, c, rfl, ⟨rfl, h.cap, fun x hx => by (cases hx; exact h.row), fun hx => by (cases hx), hb⟩, fun _ => by simp⟩
theorem app_hs (w : World) {ops : Array Oper} {rest : List Oper} {o : Oper} {a : Act} {Q : Exit → Act → World → Prop} (hgd : o.guard = none) (s x : Operand)
    (ho : o.op = .call { callee := .builtin .append, args := #[s, x], argTypes := #[55, 55] }) (B : Nat) (l : List Int) (v : Value) (hs : a.eval s = v)
    (ad : Option Addr) (m c : Nat) (hx : a.eval x = .slice ad m c) (news : List Int) (hh : Hs w ad m c news) (hown : Own B w v l) (hB : B ≤ w.heap.size) (hb : l.length + m ≤ 140737488355328)
    (h : ∀ v' w', Own B w' v' (l ++ news) → Keeps v v' m → w.grownBy w' v.ownBlock → wpList Tryz.prog ops Q rest (a.put o.dst v') w') : wpList Tryz.prog ops Q (o :: rest) a w := by
  cases ad with
  | none =>
    obtain ⟨rfl, rfl⟩ := hh.nil rfl
    obtain rfl : m = 0 := hh.len.symm
    obtain ⟨i0, hi, hz0, hz1, hz2⟩ := info_parts Tryz.info5
    refine wpList_append_own_none hgd s x 55 ho B 5 i0 1 Tryz.underlying55 hi v l.length (bs l) hs hown hx ?_
    refine h v w (by rw [List.append_nil]; exact hown) ?_ (World.grownBy.refl _ _)
    rintro (hp | hp)
    · exact hp
    · omega
  | some y =>
    refine app_any w hgd s x ho B l v hs y m c hx news hh.len hown (fun j hj => hh.row y rfl j (by rw [hh.len]; exact hj)) hB hb h
set_option maxHeartbeats 400000 in
theorem bytes_new (b : Nat) (w : World) (h : WNew w b) :
    Calls Tryz.prog 45 #[.pointer (some ⟨b, 0, none⟩)] w fun e w' => e = .returned (.tuple #[.slice none 0 0, .int .i64 0]) ∧ w' = w := by
  obtain ⟨_, c0, c1, c2, f0, f1, f2⟩ := h
  go_enter Tryz.func45, Tryz.ntmps45
  go_wp2
  go_ret2
  exact ⟨rfl, rfl⟩
set_option maxHeartbeats 400000 in
theorem bytes_has (b q g n c : Nat) (l : List Int) (w : World) (h : WHas w b q (some ⟨g, 0, none⟩) n c l) (hl : l.length ≤ 140737488355328) :
    Calls Tryz.prog 45 #[.pointer (some ⟨b, 0, none⟩)] w fun e w' => ∃ v, e = .returned (.tuple #[v, .int .i64 0]) ∧ Own w.heap.size w' v l ∧ Below w.heap.size w w' := by
  obtain ⟨_, _, hlen, c0, c1, c2, f0, f1, f2, cq, fq, ho⟩ := h
  have hr := ho.row
  have hl1 : n ≤ l.length := by omega
  have hl2 : n ≤ 140737488355328 := by omega
  have HL := hide hlen
  have hnc := ho.cap
  clear hlen ho fq
  go_enter Tryz.func45, Tryz.ntmps45
  go_wp2
  go_region_with (go_at_call 92; refine (clone_any ⟨g, 0, none⟩ n c l _ hl1 hl2 ?_).mono ?_; exact hr; rintro e w' ⟨v', rfl, h1, h2, h3⟩)
  all_goals
    have h4 : Own w.heap.size w' v' l := by
      have := h1
      rw [List.take_of_length_le (by have := HL.out; omega)] at this
      exact this
    have h5 : Below w.heap.size w w' := ((Below.refl _ _).drew).trans h3
    clear h1 h3
    go_wp2
    go_ret2
    exact ⟨v', rfl, h4, h5⟩
end Go.Proofs.YtibedokegignhaaGreatDoor.Wi
namespace Go.Proofs.YtibedokegignhaaGreatDoor
abbrev Cl := Int × ByteArray
def gv (L : List Cl) (s : Int) : Option ByteArray := (L.find? (fun p => p.1 == s)).map (·.2)
def bh : List Cl → Int
  | [] => 0
  | p :: r => max (p.1 + 1) (bh r)
def ins (p : Cl) : List Cl → List Cl
  | [] => [p]
  | y :: r => if p.1 < y.1 then p :: y :: r else y :: ins p r
def cR (v : Value) : Option (DataW Unit × List MemPlace) :=
  match v with
  | .agg a => match a.toList with
    | [.int .i64 s, .string x] => some (.agg [.lit (.int .i64 s), .lit (.string x.data.toList)], [])
    | _ => none
  | _ => none
def cD (p : Cl) : DataW Unit := .agg [.lit (.int .i64 p.1), .lit (.string p.2.data.toList)]
def mD (L : List Cl) : DataW Unit := .map (L.map fun p => (.int .i64 p.1, cD p))
def ck (k s : Int) (v : ByteArray) : Int :=
  if k = 1 ∨ k = 3 then
    if s < 0 ∨ 1024 ≤ s then 41 else if (if k = 1 then 64 else 0) < v.size then 42 else 0
  else if k = 2 ∨ k = 4 then
    if s ≠ 0 then 41 else if (if k = 2 then 64 else 0) < v.size then 42 else 0
  else 40
def wd (L : List Cl) (k s : Int) (v : ByteArray) : Int × Int × ByteArray :=
  if ck k s v ≠ 0 then (0, 0, ByteArray.empty)
  else if k = 1 then match gv L s with
    | some x => (2, s, x)
    | none => (1, s, v)
  else if k = 2 then (if bh L < 1024 then (1, bh L, v) else (3, 0, ByteArray.empty))
  else if k = 3 then match gv L s with
    | some x => (4, s, x)
    | none => (5, s, ByteArray.empty)
  else (6, L.length, ByteArray.empty)
def dn (L : List Cl) (k s : Int) (v : ByteArray) : List Cl := if (wd L k s v).1 = 1 then ins (wd L k s v).2 L else L
end Go.Proofs.YtibedokegignhaaGreatDoor
namespace Go.Proofs.YtibedokegignhaaGreatDoor
open Go.RowKit Go.Maps
theorem hide {p : Prop} (h : p) : Hid p := h
theorem i64_wf {a : Int} (h : (Lit.int .i64 a).wf = true) : -9223372036854775808 ≤ a ∧ a ≤ 9223372036854775807 := by
  simp [Lit.wf, IntKind.min, IntKind.max, IntKind.bits, IntKind.signed] at h
  omega
theorem wf_i64 {a : Int} (h : -9223372036854775808 ≤ a ∧ a ≤ 9223372036854775807) : (Lit.int .i64 a).wf = true := by
  simp [Lit.wf, IntKind.min, IntKind.max, IntKind.bits, IntKind.signed]
  omega
structure Upd (S : Nat → Prop) (w w' : World) : Prop where
  os : w'.os = w.os
  tape : w'.tape = w.tape
  output : w'.output = w.output
  size : w.heap.size ≤ w'.heap.size
  block : ∀ k, k < w.heap.size → ¬ S k → w'.heap[k]? = w.heap[k]?
theorem Upd.refl (S : Nat → Prop) (w : World) : Upd S w w := ⟨rfl, rfl, rfl, Nat.le_refl _, fun _ _ _ => rfl⟩
theorem Upd.trans {S : Nat → Prop} {a b c : World} (h : Upd S a b) (k : Upd S b c) : Upd S a c :=
  ⟨k.os.trans h.os, k.tape.trans h.tape, k.output.trans h.output, Nat.le_trans h.size k.size, fun i hi hs => (k.block i (Nat.lt_of_lt_of_le hi h.size) hs).trans (h.block i hi hs)⟩
theorem Upd.mono {S T : Nat → Prop} {w w' : World} (h : Upd S w w') (hs : ∀ k, k < w.heap.size → S k → T k) : Upd T w w' :=
  ⟨h.os, h.tape, h.output, h.size, fun k hk ht => h.block k hk (fun h2 => ht (hs k hk h2))⟩
theorem Upd.below {S : Nat → Prop} {w w' : World} {B : Nat} (h : Upd S w w') (hB : B ≤ w.heap.size) (hs : ∀ k, S k → B ≤ k) : Below B w w' :=
  ⟨h.os, h.tape, h.output, h.size, fun k hk => h.block k (by omega) (fun h2 => by have := hs k h2; omega)⟩
theorem Upd.of_below {S : Nat → Prop} {w w' : World} (h : Below w.heap.size w w') : Upd S w w' :=
  ⟨h.os, h.tape, h.output, h.size, fun k hk _ => h.block k hk⟩
theorem Upd.drewN {S : Nat → Prop} {a w : World} (h : Upd S a w) (k : Nat) : Upd S a (w.drewN k) := ⟨h.os, h.tape, h.output, h.size, h.block⟩
theorem Upd.alloc {S : Nat → Prop} {a w : World} (h : Upd S a w) (o : Obj) : Upd S a (w.alloc o) :=
  h.trans ⟨rfl, rfl, rfl, by simp, fun k hk _ => Below.heap_alloc _ _ _ hk⟩
theorem Upd.setCell {S : Nat → Prop} {a w : World} (h : Upd S a w) {p : Addr} (hp : S p.block ∨ a.heap.size ≤ p.block) (u : Value) : Upd S a (w.setCell p u) :=
  ⟨h.os, h.tape, h.output, by simpa [World.setCell] using h.size, fun k hk hs => (Below.heap_setCell w p u k (fun e => by
    rcases hp with hp | hp
    · exact hs (e ▸ hp)
    · omega)).trans (h.block k hk hs)⟩
theorem Upd.cell {S : Nat → Prop} {w w' : World} (h : Upd S w w') {p : Addr} (hp : p.block < w.heap.size) (hs : ¬ S p.block) : w'.cell? p = w.cell? p := World.cell?_of_block (w := w) (h.block p.block hp hs)
theorem Upd.frozen {S : Nat → Prop} {w w' : World} (h : Upd S w w') {p : Addr} (hp : p.block < w.heap.size) (hs : ¬ S p.block) : w'.frozen? p = w.frozen? p := World.frozen?_of_block (w := w) (h.block p.block hp hs)
theorem Upd.grownBy {S : Nat → Prop} {a w w' : World} {o : Option Nat} (h : Upd S a w) (hg : w.grownBy w' o) (ho : ∀ k, o = some k → k < a.heap.size → S k) : Upd S a w' :=
  ⟨hg.os.trans h.os, hg.tape.trans h.tape, hg.output.trans h.output, Nat.le_trans h.size hg.size, fun k hk hs => (hg.block k (Nat.lt_of_lt_of_le hk h.size) (fun e => hs (ho k e.symm hk))).trans (h.block k hk hs)⟩
structure Opn where
  k : Int
  s : Int
  v : ByteArray
def Opn.val (o : Opn) : Value := .agg #[.int .i64 o.k, .int .i64 o.s, .string o.v]
structure Opn.fits (o : Opn) : Prop where
  kw : (Lit.int .i64 o.k).wf = true
  sw : (Lit.int .i64 o.s).wf = true
  vl : o.v.size ≤ maxLen
abbrev Rs := Int × Int × ByteArray
abbrev Own (w : World) (b n : Nat) (L : List Cl) : Prop := w.ownsMap Tryz.prog 3 cR b n (mD L)
theorem belN {B : Nat} {w w' : World} (h : Below B w w') (n : Nat) : Below B w (w'.drewN n) := ⟨h.os, h.tape, h.output, h.size, h.block⟩
end Go.Proofs.YtibedokegignhaaGreatDoor
namespace Go.Proofs.YtibedokegignhaaGreatDoor.Wi
open Go.RowKit
def wtyp (w : World) (k : Nat) : Prop := ∃ c f t, w.heap[k]? = some (.cells c t f) ∧ (t = 5 ∨ t = 151 ∨ t = 112)
def TKp (w w' : World) : Prop := Upd (wtyp w) w w'
theorem TKp.refl (w : World) : TKp w w := Upd.refl _ _
theorem wtyp_back {a w : World} {k : Nat} (h : TKp a w) (hk : k < a.heap.size) (hw : wtyp w k) : wtyp a k := by
  by_cases hn : wtyp a k
  · exact hn
  · obtain ⟨c, f, t, e, ht⟩ := hw
    rw [h.block k hk hn] at e
    exact ⟨c, f, t, e, ht⟩
theorem TKp.trans {a b c : World} (h : TKp a b) (k : TKp b c) : TKp a c :=
  ⟨k.os.trans h.os, k.tape.trans h.tape, k.output.trans h.output, Nat.le_trans h.size k.size, fun i hi hs => (k.block i (Nat.lt_of_lt_of_le hi h.size) (fun hw => hs (wtyp_back h hi hw))).trans (h.block i hi hs)⟩
theorem TKp.alloc {a w : World} (h : TKp a w) (o : Obj) : TKp a (w.alloc o) := Upd.alloc h o
theorem TKp.drewN {a w : World} (h : TKp a w) (k : Nat) : TKp a (w.drewN k) := Upd.drewN h k
theorem TKp.of_below {w w' : World} (h : Below w.heap.size w w') : TKp w w' := Upd.of_below h
theorem TKp.setCell {a w : World} (h : TKp a w) {p : Addr} (hp : wtyp w p.block) (u : Value) : TKp a (w.setCell p u) := by
  refine Upd.setCell h ?_ u
  by_cases hk : p.block < a.heap.size
  · exact .inl (wtyp_back h hk hp)
  · exact .inr (by omega)
theorem TKp.own {a w w' : World} {B : Nat} {v : Value} {l : List Int} (h : TKp a w) (ho : Own B w v l) (hg : w.grownBy w' v.ownBlock) : TKp a w' :=
  Upd.grownBy h hg (fun k hk hlt => wtyp_back h hlt (by
    rcases ho.2 with ⟨e, _⟩ | ⟨g, cap, cur, e, _, e3, _⟩
    · rw [e] at hk; simp [Value.ownBlock] at hk
    · rw [e] at hk
      simp [Value.ownBlock] at hk
      subst hk
      exact ⟨_, _, _, e3, .inl rfl⟩))
theorem wtyp_set {w : World} {k : Nat} (h : wtyp w k) (p : Addr) (u : Value) : wtyp (w.setCell p u) k := by
  obtain ⟨c, f, t, e, ht⟩ := h
  by_cases hp : p.block = k
  · subst hp
    refine ⟨if p.spot.isSome then c else c.setIfInBounds p.off u, f, t, ?_, ht⟩
    · simp only [World.setCell]
      rw [Array.getElem?_modify, if_pos rfl, e]
      rfl
  · refine ⟨c, f, t, ?_, ht⟩
    rw [← e]
    simp only [World.setCell]
    rw [Array.getElem?_modify, if_neg hp]
theorem wtyp_below {w w' : World} {k B : Nat} (h : wtyp w k) (hb : Below B w w') (hk : k < B) : wtyp w' k := by
  obtain ⟨c, f, t, e, ht⟩ := h
  exact ⟨c, f, t, (hb.block k hk).trans e, ht⟩
theorem wtyp_alloc {w : World} {k : Nat} (h : wtyp w k) (o : Obj) : wtyp (w.alloc o) k := by
  obtain ⟨c, f, t, e, ht⟩ := h
  have hk := (Array.getElem?_eq_some_iff.1 e).1
  refine ⟨c, f, t, ?_, ht⟩
  rw [← e]
  exact ((Below.refl (k + 1) w).alloc (by omega) o).block k (by omega)
theorem wtyp_pile (w : World) (c : Array Value) (n : Nat) (hn : n = w.heap.size) : wtyp (w.alloc (.cells c 151)) n := ⟨c, (0, 0), 151, by
    subst hn
    show (w.heap.push _)[w.heap.size]? = _
    simp, .inr (.inl rfl)⟩
def WOkT (w : World) (b : Nat) (l : List Int) : Prop := (l = [] ∧ WNew w b ∧ wtyp w b) ∨ ∃ q g n c, WHas w b q (some ⟨g, 0, none⟩) n c l ∧ wtyp w b ∧ wtyp w q
theorem WOkT.ok {w : World} {b : Nat} {l : List Int} (h : WOkT w b l) : WOk w b l := by
  rcases h with ⟨e, h, _⟩ | ⟨q, g, n, c, h, _⟩
  · exact .inl ⟨e, h⟩
  · exact .inr ⟨q, g, n, c, h⟩
set_option maxHeartbeats 400000 in
theorem appendNumber_tk (B : Nat) (v : Value) (l : List Int) (x : Nat) (w : World) (hown : Own B w v l) (hB : B ≤ w.heap.size) (hx : x < 2 ^ 64) (hl : l.length + 9 ≤ 140737488355328) :
    Calls Tryz.prog 139 #[v, .int .u64 x] w fun e w' => ∃ v', e = .returned v' ∧ Own B w' v' (l ++ M.form x) ∧ v' ≠ .slice none 0 0 ∧ Below B w w' ∧ TKp w w' := by
  have hk8 := M.nb_le x hx
  have hbl : M.bl x ≤ 64 := (M.bl_le x 64).2 hx
  have HC := len64_any x
  have hc := fun w => HC w hx
  clear HC
  have HX := hide hx
  have HL := hide hl
  clear hx hl
  go_enter Tryz.func139, Tryz.ntmps139
  go_wp2_with fail
  refine (hc _).mono ?_
  clear hc
  rintro e w' ⟨rfl, rfl⟩
  go_wp2_with (at_builtin; go_must (refine app_one _ rfl (.tmp 11) (.tmp 14) rfl B l v rfl _ rfl (((M.bl x : Int) + 7) / 8) ?zc ?zown ?zB ?zb ?zk))
  case zc => simp
  case zown => exact hown.alloc _
  case zB => simp; omega
  case zb => have := HL.out; omega
  case zk =>
    intro v1 w1 h1 h2 h3
    have hb1 : Below B w' w1 := (hown.alloc _).grown ((Below.refl B w').alloc hB (.cells #[.int .u8 (((M.bl x : Int) + 7) / 8)] 5)) h3 (by simp; omega)
    have ub1 : TKp w' w1 := TKp.own ((TKp.refl w').alloc _) (hown.alloc _) h3
    clear h3 hown
    have ek : (((M.bl x : Int) + 7) / 8) = ((M.nb x : Nat) : Int) := by unfold M.nb; omega
    rw [ek, ← M.pre_zero] at h1
    rw [ek]
    go_wp2_with fail
    go_loopw [0, 6, 17] (fun b _ i wr => ∃ j : Nat, j ≤ M.nb x ∧ i = .int .i64 j ∧ Own B wr b (l ++ M.pre x j) ∧ Below B w' wr ∧ b ≠ .slice none 0 0 ∧ TKp w' wr) (fun _ _ i _ => M.nb x - (intOf i).toNat)
    case atStart => exact ⟨0, Nat.zero_le _, rfl, h1, hb1, h2, ub1⟩
    case round =>
      obtain ⟨j, hj, rfl, hr, hbr, hn, hur⟩ := hrel
      have hsr := hbr.size
      by_cases hlt : j < M.nb x
      · go_wp2_with (at_builtin; go_must (refine app_one _ rfl (.tmp 20) (.tmp 29) rfl B (l ++ M.pre x j) u0 rfl _ rfl ((x : Int) / 2 ^ (8 * (M.nb x - 1 - j)) % 256) ?zc ?zown ?zB ?zb ?zk))
        case zc => simp
        case zown => exact hr.alloc _
        case zB => simp; omega
        case zb => have := HL.out; simp [M.pre_length]; omega
        case zk =>
          intro v2 w2 k1 k2 k3
          have hb2 : Below B w' w2 := (hr.alloc _).grown (hbr.alloc (by omega) (.cells #[.int .u8 ((x : Int) / 2 ^ (8 * (M.nb x - 1 - j)) % 256)] 5)) k3 (by simp; omega)
          have k4 : Own B w2 v2 (l ++ M.pre x (j + 1)) := by rw [M.pre_succ, ← dig_eq]; exact k1
          have ub2 : TKp w' w2 := TKp.own (hur.alloc _) (hr.alloc _) k3
          clear k1 k3 hr hbr hur
          go_wp2
          go_roundw
          case rel => exact ⟨j + 1, by omega, by go_num, k4, hb2, k2, ub2⟩
          case measure => simp [intOf]; omega
      · obtain rfl : j = M.nb x := by omega
        go_wp2
        go_ret
        exact ⟨_, rfl, hr, hn, hbr, hur⟩
theorem own_tk (B b : Nat) (l : List Int) (w : World) (hB : B ≤ b) (h : WOkT w b l) :
    Calls Tryz.prog 138 #[.pointer (some ⟨b, 0, none⟩)] w fun e w' => ∃ q s n c, e = .returned (.pointer (some ⟨q, 0, none⟩)) ∧ WHas w' b q s n c l ∧ Below B w w' ∧ TKp w w' ∧ wtyp w' b ∧ wtyp w' q := by
  rcases h with ⟨rfl, h, kb⟩ | ⟨q, g, n, c, h, kb, kq⟩
  · refine (own_nil b w h.lt h.c0 h.f0).mono ?_
    rintro e w' ⟨rfl, rfl⟩
    have hlt := h.lt
    refine ⟨w.heap.size, none, 0, 0, rfl, ⟨h.lt, by simp, rfl, ?_, ?_, ?_, ?_, ?_, ?_, ?_, ?_, Own.nil _ _⟩, ((Below.refl B w).setCell hB _).alloc (by simp; omega) _, ((TKp.refl w).setCell kb _).alloc _, wtyp_alloc (wtyp_set kb _ _) _, wtyp_pile _ _ _ (by simp)⟩
    all_goals obtain ⟨_, c0, c1, c2, f0, f1, f2⟩ := h
    all_goals go_simp
  · refine (own_has b q n (some ⟨g, 0, none⟩) c w h.c0 h.c1 h.cq).mono ?_
    rintro e w' ⟨rfl, k, rfl⟩
    exact ⟨q, _, n, c, rfl, ⟨h.lt, h.ltq, h.len, h.c0, h.c1, h.c2, h.f0, h.f1, h.f2, h.cq, h.fq, h.own⟩, below_drewN (Below.refl _ _) k, (TKp.refl w).drewN k, kb, kq⟩
set_option maxHeartbeats 400000 in
theorem lay_tk (B b : Nat) (l : List Int) (x : Nat) (t : ByteArray) (w : World) (hB : B ≤ b) (h : WOkT w b l) (hx : x < 2 ^ 64) (hl : l.length + 9 + t.size ≤ 140737488355328) :
    Calls Tryz.prog 119 #[.pointer (some ⟨b, 0, none⟩), .int .u64 x, .string t] w fun e w' => e = .returned (.tuple #[]) ∧ WOkT w' b (l ++ M.form x ++ sb t) ∧ Below B w w' ∧ TKp w w' := by
  have hnb := M.nb_le x hx
  have HX := hide hx
  have HL := hide hl
  clear hx hl
  go_enter Tryz.func119, Tryz.ntmps119
  go_wp2_with fail
  refine (own_tk B b l w hB h).mono ?_
  clear h
  rintro e w1 ⟨q, s, n, c, rfl, hw, hb1, u1, kb, kq⟩
  obtain ⟨hlt, hltq, hlen, c0, c1, c2, f0, f1, f2, cq, fq, ho⟩ := hw
  have HLEN := hide hlen
  clear hlen
  go_wp2_with fail
  refine (appendNumber_tk (q + 1) _ l x _ ho (by omega) HX.out (by have := HL.out; omega)).mono ?_
  clear ho
  rintro e w2 ⟨v2, rfl, ho2, hn2, hb2, u2⟩
  have hs2 := hb2.size
  go_wp2_with (at_builtin; go_must (refine app_str _ rfl (.tmp 15) (.tmp 16) rfl (q + 1) (l ++ M.form x) v2 rfl t rfl ho2 ?zB ?zb ?zk))
  case zB => omega
  case zb => have := HL.out; simp [M.form_length]; omega
  case zk =>
    intro v3 w3 ho3 hn3 hg3
    have hb3 : Below (q + 1) w1 w3 := ho2.grown hb2 hg3 (by omega)
    have hs3 := hb3.size
    have u3 : TKp w1 w3 := TKp.own u2 ho2 hg3
    have UT := hide (u1.trans u3)
    have HKB := hide (wtyp_below kb hb3 (show b < q + 1 by omega))
    have HKQ := hide (wtyp_below kq hb3 (show q < q + 1 by omega))
    clear u1 u2 u3 kb kq
    obtain ⟨g, c3, hv3, hg1, hg2⟩ := ho3.shape (hn3 (.inl hn2))
    subst hv3
    clear hn3 hg3 hn2 hb2 ho2
    rw [← List.append_assoc] at ho3
    generalize hLL : l ++ M.form x ++ sb t = L at *
    rw [show l ++ (M.form x ++ sb t) = L from by rw [← hLL, List.append_assoc]]
    generalize hNN : L.length = N at *
    have HLL := hide hLL
    have HNN := hide hNN
    clear hLL hNN
    have d0 := (hb3.cell (p := ⟨b, 0, none⟩) (by show b < q + 1; omega)).trans c0
    have d1 := (hb3.cell (p := ⟨b, 1, none⟩) (by show b < q + 1; omega)).trans c1
    have d2 := (hb3.cell (p := ⟨b, 2, none⟩) (by show b < q + 1; omega)).trans c2
    have e0 := (hb3.frozen (p := ⟨b, 0, none⟩) (by show b < q + 1; omega)).trans f0
    have e1 := (hb3.frozen (p := ⟨b, 1, none⟩) (by show b < q + 1; omega)).trans f1
    have e2 := (hb3.frozen (p := ⟨b, 2, none⟩) (by show b < q + 1; omega)).trans f2
    have dq := (hb3.cell (p := ⟨q, 0, none⟩) (by show q < q + 1; omega)).trans cq
    have eq := (hb3.frozen (p := ⟨q, 0, none⟩) (by show q < q + 1; omega)).trans fq
    clear c0 c1 c2 f0 f1 f2 cq fq
    go_wp2
    go_end0
    rw [HLL.out]
    refine ⟨rfl, Or.inr ⟨q, g, N, c3, ⟨hlt, by simp; omega, HNN.out.symm, ?_, ?_, ?_, ?_, ?_, ?_, ?_, ?_, ?_⟩, wtyp_set (wtyp_set HKB.out _ _) _ _, wtyp_set (wtyp_set HKQ.out _ _) _ _⟩, hb1.trans (((hb3.mono (by omega)).setCell (by show B ≤ q; omega) _).setCell hB _), (UT.out.setCell HKQ.out _).setCell (wtyp_set HKB.out _ _) _⟩
    all_goals first | (exact (ho3.setCell_below (by show q < q + 1; omega) _).setCell_below (by show b < q + 1; omega) _) | go_simp
set_option maxHeartbeats 400000 in
theorem number_tk (B b : Nat) (l : List Int) (x : Nat) (w : World) (hB : B ≤ b) (h : WOkT w b l) (hx : x < 2 ^ 64) (hl : l.length + 9 ≤ 140737488355328) :
    Calls Tryz.prog 140 #[.pointer (some ⟨b, 0, none⟩), .int .u64 x] w fun e w' => e = .returned (.tuple #[]) ∧ WOkT w' b (l ++ M.form x) ∧ Below B w w' ∧ TKp w w' := by
  have HF := hide (lay_tk B b l x ⟨#[]⟩ w hB h)
  have hc : w.cell? ⟨b, 2, none⟩ = some (.int .i64 0) := by
    rcases h with ⟨_, h, _⟩ | ⟨_, _, _, _, h, _⟩
    · exact h.c2
    · exact h.c2
  clear h
  go_enter Tryz.func140, Tryz.ntmps140
  go_wp2_with (go_at_call 117; go_in)
  refine (HF.out (by omega) (by first | (show l.length + 9 + 0 ≤ _; omega) | omega)).mono ?_
  rintro e w1 ⟨rfl, h1, h2, h3⟩
  clear HF
  go_wp2
  go_end0
  exact ⟨rfl, by first | exact h1 | simpa [sb] using h1, h2, h3⟩
set_option maxHeartbeats 400000 in
theorem int_tk (B b : Nat) (l : List Int) (x : Nat) (w : World) (hB : B ≤ b) (h : WOkT w b l) (hx : x ≤ 9223372036854775807) (hl : l.length + 9 ≤ 140737488355328) :
    Calls Tryz.prog 90 #[.pointer (some ⟨b, 0, none⟩), .int .i64 x] w fun e w' => e = .returned (.tuple #[]) ∧ WOkT w' b (l ++ M.form x) ∧ Below B w w' ∧ TKp w w' := by
  have HF := hide (lay_tk B b l x ⟨#[]⟩ w hB h)
  have hc : w.cell? ⟨b, 2, none⟩ = some (.int .i64 0) := by
    rcases h with ⟨_, h, _⟩ | ⟨_, _, _, _, h, _⟩
    · exact h.c2
    · exact h.c2
  clear h
  go_enter Tryz.func90, Tryz.ntmps90
  go_wp2_with (go_at_call 117; go_in)
  refine (HF.out (by omega) (by first | (show l.length + 9 + 0 ≤ _; omega) | omega)).mono ?_
  rintro e w1 ⟨rfl, h1, h2, h3⟩
  clear HF
  go_wp2
  go_end0
  exact ⟨rfl, by first | exact h1 | simpa [sb] using h1, h2, h3⟩
set_option maxHeartbeats 400000 in
theorem count_tk (B b : Nat) (l : List Int) (x m : Nat) (w : World) (hB : B ≤ b) (h : WOkT w b l) (hx : x ≤ 9223372036854775807) (hxm : x ≤ m) (hl : l.length + 9 ≤ 140737488355328) :
    Calls Tryz.prog 142 #[.pointer (some ⟨b, 0, none⟩), .int .i64 x, .int .i64 m] w fun e w' => e = .returned (.tuple #[]) ∧ WOkT w' b (l ++ M.form x) ∧ Below B w w' ∧ TKp w w' := by
  have HF := hide (lay_tk B b l x ⟨#[]⟩ w hB h)
  have hc : w.cell? ⟨b, 2, none⟩ = some (.int .i64 0) := by
    rcases h with ⟨_, h, _⟩ | ⟨_, _, _, _, h, _⟩
    · exact h.c2
    · exact h.c2
  clear h
  go_enter Tryz.func142, Tryz.ntmps142
  go_wp2_with (go_at_call 117; go_in)
  refine (HF.out (by omega) (by first | (show l.length + 9 + 0 ≤ _; omega) | omega)).mono ?_
  rintro e w1 ⟨rfl, h1, h2, h3⟩
  clear HF
  go_wp2
  go_end0
  exact ⟨rfl, by first | exact h1 | simpa [sb] using h1, h2, h3⟩
set_option maxHeartbeats 400000 in
theorem text_tk (B b : Nat) (l : List Int) (s : ByteArray) (m : Nat) (w : World) (hB : B ≤ b) (h : WOkT w b l) (hxm : s.size ≤ m) (hl : l.length + 9 + s.size ≤ 140737488355328) :
    Calls Tryz.prog 141 #[.pointer (some ⟨b, 0, none⟩), .string s, .int .i64 m] w fun e w' => e = .returned (.tuple #[]) ∧ WOkT w' b (l ++ M.form s.size ++ sb s) ∧ Below B w w' ∧ TKp w w' := by
  have HF := hide (lay_tk B b l s.size s w hB h)
  have hc : w.cell? ⟨b, 2, none⟩ = some (.int .i64 0) := by
    rcases h with ⟨_, h, _⟩ | ⟨_, _, _, _, h, _⟩
    · exact h.c2
    · exact h.c2
  clear h
  go_enter Tryz.func141, Tryz.ntmps141
  go_wp2_with (go_at_call 117; go_in)
  refine (HF.out (by omega) (by first | (show l.length + 9 + 0 ≤ _; omega) | omega)).mono ?_
  rintro e w1 ⟨rfl, h1, h2, h3⟩
  clear HF
  go_wp2
  go_end0
  exact ⟨rfl, by first | exact h1 | simpa [sb] using h1, h2, h3⟩
end Go.Proofs.YtibedokegignhaaGreatDoor.Wi
namespace Go.Proofs.YtibedokegignhaaGreatDoor.M
def rb (l : List Int) : Nat := l.foldl (fun v z => v * 256 + z.toNat) 0
def rl : List Int → Nat
  | [] => 0
  | z :: r => z.toNat + 256 * rl r
theorem rb_snoc (l : List Int) (z : Int) : rb (l ++ [z]) = rb l * 256 + z.toNat := by simp [rb]
theorem rb_take (l : List Int) (k : Nat) (h : k < l.length) : rb (l.take (k + 1)) = rb (l.take k) * 256 + (l.getD k 0).toNat := by
  rw [List.take_succ_eq_append_getElem h, rb_snoc]
  simp [List.getD, h]
theorem rl_snoc (l : List Int) (z : Int) : rl (l ++ [z]) = rl l + 256 ^ l.length * z.toNat := by
  induction l with
  | nil => simp [rl]
  | cons y r ih =>
    simp only [List.cons_append, rl, ih, List.length_cons, Nat.pow_succ, Nat.mul_add]
    have : 256 * (256 ^ r.length * z.toNat) = 256 ^ r.length * 256 * z.toNat := by rw [Nat.mul_comm (256 ^ r.length) 256, Nat.mul_assoc]
    omega
theorem rl_take (l : List Int) (k : Nat) (h : k < l.length) : rl (l.take (k + 1)) = rl (l.take k) + 256 ^ k * (l.getD k 0).toNat := by
  rw [List.take_succ_eq_append_getElem h, rl_snoc]
  simp [List.getD, h, Nat.min_eq_left (Nat.le_of_lt h)]
theorem rb_lt (l : List Int) (h : ∀ z ∈ l, 0 ≤ z ∧ z < 256) : rb l < 256 ^ l.length := by
  have key : ∀ (r : List Int) (v n : Nat), (∀ z ∈ r, 0 ≤ z ∧ z < 256) → v < 256 ^ n → r.foldl (fun v z => v * 256 + z.toNat) v < 256 ^ (n + r.length) := by
    intro r
    induction r with
    | nil => intro v n _ hv; simpa using hv
    | cons z r ih =>
      intro v n hr hv
      have hz := hr z (by simp)
      have := ih (v * 256 + z.toNat) (n + 1) (fun y hy => hr y (by simp [hy])) (by rw [Nat.pow_succ]; omega)
      simpa [Nat.add_assoc, Nat.add_comm 1] using this
  simpa [rb] using key l 0 0 h (by simp)
theorem rl_lt (l : List Int) (h : ∀ z ∈ l, 0 ≤ z ∧ z < 256) : rl l < 256 ^ l.length := by
  induction l with
  | nil => simp [rl]
  | cons z r ih =>
    have hz := h z (by simp)
    have := ih (fun y hy => h y (by simp [hy]))
    simp only [rl, List.length_cons, Nat.pow_succ]
    omega
theorem or_low (v z : Nat) (k : Nat) (h : z < 2 ^ k) : (v * 2 ^ k) ||| z = v * 2 ^ k + z := by
  rw [← Nat.shiftLeft_eq, Nat.shiftLeft_add_eq_or_of_lt h]
end Go.Proofs.YtibedokegignhaaGreatDoor.M
namespace Go.Proofs.YtibedokegignhaaGreatDoor.Wi
open Go.RowKit
theorem rb_step (v : Nat) (z : Int) (hv : v < 16777216) (h0 : 0 ≤ z) (h1 : z < 256) : bits .or .u32 ((v : Int) * 256 % 4294967296) (z % 4294967296) = ((v * 256 + z.toNat : Nat) : Int) := by
  obtain ⟨n, rfl⟩ := Int.eq_ofNat_of_zero_le h0
  have e1 : ((v : Int) * 256 % 4294967296) = ((v * 2 ^ 8 : Nat) : Int) := by omega
  have e2 : ((n : Int) % 4294967296) = (n : Int) := by omega
  rw [e1, e2, u32_or_nat _ _ (by omega) (by omega), M.or_low v n 8 (by omega)]
  simp
theorem rl_step (k v : Nat) (z : Int) (hk : k < 4) (hv : v < 256 ^ k) (h0 : 0 ≤ z) (h1 : z < 256) : bits .or .u32 (v : Int) (z % 4294967296 * 2 ^ (8 * k) % 4294967296) = ((v + 256 ^ k * z.toNat : Nat) : Int) := by
  obtain ⟨n, rfl⟩ := Int.eq_ofNat_of_zero_le h0
  have hp : (256 : Nat) ^ k = 2 ^ (8 * k) := by rw [show (256 : Nat) = 2 ^ 8 from rfl, ← Nat.pow_mul]
  have hq : 2 ^ (8 * k) ≤ 2 ^ 24 := Nat.pow_le_pow_right (by omega) (by omega)
  have hm : n * 2 ^ (8 * k) ≤ 255 * 2 ^ 24 := Nat.mul_le_mul (by omega) hq
  have hc : ((2 : Int) ^ (8 * k)) = ((2 ^ (8 * k) : Nat) : Int) := by simp
  have ho := M.or_low n v (8 * k) (by rw [← hp]; exact hv)
  rw [hp] at hv ⊢
  rw [hc, Int.toNat_natCast]
  generalize 2 ^ (8 * k) = q at *
  have e1 : ((n : Int) % 4294967296 * (q : Int) % 4294967296) = ((n * q : Nat) : Int) := by
    rw [show ((n : Int) % 4294967296) = (n : Int) from by omega, ← Int.natCast_mul]
    omega
  rw [e1, u32_or_nat _ _ (by omega) (by omega), Nat.or_comm, ho, Nat.mul_comm, Nat.add_comm]
set_option maxHeartbeats 400000 in
theorem toldLength_any (x : Addr) (c : Nat) (l : List Int) (w : World) (hl : l.length = 4) (hr : Row w x l) (hb : ∀ z ∈ l, 0 ≤ z ∧ z < 256) :
    Calls Tryz.prog 126 #[.slice (some x) 4 c] w fun e w' => e = .returned (.int .u32 (M.rb l)) ∧ w' = w := by
  obtain ⟨xb, xo, xs⟩ := x
  go_enter Tryz.func126, Tryz.ntmps126
  go_wp2
  go_loop [3, 4, 5] (fun t _ i => ∃ k : Nat, k ≤ 4 ∧ i = .int .i64 k ∧ t = .int .u32 (M.rb (l.take k) : Nat)) (fun _ _ i => 4 - (intOf i).toNat)
  case atStart => exact ⟨0, by omega, rfl, rfl⟩
  case round =>
    obtain ⟨k, hk, rfl, rfl⟩ := hrel
    by_cases hlt : k < 4
    · have hcell := hr k (by omega)
      have hz : 0 ≤ l.getD k 0 ∧ l.getD k 0 < 256 := hb _ (by simp [List.getD, show k < l.length by omega])
      go_wp2
      go_round
      case rel =>
        refine ⟨k + 1, by omega, by go_num, int_eq ?_⟩
        have hlk : k < l.length := by omega
        have hv : M.rb (l.take k) < 256 ^ 3 := Nat.lt_of_lt_of_le (M.rb_lt (l.take k) (fun z hz => hb z (List.mem_of_mem_take hz))) (Nat.pow_le_pow_right (by omega) (by simp; omega))
        rw [M.rb_take l k hlk, show l[k] = l.getD k 0 from by simp [List.getD, hlk]]
        exact rb_step _ _ (by omega) hz.1 hz.2
      case measure => simp [intOf]; omega
    · obtain rfl : k = 4 := by omega
      go_wp2
      go_ret
      exact ⟨ret_int (by rw [List.take_of_length_le (by omega)]), rfl⟩
set_option maxHeartbeats 400000 in
theorem toldSum_any (x : Addr) (c : Nat) (l : List Int) (w : World) (hl : l.length = 4) (hr : Row w x l) (hb : ∀ z ∈ l, 0 ≤ z ∧ z < 256) :
    Calls Tryz.prog 96 #[.slice (some x) 4 c] w fun e w' => e = .returned (.int .u32 (M.rl l)) ∧ w' = w := by
  obtain ⟨xb, xo, xs⟩ := x
  go_enter Tryz.func96, Tryz.ntmps96
  go_wp2
  go_loop [3, 4, 5] (fun t _ i => ∃ k : Nat, k ≤ 4 ∧ i = .int .i64 k ∧ t = .int .u32 (M.rl (l.take k) : Nat)) (fun _ _ i => 4 - (intOf i).toNat)
  case atStart => exact ⟨0, by omega, rfl, rfl⟩
  case round =>
    obtain ⟨k, hk, rfl, rfl⟩ := hrel
    by_cases hlt : k < 4
    · have hcell := hr k (by omega)
      have hz : 0 ≤ l.getD k 0 ∧ l.getD k 0 < 256 := hb _ (by simp [List.getD, show k < l.length by omega])
      go_wp2
      go_round
      case rel =>
        refine ⟨k + 1, by omega, by go_num, int_eq ?_⟩
        have hlk : k < l.length := by omega
        have hv := M.rl_lt (l.take k) (fun z hz => hb z (List.mem_of_mem_take hz))
        rw [List.length_take, Nat.min_eq_left (by omega)] at hv
        rw [M.rl_take l k hlk, show l[k] = l.getD k 0 from by simp [List.getD, hlk]]
        exact rl_step k _ _ hlt hv hz.1 hz.2
      case measure => simp [intOf]; omega
    · obtain rfl : k = 4 := by omega
      go_wp2
      go_ret
      exact ⟨ret_int (by rw [List.take_of_length_le (by omega)]), rfl⟩
theorem co_long (a : Option Addr) (n c : Nat) (w : World) (h : 32768 < n) :
    Calls Tryz.prog 95 #[.slice a n c] w fun e w' => e = .returned (.int .i64 11) ∧ w' = w := by
  go_enter Tryz.func95, Tryz.ntmps95
  go_wp2
  go_ret
  exact ⟨rfl, rfl⟩
theorem co_short (a : Option Addr) (n c : Nat) (w : World) (h : n < 12) :
    Calls Tryz.prog 95 #[.slice a n c] w fun e w' => e = .returned (.int .i64 10) ∧ w' = w := by
  go_enter Tryz.func95, Tryz.ntmps95
  go_wp2
  go_ret
  exact ⟨rfl, rfl⟩
theorem Hs.flat {w : World} {x : Addr} {n c : Nat} {l : List Int} (h : Hs w (some x) n c l) (hn : 0 < n) : ∃ b o, x = ⟨b, o, none⟩ := by
  have h0 := h.row x rfl 0 (by rw [h.len]; exact hn)
  obtain ⟨b, o, s⟩ := x
  have := World.cell?_spot h0
  exact ⟨b, o, by cases s <;> simp_all [Addr.add]⟩
theorem conv_row (w : World) (b o n c : Nat) (l : List Int) (hl : l.length = n) (hr : Row w ⟨b, o, none⟩ l) :
    (convert 55 9 (.slice (some ⟨b, o, none⟩) n c)).run Tryz.prog w = .ok (.string (strOfNums l)) w :=
  run_convert_bytes_arg w 55 5 Tryz.underlying55 Tryz.underlying5 b o n c l hl (fun i hi => by have := hr i (by omega); rwa [Addr.add_lit] at this) 9 Tryz.underlying9
theorem sb_nums (l : List Int) (h : ∀ z ∈ l, 0 ≤ z ∧ z < 256) : sb (strOfNums l) = l := by
  unfold sb
  rw [strOfNums_data, List.map_map]
  conv => rhs; rw [← List.map_id l]
  apply List.map_congr_left
  intro z hz
  have := h z hz
  simp [UInt8.toNat_ofNat']
  omega
theorem nums_list (l : List Int) : (strOfNums l).toList = l.map fun n => UInt8.ofNat n.toNat := by
  rw [ByteArray.toList_eq, strOfNums_data]
theorem magic_test (l : List Int) (hb : ∀ z ∈ l, 0 ≤ z ∧ z < 256) : ((strOfNums (l.take 4)).toList == [97, 109, 110, 49]) = decide (l.take 4 = M.magic) := by
  rw [nums_list]
  by_cases h : l.take 4 = M.magic
  · rw [h]; decide
  · rw [decide_eq_false h, beq_eq_false_iff_ne]
    intro he
    apply h
    have h2 := congrArg (List.map fun b : UInt8 => (b.toNat : Int)) he
    rw [List.map_map] at h2
    have h3 : (l.take 4).map ((fun b : UInt8 => (b.toNat : Int)) ∘ fun n : Int => UInt8.ofNat n.toNat) = l.take 4 := by
      conv => rhs; rw [← List.map_id (l.take 4)]
      apply List.map_congr_left
      intro z hz
      have := hb z (List.mem_of_mem_take hz)
      simp [UInt8.toNat_ofNat']
      omega
    rw [h3] at h2
    exact h2
set_option maxHeartbeats 400000 in
theorem co_magic (b o n c : Nat) (l : List Int) (w : World) (hh : Hs w (some ⟨b, o, none⟩) n c l) (h1 : 12 ≤ n) (h2 : n ≤ 32768) (hm : l.take 4 ≠ M.magic) :
    Calls Tryz.prog 95 #[.slice (some ⟨b, o, none⟩) n c] w fun e w' => e = .returned (.int .i64 13) ∧ w' = w := by
  have hr := hh.row _ rfl
  have hcap := hh.cap
  have hlen := hh.len
  have kc := conv_row w b o 4 c (l.take 4) (by simp; omega) (hr.take 4)
  have kt := magic_test l hh.byte
  rw [decide_eq_false hm] at kt
  clear hr hh hlen hm
  go_enter Tryz.func95, Tryz.ntmps95
  go_wp2
  go_ret
  exact ⟨rfl, rfl⟩
theorem Row.drop {w : World} {b o : Nat} {l : List Int} (h : Row w ⟨b, o, none⟩ l) (k : Nat) : Row w ⟨b, o + k, none⟩ (l.drop k) := by
  intro i hi
  have h2 : k + i < l.length := by simp at hi; omega
  have := h (k + i) h2
  rw [Addr.add_lit] at this ⊢
  rw [Nat.add_assoc, this]
  simp [List.getD]
def coErr (n T : Nat) : Int := if n < T + 12 then 10 else if T + 12 < n then 15 else 0
theorem coErr_short {n T : Nat} (h : n < T + 12) : coErr n T = 10 := by unfold coErr; rw [if_pos h]
theorem coErr_tail {n T : Nat} (h : T + 12 < n) : coErr n T = 15 := by unfold coErr; rw [if_neg (by omega), if_pos h]
theorem coErr_ok {n T : Nat} (h1 : ¬ n < T + 12) (h2 : ¬ T + 12 < n) : coErr n T = 0 := by unfold coErr; rw [if_neg h1, if_neg h2]
def told (l : List Int) : Nat := M.rb ((l.drop 4).take 4)
set_option maxHeartbeats 400000 in
theorem co_rest (b o n c : Nat) (l : List Int) (w : World) (hh : Hs w (some ⟨b, o, none⟩) n c l) (h1 : 12 ≤ n) (h2 : n ≤ 32768) (hm : l.take 4 = M.magic) :
    Calls Tryz.prog 95 #[.slice (some ⟨b, o, none⟩) n c] w fun e w' => e = .returned (.int .i64 (coErr n (told l))) ∧ w' = w := by
  have hr := hh.row _ rfl
  have hcap := hh.cap
  have hlen := hh.len
  have kc := conv_row w b o 4 c (l.take 4) (by simp; omega) (hr.take 4)
  have kt := magic_test l hh.byte
  rw [decide_eq_true hm] at kt
  have hlt : told l < 4294967296 := by
    have h3 : told l < 256 ^ 4 := Nat.lt_of_lt_of_le (M.rb_lt ((l.drop 4).take 4) (fun z hz => hh.byte z (List.mem_of_mem_drop (List.mem_of_mem_take hz)))) (Nat.pow_le_pow_right (by omega) (by simp; omega))
    omega
  have HC := toldLength_any ⟨b, o + 4, none⟩ (c - 4) ((l.drop 4).take 4) w (by simp; omega) ((hr.drop 4).take 4) (fun z hz => hh.byte z (List.mem_of_mem_drop (List.mem_of_mem_take hz)))
  have HC2 := hide HC
  clear hr hh hlen hm HC
  go_enter Tryz.func95, Tryz.ntmps95
  go_wp2_with fail
  refine HC2.out.mono ?_
  clear HC2
  rintro e w' ⟨rfl, rfl⟩
  rw [show M.rb ((l.drop 4).take 4) = told l from rfl]
  by_cases h3 : n < told l + 12
  · have H := hide (coErr_short h3)
    go_wp2
    go_ret
    exact ⟨ret_int H.out.symm, rfl⟩
  · by_cases h4 : told l + 12 < n
    · have H := hide (coErr_tail h4)
      go_wp2
      go_ret
      exact ⟨ret_int H.out.symm, rfl⟩
    · have H := hide (coErr_ok h3 h4)
      go_wp2
      go_ret
      exact ⟨ret_int H.out.symm, rfl⟩
def outErr (f : List Int) : Int := if 32768 < f.length then 11 else if f.length < 12 then 10 else if f.take 4 = M.magic then coErr f.length (told f) else 13
theorem outErr_range {f : List Int} (h : outErr f = 0) : 12 ≤ f.length ∧ f.length ≤ 32768 ∧ f.take 4 = M.magic ∧ f.length = told f + 12 := by
  unfold outErr at h
  split at h
  · cases h
  · split at h
    · cases h
    · split at h
      · unfold coErr at h
        split at h
        · cases h
        · split at h
          · cases h
          · rename_i h1 h2 h3 h4 h5
            exact ⟨by omega, by omega, h3, by omega⟩
      · cases h
theorem co_any (a : Option Addr) (n c : Nat) (f : List Int) (w : World) (hh : Hs w a n c f) :
    Calls Tryz.prog 95 #[.slice a n c] w fun e w' => e = .returned (.int .i64 (outErr f)) ∧ w' = w := by
  unfold outErr
  rw [hh.len]
  by_cases h1 : 32768 < n
  · rw [if_pos h1]; exact co_long a n c w h1
  · rw [if_neg h1]
    by_cases h2 : n < 12
    · rw [if_pos h2]; exact co_short a n c w h2
    · rw [if_neg h2]
      cases a with
      | none =>
        have := (hh.nil rfl).1
        have h3 := hh.len
        rw [this] at h3
        simp at h3
        omega
      | some x =>
        obtain ⟨b, o, rfl⟩ := hh.flat (by omega)
        by_cases h3 : f.take 4 = M.magic
        · rw [if_pos h3]; exact co_rest b o n c f w hh (by omega) (by omega) h3
        · rw [if_neg h3]; exact co_magic b o n c f w hh (by omega) (by omega) h3
def opErr (f : List Int) : Int := if outErr f = 0 then if M.sum (f.take (f.length - 4)) = M.rl (f.drop (f.length - 4)) then 0 else 14 else outErr f
def opBody (f : List Int) : List Int := if opErr f = 0 then (f.drop 8).take (f.length - 12) else []
theorem opErr_out {f : List Int} (h : outErr f ≠ 0) : opErr f = outErr f := by unfold opErr; rw [if_neg h]
theorem opErr_sum {f : List Int} (h : outErr f = 0) (h2 : M.sum (f.take (f.length - 4)) ≠ M.rl (f.drop (f.length - 4))) : opErr f = 14 := by unfold opErr; rw [if_pos h, if_neg h2]
theorem opErr_ok {f : List Int} (h : outErr f = 0) (h2 : M.sum (f.take (f.length - 4)) = M.rl (f.drop (f.length - 4))) : opErr f = 0 := by unfold opErr; rw [if_pos h, if_pos h2]
theorem opBody_bad {f : List Int} (h : opErr f ≠ 0) : opBody f = [] := by unfold opBody; rw [if_neg h]
theorem opBody_ok {f : List Int} (h : opErr f = 0) : opBody f = (f.drop 8).take (f.length - 12) := by unfold opBody; rw [if_pos h]
theorem ret_tup {k : IntKind} {v : Value} {a b : Int} (h : a = b) : Ending.returned (.tuple #[v, .int k a]) = .returned (.tuple #[v, .int k b]) := by rw [h]
set_option maxHeartbeats 400000 in
theorem open_out (a : Option Addr) (n c : Nat) (f : List Int) (w : World) (hh : Hs w a n c f) (h : outErr f ≠ 0) :
    Calls Tryz.prog 51 #[.slice a n c] w fun e w' => ∃ v', e = .returned (.tuple #[v', .int .i64 (opErr f)]) ∧ Own w.heap.size w' v' (opBody f) ∧ Below w.heap.size w w' := by
  have h2 : (outErr f != 0) = true := by simp [h]
  have he := opErr_out h
  rw [he, opBody_bad (by rw [he]; exact h)]
  clear he
  have HC := hide (co_any a n c f w hh)
  clear hh h
  generalize outErr f = E at *
  go_enter Tryz.func51, Tryz.ntmps51
  go_wp2_with fail
  refine HC.out.mono ?_
  rintro e w' ⟨rfl, rfl⟩
  go_wp2
  go_ret2
  exact ⟨_, rfl, Own.nil _ _, Below.refl _ _⟩
set_option maxHeartbeats 400000 in
theorem open_in (b o n c : Nat) (f : List Int) (w : World) (hh : Hs w (some ⟨b, o, none⟩) n c f) (h : outErr f = 0) :
    Calls Tryz.prog 51 #[.slice (some ⟨b, o, none⟩) n c] w fun e w' => ∃ v', e = .returned (.tuple #[v', .int .i64 (opErr f)]) ∧ Own w.heap.size w' v' (opBody f) ∧ Below w.heap.size w w' := by
  have hlen := hh.len
  have hcap := hh.cap
  have hr := hh.row _ rfl
  obtain ⟨r1, r2, _, _⟩ := outErr_range h
  rw [hlen] at r1 r2
  have HC := hide (co_any _ n c f w hh)
  rw [h] at HC
  have H1 := fun k => hide (sum_any ⟨b, o, none⟩ (n - 4) c f (w.drewN k) (by omega) (by unfold maxLen; omega) hr hh.byte)
  have H2 : ∀ k, Hid (Calls Tryz.prog 96 #[.slice (some ⟨b, o + (n - 4), none⟩) (n - (n - 4)) (c - (n - 4))] (w.drewN k) fun e w' => e = .returned (.int .u32 (M.rl (f.drop (n - 4)))) ∧ w' = w.drewN k) := by
    intro k
    have := toldSum_any ⟨b, o + (n - 4), none⟩ (c - (n - 4)) (f.drop (n - 4)) (w.drewN k) (by simp; omega) (hr.drop (n - 4)) (fun z hz => hh.byte z (List.mem_of_mem_drop hz))
    have e4 : n - (n - 4) = 4 := by omega
    generalize n - (n - 4) = m at e4
    subst e4
    exact this
  go_enter Tryz.func51, Tryz.ntmps51
  go_wp2_with fail
  refine HC.out.mono ?_
  rintro e w' ⟨rfl, rfl⟩
  go_wp2_with fail
  go_quiet ((first | (go_at_call 93; exact Calls.quiet_of_same (H1 _).out) | (go_at_call 96; exact Calls.quiet_of_same (H2 _).out)))
  by_cases hs : M.sum (f.take (n - 4)) = M.rl (f.drop (n - 4))
  · have HE := hide (opErr_ok h (by rw [hlen]; exact hs))
    have HB := hide (opBody_ok HE.out)
    have ht : ((M.sum (f.take (n - 4)) : Int) != (M.rl (f.drop (n - 4)) : Int)) = false := by rw [hs]; simp
    have HCl := hide (clone_any ⟨b, o + 8, none⟩ (n - 4 - 8) (c - 8) (f.drop 8) (w'.drewN nq) (by simp; omega) (by omega) (hr.drop 8))
    rw [hlen] at HB
    clear hs H1 H2 HC hh hr h hlen
    generalize M.sum (f.take (n - 4)) = A at *
    generalize M.rl (f.drop (n - 4)) = D at *
    go_wp2_with fail
    refine HCl.out.mono ?_
    rintro e w2 ⟨v, rfl, k1, k2, k3⟩
    go_wp2
    go_ret2
    refine ⟨v, ret_tup HE.out.symm, ?_, (below_drewN (Below.refl _ _) nq).trans k3⟩
    rw [HB.out]
    exact k1
  · have HE := hide (opErr_sum h (by rw [hlen]; exact hs))
    have HB := hide (opBody_bad (f := f) (by rw [HE.out]; decide))
    have ht : ((M.sum (f.take (n - 4)) : Int) != (M.rl (f.drop (n - 4)) : Int)) = true := by
      rw [bne_iff_ne]
      omega
    clear hs H1 H2 HC hh hr h hlen
    generalize M.sum (f.take (n - 4)) = A at *
    generalize M.rl (f.drop (n - 4)) = D at *
    go_wp2
    go_ret2
    refine ⟨_, ret_tup HE.out.symm, ?_, below_drewN (Below.refl _ _) nq⟩
    rw [HB.out]
    exact Own.nil _ _
theorem open_any (a : Option Addr) (n c : Nat) (f : List Int) (w : World) (hh : Hs w a n c f) :
    Calls Tryz.prog 51 #[.slice a n c] w fun e w' => ∃ v', e = .returned (.tuple #[v', .int .i64 (opErr f)]) ∧ Own w.heap.size w' v' (opBody f) ∧ Below w.heap.size w w' := by
  by_cases h : outErr f = 0
  · obtain ⟨r1, _, _, _⟩ := outErr_range h
    cases a with
    | none => rw [(hh.nil rfl).1] at r1; simp at r1
    | some x =>
      obtain ⟨b, o, rfl⟩ := hh.flat (by rw [← hh.len]; omega)
      exact open_in b o n c f w hh h
  · exact open_out a n c f w hh h
theorem be4 (n : Nat) : M.be n 4 = [M.beAt n 0, M.beAt n 1, M.beAt n 2, M.beAt n 3] := rfl
theorem le4 (n : Nat) : M.le n 4 = [M.leAt n 0, M.leAt n 1, M.leAt n 2, M.leAt n 3] := rfl
theorem rb_be (n : Nat) (h : n < 4294967296) : M.rb (M.be n 4) = n := by
  rw [be4]
  simp only [M.rb, List.foldl_cons, List.foldl_nil, M.beAt, Int.toNat_natCast, Nat.shiftRight_eq_div_pow]
  simp
  omega
theorem rl_le (n : Nat) (h : n < 4294967296) : M.rl (M.le n 4) = n := by
  rw [le4]
  simp only [M.rl, M.leAt, Int.toNat_natCast, Nat.shiftRight_eq_div_pow]
  simp
  omega
theorem four (l : List Int) (h : l.length = 4) : ∃ a b c d, l = [a, b, c, d] := by
  match l, h with
  | [a, b, c, d], _ => exact ⟨a, b, c, d, rfl⟩
theorem le_rl (l : List Int) (h : l.length = 4) (hb : ∀ z ∈ l, 0 ≤ z ∧ z < 256) : M.le (M.rl l) 4 = l := by
  obtain ⟨a, b, c, d, rfl⟩ := four l h
  have h1 := hb a (by simp); have h2 := hb b (by simp); have h3 := hb c (by simp); have h4 := hb d (by simp)
  rw [le4]
  simp only [M.rl, M.leAt, Nat.shiftRight_eq_div_pow, List.cons.injEq, and_true]
  simp
  omega
theorem frame_take4 (l : List Int) : (M.frame l).take 4 = M.magic := by
  unfold M.frame M.bare
  rw [List.append_assoc, List.append_assoc]
  exact List.take_left' rfl
theorem frame_told (l : List Int) (h : l.length < 4294967296) : told (M.frame l) = l.length := by
  unfold told M.frame M.bare
  rw [List.append_assoc, List.append_assoc, List.drop_left' (show M.magic.length = 4 from rfl), List.take_left' (M.be_length _ _), rb_be _ h]
theorem frame_out (l : List Int) (h : l.length ≤ 32756) : outErr (M.frame l) = 0 := by
  unfold outErr
  rw [M.frame_length, if_neg (by omega), if_neg (by omega), if_pos (frame_take4 l), frame_told l (by omega)]
  exact coErr_ok (by omega) (by omega)
theorem frame_head (l : List Int) : (M.frame l).take (l.length + 8) = M.bare l := List.take_left' (M.bare_length l)
theorem frame_tail (l : List Int) : (M.frame l).drop (l.length + 8) = M.le (M.sum (M.bare l)) 4 := List.drop_left' (M.bare_length l)
theorem frame_err (l : List Int) (h : l.length ≤ 32756) (hb : ∀ z ∈ l, 0 ≤ z ∧ z < 256) : opErr (M.frame l) = 0 := by
  refine opErr_ok (frame_out l h) ?_
  rw [M.frame_length, show l.length + 12 - 4 = l.length + 8 from by omega, frame_head, frame_tail, rl_le _ (M.sum_lt _ (fun z hz => (M.bare_byte l hb z hz).2))]
theorem frame_body (l : List Int) (h : l.length ≤ 32756) (hb : ∀ z ∈ l, 0 ≤ z ∧ z < 256) : opBody (M.frame l) = l := by
  rw [opBody_ok (frame_err l h hb), M.frame_length, show l.length + 12 - 12 = l.length from by omega]
  unfold M.frame M.bare
  rw [List.append_assoc, List.drop_left' (by simp [M.magic, M.be_length]), List.take_left' rfl]
theorem be_eq (n j : Nat) : ((n : Int) / 2 ^ (24 - 8 * j) % 256) = M.beAt n j := by
  unfold M.beAt
  rw [Nat.shiftRight_eq_div_pow]
  simp
theorem le_eq (n j : Nat) : ((n : Int) / 2 ^ (8 * j) % 256) = M.leAt n j := by
  unfold M.leAt
  rw [Nat.shiftRight_eq_div_pow]
  simp
theorem sb_magic : sb { data := #[97, 109, 110, 49] } = M.magic := rfl
theorem mk_own (w : World) {ops : Array Oper} {rest : List Oper} {o : Oper} {a : Act} {Q : Exit → Act → World → Prop} (hgd : o.guard = none) (c : Operand)
    (hop : o.op = Op.makeSlice 55 (.const (.int .i64 0)) c) (C : Int) (n : Nat) (hc : a.eval c = .int .i64 C) (hC : C = (n : Int)) (hm : n ≤ 281474976710656)
    (hK : ∀ w', Own w.heap.size w' (.slice (some ⟨w.heap.size, 0, none⟩) 0 n) [] → Below w.heap.size w w' → wpList Tryz.prog ops Q rest (a.put o.dst (.slice (some ⟨w.heap.size, 0, none⟩) 0 n)) w') : wpList Tryz.prog ops Q (o :: rest) a w := by
  obtain ⟨i0, hi, hz0, hz1, hz2⟩ := info_parts Tryz.info5
  refine wpList_make_own w hgd (.const (.int .i64 0)) c 55 hop w.heap.size 5 i0 (.int .u8 0) 1 Tryz.underlying55 hi hz0 hz1 .i64 .i64 C n rfl hc hC (by rw [hz2]; omega) (by unfold maxLen; omega) (Nat.le_refl _) ?_
  intro w' h1 h2
  exact hK w' h1 ((Below.refl _ _).grown h2 (Nat.le_refl _) (fun k hk => by cases hk))
theorem seal_long (a : Option Addr) (n c : Nat) (w : World) (h : 32756 < n) :
    Calls Tryz.prog 46 #[.slice a n c] w fun e w' => e = .returned (.tuple #[.slice none 0 0, .int .i64 11]) ∧ w' = w := by
  go_enter Tryz.func46, Tryz.ntmps46
  go_wp2
  go_ret2
  exact ⟨rfl, rfl⟩
set_option maxHeartbeats 400000 in
theorem seal_ok (a : Option Addr) (n c : Nat) (l : List Int) (w : World) (hh : Hs w a n c l) (h : n ≤ 32756) :
    Calls Tryz.prog 46 #[.slice a n c] w fun e w' => ∃ v', e = .returned (.tuple #[v', .int .i64 0]) ∧ Own w.heap.size w' v' (M.frame l) ∧ v' ≠ .slice none 0 0 ∧ Below w.heap.size w w' := by
  have hH := hide hh.len
  go_enter Tryz.func46, Tryz.ntmps46
  go_wp2_with (at_make; go_must (refine mk_own _ rfl (.tmp 13) rfl ((n : Int) + 12) (n + 12) rfl ?zc ?zm ?zk))
  case zc => omega
  case zm => omega
  case zk =>
    intro w1 ho1 hb1
    have hs1 := hb1.size
    go_wp2_with (at_builtin; go_must (refine app_str _ rfl (.tmp 15) (.const (.string { data := #[97, 109, 110, 49] })) rfl w.heap.size [] _ rfl { data := #[97, 109, 110, 49] } rfl ?yo ?yB ?yb ?yk))
    case yo => exact ho1
    case yB => exact hs1
    case yb => decide
    case yk =>
      intro v2 w2 ho2 hk2 hg2
      rw [sb_magic] at ho2
      have hb2 : Below w.heap.size w w2 := ho1.grown hb1 hg2 hs1
      have hn2 := hk2 (.inr (by decide))
      clear hk2 hg2 ho1 hb1 hs1
      have ho2' : Own w.heap.size w2 v2 (M.magic ++ M.be n 0) := by rw [show M.be n 0 = [] from rfl, List.append_nil]; exact ho2
      clear ho2
      go_wp2_with fail
      go_loopw [4, 5, 17] (fun b _ i wr => ∃ j : Nat, j ≤ 4 ∧ i = .int .i64 j ∧ Own w.heap.size wr b (M.magic ++ M.be n j) ∧ Below w.heap.size w wr ∧ b ≠ .slice none 0 0) (fun _ _ i _ => 4 - (intOf i).toNat)
      case atStart => exact ⟨0, by omega, rfl, ho2', hb2, hn2⟩
      case round =>
        obtain ⟨j, hj, rfl, hr, hbr, hnr⟩ := hrel
        have hsr := hbr.size
        by_cases hlt : j < 4
        · go_wp2_with (at_builtin; go_must (refine app_one _ rfl (.tmp 20) (.tmp 28) rfl w.heap.size (M.magic ++ M.be n j) u4 rfl _ rfl ((n : Int) / 2 ^ (24 - 8 * j) % 256) ?xc ?xo ?xB ?xb ?xk))
          case xc => simp
          case xo => exact hr.alloc _
          case xB => simp; omega
          case xb => simp [M.be_length, M.magic]; omega
          case xk =>
            intro v3 w3 k1 k2 k3
            have hb3 : Below w.heap.size w w3 := (hr.alloc _).grown (hbr.alloc hsr (.cells #[.int .u8 ((n : Int) / 2 ^ (24 - 8 * j) % 256)] 5)) k3 (by simp; omega)
            have k4 : Own w.heap.size w3 v3 (M.magic ++ M.be n (j + 1)) := by rw [M.be_succ, ← be_eq]; exact k1
            clear k1 k3 hr hbr
            go_wp2
            go_roundw
            case rel => exact ⟨j + 1, by omega, by go_num, k4, hb3, k2⟩
            case measure => simp [intOf]; omega
        · obtain rfl : j = 4 := by omega
          clear ho2' hb2 hn2
          go_wp2_with (at_builtin; go_must (refine app_hs _ rfl (.tmp 31) (.tmp 32) rfl w.heap.size (M.magic ++ M.be n 4) u4 rfl a n c rfl l ?xh ?xo ?xB ?xb ?xk))
          case xh => exact hh.later hbr
          case xo => exact hr
          case xB => exact hsr
          case xb => simp [M.be_length, M.magic]; omega
          case xk =>
            intro v3 w3 k1 k2 k3
            have hb3 : Below w.heap.size w w3 := hr.grown hbr k3 hsr
            have k4 := k2 (.inl hnr)
            have k5 : Own w.heap.size w3 v3 (M.bare l) := by unfold M.bare; rw [hH.out]; simpa using k1
            have hbb := M.bare_byte l hh.byte
            obtain ⟨g3, c3, hv3, hg3, hg4⟩ := k5.shape k4
            have hbl := M.bare_length l
            rw [hH.out] at hbl
            rw [hbl] at hv3
            subst hv3
            clear k1 k2 k3 hr hbr hnr k4
            have hr3 := k5.row
            go_wp2_with fail
            refine (sum_any ⟨g3, 0, none⟩ (n + 8) c3 (M.bare l) w3 (by omega) (by unfold maxLen; omega) hr3 hbb).mono ?_
            rintro e w4 ⟨rfl, rfl⟩
            rw [List.take_of_length_le (by omega)]
            have hS := M.sum_lt (M.bare l) (fun z hz => (hbb z hz).2)
            have hfr : M.frame l = M.bare l ++ M.le (M.sum (M.bare l)) 4 := rfl
            have HF := hide hfr
            clear hfr hr3 hbb
            generalize hSS : M.sum (M.bare l) = S at *
            generalize hBB : M.bare l = L at *
            have HBL := hide hbl
            clear hSS hBB hbl
            have k6 : Own w.heap.size w4 (.slice (some ⟨g3, 0, none⟩) (n + 8) c3) (L ++ M.le S 0) := by rw [show M.le S 0 = [] from rfl, List.append_nil]; exact k5
            have kn : (Value.slice (some ⟨g3, 0, none⟩) (n + 8) c3) ≠ .slice none 0 0 := by intro hh; cases hh
            clear k5
            go_wp2_with fail
            go_loopw [4, 7, 36] (fun b _ i wr => ∃ j : Nat, j ≤ 4 ∧ i = .int .i64 j ∧ Own w.heap.size wr b (L ++ M.le S j) ∧ Below w.heap.size w wr ∧ b ≠ .slice none 0 0) (fun _ _ i _ => 4 - (intOf i).toNat)
            case atStart => exact ⟨0, by omega, rfl, k6, hb3, kn⟩
            case round =>
              obtain ⟨j, hj, rfl, hr, hbr, hnr⟩ := hrel
              have hsr := hbr.size
              clear k6 hb3 kn
              by_cases hlt : j < 4
              · go_wp2_with (at_builtin; go_must (refine app_one _ rfl (.tmp 39) (.tmp 45) rfl w.heap.size (L ++ M.le S j) u4 rfl _ rfl ((S : Int) / 2 ^ (8 * j) % 256) ?xc ?xo ?xB ?xb ?xk))
                case xc => simp
                case xo => exact hr.alloc _
                case xB => simp; omega
                case xb => simp [M.le_length, HBL.out]; omega
                case xk =>
                  intro v3 w3 k1 k2 k3
                  have hb3 : Below w.heap.size w w3 := (hr.alloc _).grown (hbr.alloc hsr (.cells #[.int .u8 ((S : Int) / 2 ^ (8 * j) % 256)] 5)) k3 (by simp; omega)
                  have k4 : Own w.heap.size w3 v3 (L ++ M.le S (j + 1)) := by rw [M.le_succ, ← le_eq]; exact k1
                  clear k1 k3 hr hbr
                  go_wp2
                  go_roundw
                  case rel => exact ⟨j + 1, by omega, by go_num, k4, hb3, k2⟩
                  case measure => simp [intOf]; omega
              · obtain rfl : j = 4 := by omega
                go_wp2
                go_ret2
                exact ⟨_, rfl, by rw [HF.out]; exact hr, hnr, hbr⟩
theorem st_odd (s : Nat) (h : s < 4294967296) (ho : s % 2 = 1) : bits .xor .u32 ((s : Int) / 2) 3988292384 = ((M.st s : Nat) : Int) := by
  have e3 : ((s : Int) / (2 : Int)) = ((s >>> 1 : Nat) : Int) := by rw [Nat.shiftRight_eq_div_pow]; omega
  have h2 : s >>> 1 < 4294967296 := by rw [Nat.shiftRight_eq_div_pow]; omega
  rw [e3]
  refine (u32_xor_nat (s >>> 1) 3988292384 h2 (by omega)).trans ?_
  unfold M.st
  rw [Nat.and_one_is_mod, ho]
theorem st_even (s : Nat) (ho : s % 2 = 0) : ((s : Int) / 2) = ((M.st s : Nat) : Int) := by
  have e3 : ((s : Int) / (2 : Int)) = ((s >>> 1 : Nat) : Int) := by rw [Nat.shiftRight_eq_div_pow]; omega
  rw [e3]
  unfold M.st
  rw [Nat.and_one_is_mod, ho]
  simp
theorem odd_test (s : Nat) (h : s < 4294967296) : (bits .and .u32 (s : Int) 1 == 1) = decide (s % 2 = 1) := by
  have e1 : bits .and .u32 (s : Int) 1 = ((s &&& 1 : Nat) : Int) := u32_and_nat s 1 h (by omega)
  rw [e1, Nat.and_one_is_mod]
  have h2 : s % 2 < 2 := Nat.mod_lt _ (by omega)
  generalize s % 2 = b at *
  match b, h2 with
  | 0, _ | 1, _ => rfl
theorem not_bits' (a : Nat) (ha : a < 4294967296) : bits .xor .u32 (a : Int) 4294967295 = ((4294967295 ^^^ a : Nat) : Int) := by
  have := u32_xor_nat a 4294967295 ha (by omega)
  rw [Nat.xor_comm]
  exact this
set_option maxHeartbeats 1000000 in
theorem refsum_any (x : Addr) (len cap : Nat) (zs : List Int) (w : World) (hlen : zs.length = len) (hmax : len ≤ maxLen) (hc : Row w x zs) (hb : ∀ z ∈ zs, 0 ≤ z ∧ z < 256) :
    Calls Tryz.prog 60 #[.slice (some x) len cap] w fun e w' => e = .returned (.int .u32 (M.sum zs)) ∧ w' = w := by
  unfold maxLen at hmax
  have HLN := hide hlen
  clear hlen
  obtain ⟨xb, xo, xs⟩ := x
  go_enter Tryz.func60, Tryz.ntmps60
  go_wp2
  go_loop [3, 4, 5, 6] (fun t i _ _ => ∃ k : Nat, k ≤ len ∧ i = .int .i64 k ∧ t = .int .u32 (M.fold 4294967295 (zs.take k) : Nat)) (fun _ i _ _ => len - (intOf i).toNat)
  case atStart => exact ⟨0, Nat.zero_le _, rfl, rfl⟩
  case round =>
    obtain ⟨k, hk, rfl, rfl⟩ := hrel
    by_cases hlt : k < len
    · have hkl : k < zs.length := by rw [HLN.out]; exact hlt
      have hcell := hc k hkl
      have hz : 0 ≤ zs.getD k 0 ∧ zs.getD k 0 < 256 := hb _ (by simp [List.getD, hkl])
      have hfl : M.fold 4294967295 (zs.take k) < 4294967296 := M.fold_lt _ _ (by omega) (fun z hz => (hb z (List.mem_of_mem_take hz)).2)
      have HS := hide (M.fold_take 4294967295 zs k hkl)
      have HX := hide (u32_xor_cast _ _ hfl hz.1 hz.2)
      have hq : M.fold 4294967295 (zs.take k) ^^^ (zs.getD k 0).toNat < 4294967296 := M.xor_lt hfl (by omega)
      clear hkl
      go_wp2
      rw [show zs[k]?.getD 0 = zs.getD k 0 from rfl, HX.out]
      have HU : Hid (M.upd (M.fold 4294967295 (zs.take k)) (zs.getD k 0) = M.stN 8 (M.fold 4294967295 (zs.take k) ^^^ (zs.getD k 0).toNat)) := rfl
      generalize M.fold 4294967295 (zs.take k) ^^^ (zs.getD k 0).toNat = s0 at *
      go_loop [3, 5, 6] (fun t i _ => ∃ j : Nat, j ≤ 8 ∧ i = .int .i64 j ∧ t = .int .u32 (M.stN j s0 : Nat)) (fun _ i _ => 8 - (intOf i).toNat)
      case atStart => exact ⟨0, by omega, rfl, rfl⟩
      case round =>
        obtain ⟨j, hj, rfl, rfl⟩ := hrel
        have hsl := M.stN_lt j s0 hq
        have HT : Hid (M.st (M.stN j s0) = M.stN (j + 1) s0) := rfl
        have HR := hide (st_odd (M.stN j s0) hsl)
        have HE := hide (st_even (M.stN j s0))
        have hot := odd_test (M.stN j s0) hsl
        by_cases hj8 : j < 8
        · by_cases hodd : M.stN j s0 % 2 = 1
          · rw [decide_eq_true hodd] at hot
            have HO := hide (HR.out hodd)
            clear hodd HE HR
            go_wp2
            go_round
            case rel => exact ⟨j + 1, by omega, by go_num, int_eq (by rw [← HT.out]; exact HO.out)⟩
            case measure => simp [intOf]; omega
          · rw [decide_eq_false hodd] at hot
            have HO := hide (HE.out (by omega))
            clear hodd HE HR
            go_wp2
            go_round
            case rel => exact ⟨j + 1, by omega, by go_num, int_eq (by rw [← HT.out]; exact HO.out)⟩
            case measure => simp [intOf]; omega
        · clear hot HE HR
          go_wp2
          go_round
          case rel =>
            refine ⟨k + 1, by omega, by go_num, ?_⟩
            obtain rfl : j = 8 := by omega
            exact int_eq (by rw [HS.out, HU.out])
          case measure => simp [intOf]; omega
    · obtain rfl : k = len := by omega
      have hfl : M.fold 4294967295 (zs.take k) < 4294967296 := M.fold_lt _ _ (by omega) (fun z hz => (hb z (List.mem_of_mem_take hz)).2)
      have HX := hide (not_bits' _ hfl)
      go_wp2
      go_ret
      refine ⟨ret_int ?_, rfl⟩
      rw [show M.sum zs = 4294967295 ^^^ M.fold 4294967295 (zs.take k) from by rw [List.take_of_length_le (Nat.le_of_eq HLN.out)]; rfl]
      exact HX.out
theorem Own.kept {B : Nat} {w w' : World} {v : Value} {l : List Int} (h : Own B w v l) (hb : Below w.heap.size w w') : Own B w' v l := by
  refine ⟨h.1, ?_⟩
  rcases h.2 with h2 | ⟨g, c, cur, h1, h2, h3, r⟩
  · exact Or.inl h2
  · exact Or.inr ⟨g, c, cur, h1, h2, by rw [hb.block g ((World.ownsRow.lt h g (by rw [h1]; rfl)).2)]; exact h3, r⟩
theorem own_built (w : World) (C : Array Value) (n : Nat) (l : List Int) (hn : l.length = n) (hC : C.toList = bs l) (hm : n ≤ maxLen) : Own w.heap.size (w.alloc (.cells C 5)) (.slice (some ⟨w.heap.size, 0, none⟩) n n) l := by
  subst hn
  have hsz : C.size = l.length := by rw [← Array.length_toList, hC]; simp [bs]
  refine ⟨by simp [bs], .inr ⟨w.heap.size, l.length, C, rfl, Nat.le_refl _, heap_alloc_new w _, Nat.le_refl _, hm, by rw [hsz, Nat.mul_one], ?_⟩⟩
  rw [hC]
  exact List.take_of_length_le (by simp [bs])
theorem be4_vals (n : Nat) (h : n < 4294967296) : bs (M.be n 4) = [.int .u8 ((n : Int) / 16777216), .int .u8 ((n : Int) / 65536 % 256), .int .u8 ((n : Int) / 256 % 256), .int .u8 ((n : Int) % 256)] := by
  rw [be4]
  simp only [bs, List.map_cons, List.map_nil, M.beAt, Nat.shiftRight_eq_div_pow, List.cons.injEq, Value.int.injEq, true_and, and_true]
  simp
  omega
theorem four_any (n : Nat) (w : World) (h : n < 4294967296) :
    Calls Tryz.prog 59 #[.int .u32 n] w fun e w' => e = .returned (.slice (some ⟨w.heap.size, 0, none⟩) 4 4) ∧ Own w.heap.size w' (.slice (some ⟨w.heap.size, 0, none⟩) 4 4) (M.be n 4) ∧ Below w.heap.size w w' := by
  go_enter Tryz.func59, Tryz.ntmps59
  go_wp2
  go_ret
  exact ⟨rfl, own_built w _ 4 (M.be n 4) rfl (by rw [be4_vals n h]) (by unfold maxLen; omega), (Below.refl _ _).alloc (Nat.le_refl _) _⟩
theorem le_be (S : Nat) : M.le S 4 = [M.beAt S 3, M.beAt S 2, M.beAt S 1, M.beAt S 0] := by
  rw [le4]
  rfl
theorem step_bytes {ops : Array Oper} {o : Oper} {a : Act} {w : World} {K : Act → World → Prop} {Q : Exit → Act → World → Prop} {E : Prop} (hg : o.guard = none) (s x : Operand)
    (ho : o.op = .call { callee := .builtin .append, args := #[s, x], argTypes := #[55, 55] }) (B : Nat) (l : List Int) (v : Value) (hs : a.eval s = v)
    (ad : Addr) (m c : Nat) (hx : a.eval x = .slice (some ad) m c) (news : List Int) (hm : news.length = m) (hc : Row w ad news) (hown : Own B w v l) (hB : B ≤ w.heap.size) (hb : l.length + m ≤ 140737488355328)
    (hK : ∀ v' w', Own B w' v' (l ++ news) → Keeps v v' m → w.grownBy w' v.ownBlock → K (a.put o.dst v') w') :
    if Region.wanted o (yielded ops a.tmps) = true then Oper.wp Tryz.prog o a w K Q else E := by
  have hw : Region.wanted o (yielded ops a.tmps) = true := by simp [Region.wanted, hg]
  rw [if_pos hw]
  obtain ⟨i0, hi, hz0, hz1, hz2⟩ := info_parts Tryz.info5
  refine wp_append_own w s x 55 ho B 5 i0 (.int .u8 0) 1 1 Tryz.underlying55 hi hz0 hz1 hz2 rfl (by decide) v l.length (bs l) hs hown ad m c (bs news) hx (by simp [bs, hm]) ?_ (bs_oneCell _) (by unfold maxLen; omega) (by omega) hB ?_
  · intro j u hu
    have hj : j < news.length := by simpa [bs] using (List.getElem?_eq_some_iff.1 hu).1
    rw [hc j hj, ← hu]
    simp [bs, hj, List.getD]
  · intro v' w' h2 h3 h4
    refine hK v' w' ?_ ?_ h3
    · unfold Own; rw [bs_append, List.length_append, hm]; exact h2
    · intro hp he
      obtain ⟨k1, k2⟩ := h4.1 he
      rcases hp with hp | hp
      · exact hp k1
      · omega
set_option maxHeartbeats 1000000 in
theorem refseal_ok (a : Option Addr) (n c : Nat) (l : List Int) (w : World) (hh : Hs w a n c l) (h : n ≤ 32756) :
    Calls Tryz.prog 23 #[.slice a n c] w fun e w' => ∃ v', e = .returned (.tuple #[v', .int .i64 0]) ∧ Own w.heap.size w' v' (M.frame l) ∧ v' ≠ .slice none 0 0 ∧ Below w.heap.size w w' := by
  have hH := hide hh.len
  have hby := hh.byte
  go_enter Tryz.func23, Tryz.ntmps23
  go_wp2_with (at_builtin; go_must (refine app_any _ rfl (.tmp 9) (.tmp 10) rfl w.heap.size [] _ rfl ⟨w.heap.size, 0, none⟩ 4 4 rfl M.magic rfl (Own.nil _ _) (by intro j hj; match j, hj with | 0, _ | 1, _ | 2, _ | 3, _ => simp [Addr.add_lit]; rfl) (by simp) (by decide) ?_))
  intro v1 w1 o1 k1 g1
  have hn1 := k1 (.inr (by omega))
  have b1 : Below w.heap.size w w1 := ((Below.refl _ _).alloc (Nat.le_refl _) _).grown g1 (by simp) (fun k hk => by cases hk)
  have z1 := b1.size
  clear k1 g1
  go_wp2_with fail
  refine (four_any n w1 (by omega)).mono ?_
  rintro e w2 ⟨rfl, o2, b2⟩
  have o1' : Own w.heap.size w2 v1 M.magic := o1.kept b2
  have b2' : Below w.heap.size w w2 := b1.trans (b2.mono z1)
  have z2 := b2'.size
  have r2 := o2.row
  clear o1 o2 b2 b1
  go_wp2_with (at_builtin; go_must (refine app_any _ rfl (.tmp 12) (.tmp 16) rfl w.heap.size M.magic v1 rfl ⟨w1.heap.size, 0, none⟩ 4 4 rfl (M.be n 4) rfl o1' (fun j hj => r2 j hj) z2 (by decide) ?_))
  intro v3 w3 o3 k3 g3
  have hn3 := k3 (.inl hn1)
  have b3 : Below w.heap.size w w3 := o1'.grown b2' g3 z2
  have z3 := b3.size
  clear k3 g3 o1' b2' hn1 r2
  go_wp2_with (at_builtin; go_must (refine app_hs _ rfl (.tmp 18) (.tmp 19) rfl w.heap.size (M.magic ++ M.be n 4) v3 rfl a n c rfl l (hh.later b3) o3 z3 (by simp [M.be_length, M.magic]; omega) ?_))
  intro v4 w4 o4 k4 g4
  have hn4 := k4 (.inl hn3)
  have b4 : Below w.heap.size w w4 := o3.grown b3 g4 z3
  have z4 := b4.size
  have o5 : Own w.heap.size w4 v4 (M.bare l) := by unfold M.bare; rw [hH.out]; simpa using o4
  have hbb := M.bare_byte l hby
  have hbl := M.bare_length l
  rw [hH.out] at hbl
  obtain ⟨g, cc, hv, hg1, hg2⟩ := o5.shape hn4
  rw [hbl] at hv
  subst hv
  clear k4 g4 o3 b3 hn3 hn4 o4
  have r5 := o5.row
  go_wp2_with fail
  refine (refsum_any ⟨g, 0, none⟩ (n + 8) cc (M.bare l) w4 hbl (by unfold maxLen; omega) r5 hbb).mono ?_
  rintro e w5 ⟨rfl, hx⟩
  rw [hx]
  clear hx
  have hS := M.sum_lt (M.bare l) (fun z hz => (hbb z hz).2)
  have HF : Hid (M.frame l = M.bare l ++ M.le (M.sum (M.bare l)) 4) := rfl
  have HBL := hide hbl
  clear hbb hbl r5 w5
  generalize M.sum (M.bare l) = S at *
  generalize M.bare l = L at *
  go_wp2_with fail
  refine (four_any S w4 hS).mono ?_
  rintro e w6 ⟨rfl, o6, b6⟩
  have o7 : Own w.heap.size w6 (.slice (some ⟨g, 0, none⟩) (n + 8) cc) L := o5.kept b6
  have b7 : Below w.heap.size w w6 := b4.trans (b6.mono z4)
  have z7 := b7.size
  have r6 := o6.row
  have q0 : w6.cell? ⟨w4.heap.size, 0, none⟩ = some (.int .u8 (M.beAt S 0)) := r6 0 (by simp [M.be_length])
  have q1 : w6.cell? ⟨w4.heap.size, 1, none⟩ = some (.int .u8 (M.beAt S 1)) := r6 1 (by simp [M.be_length])
  have q2 : w6.cell? ⟨w4.heap.size, 2, none⟩ = some (.int .u8 (M.beAt S 2)) := r6 2 (by simp [M.be_length])
  have q3 : w6.cell? ⟨w4.heap.size, 3, none⟩ = some (.int .u8 (M.beAt S 3)) := r6 3 (by simp [M.be_length])
  clear o6 b6 b4 r6 o5
  go_wp2_with fail
  go_region_law (refine step_bytes rfl (.tmp 24) (.tmp 37) rfl w.heap.size L _ rfl ⟨w6.heap.size, 0, none⟩ 4 4 rfl [M.beAt S 3, M.beAt S 2, M.beAt S 1, M.beAt S 0] rfl (by intro j hj; match j, hj with | 0, _ | 1, _ | 2, _ | 3, _ => simp [Addr.add_lit]) (by exact o7.alloc _) (by simp; omega) (by rw [HBL.out]; omega) ?_; intro v8 w8 o8 k8 g8)
  all_goals
    have hn8 := k8 (.inl (by intro hh; cases hh))
    have b8 : Below w.heap.size w w8 := Own.grown (by exact o7.alloc _) (by exact (b7.drew).alloc z7 _) g8 (by simp; omega)
    have o9 : Own w.heap.size w8 v8 (L ++ M.le S 4) := by rw [le_be]; exact o8
    clear o8 k8 g8 o7 b7 q0 q1 q2 q3
    go_wp2
    go_ret2
    exact ⟨_, rfl, by rw [HF.out]; exact o9, hn8, b8⟩
theorem WOk.later {w w' : World} {b : Nat} {l : List Int} (h : WOk w b l) (hb : Below w.heap.size w w') : WOk w' b l := by
  rcases h with ⟨e, h⟩ | ⟨q, g, n, c, h⟩
  · exact .inl ⟨e, Nat.lt_of_lt_of_le h.lt hb.size, cell_later hb h.c0, cell_later hb h.c1, cell_later hb h.c2, (hb.frozen (p := ⟨b, 0, none⟩) h.lt).trans h.f0, (hb.frozen (p := ⟨b, 1, none⟩) h.lt).trans h.f1, (hb.frozen (p := ⟨b, 2, none⟩) h.lt).trans h.f2⟩
  · have lt : b < w.heap.size := Nat.lt_trans h.lt h.ltq
    exact .inr ⟨q, g, n, c, h.lt, Nat.lt_of_lt_of_le h.ltq hb.size, h.len, cell_later hb h.c0, cell_later hb h.c1, cell_later hb h.c2, (hb.frozen (p := ⟨b, 0, none⟩) lt).trans h.f0, (hb.frozen (p := ⟨b, 1, none⟩) lt).trans h.f1, (hb.frozen (p := ⟨b, 2, none⟩) lt).trans h.f2, cell_later hb h.cq, (hb.frozen (p := ⟨q, 0, none⟩) h.ltq).trans h.fq, h.own.kept hb⟩
end Go.Proofs.YtibedokegignhaaGreatDoor.Wi
namespace Go.Proofs.YtibedokegignhaaGreatDoor
open Go.RowKit Go.Maps
theorem isslot_any (s : Int) (w : World) : Calls Tryz.prog 155 #[.int .i64 s] w fun e w' => e = .returned (.bool (decide (0 ≤ s ∧ s < 1024))) ∧ w' = w := by
  by_cases h1 : 0 ≤ s
  · by_cases h2 : s < 1024
    · go_enter Tryz.func155, Tryz.ntmps155
      go_wp2
      go_ret
      exact ⟨by simp [h1, h2], rfl⟩
    · go_enter Tryz.func155, Tryz.ntmps155
      go_wp2
      go_ret
      exact ⟨by simp [h2], rfl⟩
  · go_enter Tryz.func155, Tryz.ntmps155
    go_wp2
    go_ret
    exact ⟨by simp; omega, rfl⟩
theorem rest_any (k s : Int) (v : ByteArray) (n : Int) (w : World) (hv : v.size ≤ maxLen) : Calls Tryz.prog 156 #[.agg #[.int .i64 k, .int .i64 s, .string v], .int .i64 n] w fun e w' => e = .returned (.int .i64 (if s ≠ 0 then 41 else if n < v.size then 42 else 0)) ∧ Below w.heap.size w w' := by
  by_cases h1 : s = 0
  · subst h1
    by_cases h2 : n < v.size
    · go_enter Tryz.func156, Tryz.ntmps156
      go_wp2
      go_ret
      exact ⟨by simp, (Below.refl _ w).alloc (Nat.le_refl _) _⟩
    · go_enter Tryz.func156, Tryz.ntmps156
      go_wp2
      go_ret
      exact ⟨by simp, (Below.refl _ w).alloc (Nat.le_refl _) _⟩
  · go_enter Tryz.func156, Tryz.ntmps156
    go_wp2
    go_ret
    exact ⟨by simp, (Below.refl _ w).alloc (Nat.le_refl _) _⟩
set_option maxHeartbeats 1000000 in
theorem check_any (o : Opn) (ho : o.fits) (w : World) : Calls Tryz.prog 148 #[o.val] w fun e w' => e = .returned (.int .i64 (ck o.k o.s o.v)) ∧ Below w.heap.size w w' := by
  obtain ⟨k, s, v⟩ := o
  obtain ⟨hk, hs, hv⟩ := ho
  dsimp only at hk hs hv
  dsimp only [Opn.val]
  have c1 := fun W => isslot_any s W
  have c2 := fun k s n W => rest_any k s v n W hv
  by_cases k1 : k = 1
  · subst k1
    by_cases h1 : 0 ≤ s ∧ s < 1024
    · have e1 : ck 1 s v = if (0 : Int) ≠ 0 then 41 else if (64 : Int) < v.size then 42 else 0 := by
        unfold ck
        have : ¬ (s < 0 ∨ 1024 ≤ s) := by omega
        simp [this] <;> omega
      have c2 := c2 1 0 64
      rw [← e1] at c2
      clear e1
      generalize ck 1 s v = r at c2 ⊢
      have c1 : ∀ W, Calls Tryz.prog 155 #[.int .i64 s] W fun e w' => e = .returned (.bool true) ∧ w' = W := fun W => by simpa [h1] using c1 W
      go_enter Tryz.func148, Tryz.ntmps148
      go_wp2_with (first | (go_at_call 155; refine (c1 _).mono ?_; rintro e w' ⟨rfl, rfl⟩) | (go_at_call 156; refine (c2 _).mono ?_; rintro e w' ⟨rfl, hb⟩))
      go_ret
      exact ⟨rfl, ((Below.refl w.heap.size w).alloc (Nat.le_refl _) _).trans (hb.mono (by simp))⟩
    · have e1 : ck 1 s v = 41 := by
        unfold ck
        have : s < 0 ∨ 1024 ≤ s := by omega
        simp [this]
      rw [e1]
      clear e1 c2
      have c1 : ∀ W, Calls Tryz.prog 155 #[.int .i64 s] W fun e w' => e = .returned (.bool false) ∧ w' = W := fun W => by simpa [h1] using c1 W
      go_enter Tryz.func148, Tryz.ntmps148
      go_wp2_with (go_at_call 155; refine (c1 _).mono ?_; rintro e w' ⟨rfl, rfl⟩)
      go_ret
      exact ⟨rfl, (Below.refl w.heap.size w).alloc (Nat.le_refl _) _⟩
  by_cases k2 : k = 2
  · subst k2
    have e1 : ck 2 s v = if s ≠ 0 then 41 else if (64 : Int) < v.size then 42 else 0 := by
      unfold ck
      by_cases h : s = 0 <;> simp [h] <;> omega
    have c2 := c2 2 s 64
    rw [← e1] at c2
    clear e1
    generalize ck 2 s v = r at c2 ⊢
    clear c1
    go_enter Tryz.func148, Tryz.ntmps148
    go_wp2_with (go_at_call 156; refine (c2 _).mono ?_; rintro e w' ⟨rfl, hb⟩)
    go_ret
    exact ⟨rfl, ((Below.refl w.heap.size w).alloc (Nat.le_refl _) _).trans (hb.mono (by simp))⟩
  by_cases k3 : k = 3
  · subst k3
    by_cases h1 : 0 ≤ s ∧ s < 1024
    · have e1 : ck 3 s v = if (0 : Int) ≠ 0 then 41 else if (0 : Int) < v.size then 42 else 0 := by
        unfold ck
        have : ¬ (s < 0 ∨ 1024 ≤ s) := by omega
        simp [this]
      have c2 := c2 3 0 0
      rw [← e1] at c2
      clear e1
      generalize ck 3 s v = r at c2 ⊢
      have c1 : ∀ W, Calls Tryz.prog 155 #[.int .i64 s] W fun e w' => e = .returned (.bool true) ∧ w' = W := fun W => by simpa [h1] using c1 W
      go_enter Tryz.func148, Tryz.ntmps148
      go_wp2_with (first | (go_at_call 155; refine (c1 _).mono ?_; rintro e w' ⟨rfl, rfl⟩) | (go_at_call 156; refine (c2 _).mono ?_; rintro e w' ⟨rfl, hb⟩))
      go_ret
      exact ⟨rfl, ((Below.refl w.heap.size w).alloc (Nat.le_refl _) _).trans (hb.mono (by simp))⟩
    · have e1 : ck 3 s v = 41 := by
        unfold ck
        have : s < 0 ∨ 1024 ≤ s := by omega
        simp [this]
      rw [e1]
      clear e1 c2
      have c1 : ∀ W, Calls Tryz.prog 155 #[.int .i64 s] W fun e w' => e = .returned (.bool false) ∧ w' = W := fun W => by simpa [h1] using c1 W
      go_enter Tryz.func148, Tryz.ntmps148
      go_wp2_with (go_at_call 155; refine (c1 _).mono ?_; rintro e w' ⟨rfl, rfl⟩)
      go_ret
      exact ⟨rfl, (Below.refl w.heap.size w).alloc (Nat.le_refl _) _⟩
  by_cases k4 : k = 4
  · subst k4
    have e1 : ck 4 s v = if s ≠ 0 then 41 else if (0 : Int) < v.size then 42 else 0 := by
      unfold ck
      by_cases h : s = 0 <;> simp [h]
    have c2 := c2 4 s 0
    rw [← e1] at c2
    clear e1
    generalize ck 4 s v = r at c2 ⊢
    clear c1
    go_enter Tryz.func148, Tryz.ntmps148
    go_wp2_with (go_at_call 156; refine (c2 _).mono ?_; rintro e w' ⟨rfl, hb⟩)
    go_ret
    exact ⟨rfl, ((Below.refl w.heap.size w).alloc (Nat.le_refl _) _).trans (hb.mono (by simp))⟩
  have e1 : ck k s v = 40 := by simp [ck, k1, k2, k3, k4]
  rw [e1]
  clear e1 c1 c2
  have b1 : (k == 1) = false := by simp [k1]
  have b2 : (k == 2) = false := by simp [k2]
  have b3 : (k == 3) = false := by simp [k3]
  have b4 : (k == 4) = false := by simp [k4]
  go_enter Tryz.func148, Tryz.ntmps148
  go_wp2
  go_ret
  exact ⟨rfl, (Below.refl w.heap.size w).alloc (Nat.le_refl _) _⟩
end Go.Proofs.YtibedokegignhaaGreatDoor
namespace Go.Proofs.YtibedokegignhaaGreatDoor
open Go.RowKit Go.Maps
end Go.Proofs.YtibedokegignhaaGreatDoor
namespace Go.Proofs.YtibedokegignhaaGreatDoor
open Go.RowKit Go.Maps
end Go.Proofs.YtibedokegignhaaGreatDoor
namespace Go.Proofs.YtibedokegignhaaGreatDoor
open Go.RowKit Go.Maps
end Go.Proofs.YtibedokegignhaaGreatDoor
namespace Go.Proofs.YtibedokegignhaaGreatDoor
open Go.RowKit Go.Maps
theorem bytes_inj (a b : ByteArray) : a.toList = b.toList ↔ a = b := by
  rw [ByteArray.toList_eq, ByteArray.toList_eq]
  obtain ⟨⟨x⟩⟩ := a
  obtain ⟨⟨y⟩⟩ := b
  simp
end Go.Proofs.YtibedokegignhaaGreatDoor
namespace Go.Proofs.YtibedokegignhaaGreatDoor
open Go.RowKit Go.Maps
theorem info_parts {P : Program} {t : TypeId} {z : Option Value} {s b : Nat} (h : (P.info? t).map (fun i => (i.zero, i.size, i.bytes)) = some (z, s, b)) : ∃ i, P.info? t = some i ∧ i.zero = z ∧ i.size = s ∧ i.bytes = b := by
  cases h2 : P.info? t with
  | none => rw [h2] at h; cases h
  | some i =>
    rw [h2] at h
    simp at h
    exact ⟨i, rfl, h.1, h.2.1, h.2.2⟩
end Go.Proofs.YtibedokegignhaaGreatDoor
namespace Go.Proofs.YtibedokegignhaaGreatDoor
open Go.RowKit
structure Lay (α : Type) where
  T : TypeId
  ST : TypeId
  k : Nat
  by_ : Nat
  cs : α → List Value
  z : α
structure Lay.Ok {α : Type} (Y : Lay α) : Prop where
  kp : 0 < Y.k
  len : ∀ x, (Y.cs x).length = Y.k
  one : ∀ x u, u ∈ Y.cs x → u.oneCell' = true
  und : Tryz.prog.underlying Y.ST = some (.slice Y.T)
  info : ∃ zv : Value, (Tryz.prog.info? Y.T).map (fun i => (i.zero, i.size, i.bytes)) = some (some zv, Y.k, Y.by_) ∧ zv.cells = (Y.cs Y.z).toArray
variable {α : Type} {Y : Lay α}
def fl (Y : Lay α) : List α → List Value
  | [] => []
  | x :: r => Y.cs x ++ fl Y r
theorem fl_length (K : Y.Ok) : ∀ l : List α, (fl Y l).length = l.length * Y.k
  | [] => by simp [fl]
  | x :: r => by rw [fl, List.length_append, fl_length K r, K.len, List.length_cons, Nat.add_mul]; omega
theorem fl_append : ∀ l m : List α, fl Y (l ++ m) = fl Y l ++ fl Y m
  | [], m => rfl
  | x :: r, m => by simp only [fl, List.cons_append, fl_append r m, List.append_assoc]
theorem fl_get (K : Y.Ok) : ∀ (l : List α) (i : Nat) (x : α), l[i]? = some x → ∀ j, j < Y.k → (fl Y l)[i * Y.k + j]? = (Y.cs x)[j]?
  | [], i, x, h, j, hj => by simp at h
  | y :: r, 0, x, h, j, hj => by
    simp at h; subst h
    rw [fl, Nat.zero_mul, Nat.zero_add, List.getElem?_append_left (by rw [K.len]; exact hj)]
  | y :: r, i + 1, x, h, j, hj => by
    have h' : r[i]? = some x := by simpa using h
    rw [fl, List.getElem?_append_right (by rw [K.len, Nat.add_mul]; omega), K.len, show (i + 1) * Y.k + j - Y.k = i * Y.k + j by rw [Nat.add_mul]; omega]
    exact fl_get K r i x h' j hj
theorem fl_one (K : Y.Ok) : ∀ (l : List α) (u : Value), u ∈ fl Y l → u.oneCell' = true
  | [], u, h => by cases h
  | x :: r, u, h => by
    rcases List.mem_append.1 h with h | h
    · exact K.one x u h
    · exact fl_one K r u h
theorem div_pos_lt {j n k : Nat} (hk : 0 < k) (h : j < n * k) : j / k < n ∧ j % k < k ∧ j / k * k + j % k = j :=
  ⟨Nat.div_lt_of_lt_mul (by rw [Nat.mul_comm]; exact h), Nat.mod_lt _ hk, by rw [Nat.mul_comm]; exact Nat.div_add_mod j k⟩
theorem fl_inv (K : Y.Ok) (l : List α) (j : Nat) (u : Value) (h : (fl Y l)[j]? = some u) : ∃ x, l[j / Y.k]? = some x ∧ (Y.cs x)[j % Y.k]? = some u := by
  have hj := (List.getElem?_eq_some_iff.1 h).1
  rw [fl_length K] at hj
  obtain ⟨h1, h2, h3⟩ := div_pos_lt K.kp hj
  refine ⟨_, List.getElem?_eq_getElem h1, ?_⟩
  rw [← fl_get K l _ _ (List.getElem?_eq_getElem h1) _ h2, h3]
  exact h
theorem fl_set1 (K : Y.Ok) {l : List α} {i : Nat} {x x' : α} (hx : l[i]? = some x) {j : Nat} {u : Value} (hj : j < Y.k) (hc : Y.cs x' = (Y.cs x).set j u) : (fl Y l).set (i * Y.k + j) u = fl Y (l.set i x') := by
  have hi := (List.getElem?_eq_some_iff.1 hx).1
  apply List.ext_getElem?
  intro p
  by_cases hp : p < l.length * Y.k
  · obtain ⟨h1, h2, h3⟩ := div_pos_lt K.kp hp
    by_cases he : p / Y.k = i
    · have e2 : (l.set i x')[p / Y.k]? = some x' := by rw [he]; simp [hi]
      have := fl_get K _ _ _ e2 _ h2
      rw [h3] at this
      rw [this, hc]
      by_cases hq : p % Y.k = j
      · have e3 : i * Y.k + j = p := by rw [← he, ← hq]; exact h3
        rw [e3, List.getElem?_set_self (by rw [fl_length K]; exact hp), hq, List.getElem?_set_self (by rw [K.len]; exact hj)]
      · have e3 : i * Y.k + j ≠ p := fun e => hq (by rw [← e, Nat.mul_comm, Nat.mul_add_mod, Nat.mod_eq_of_lt hj])
        have e4 : l[p / Y.k]? = some x := by rw [he]; exact hx
        have := fl_get K _ _ _ e4 _ h2
        rw [h3] at this
        rw [List.getElem?_set_ne e3, this, List.getElem?_set_ne (fun e => hq e.symm)]
    · have e3 : i * Y.k + j ≠ p := fun e => he (by rw [← e, Nat.mul_comm, Nat.mul_add_div K.kp, Nat.div_eq_of_lt hj, Nat.add_zero])
      have e4 : (l.set i x')[p / Y.k]? = l[p / Y.k]? := by rw [List.getElem?_set_ne (fun e => he e.symm)]
      have hg := List.getElem?_eq_getElem h1
      have t1 := fl_get K _ _ _ hg _ h2
      have t2 := fl_get K _ _ _ (e4.trans hg) _ h2
      rw [h3] at t1 t2
      rw [List.getElem?_set_ne e3, t1, t2]
  · rw [List.getElem?_eq_none (by rw [List.length_set, fl_length K]; omega), List.getElem?_eq_none (by rw [fl_length K, List.length_set]; omega)]
def OwnY (Y : Lay α) (B : Nat) (w : World) (v : Value) (l : List α) : Prop := w.ownsRow B Y.T Y.k v l.length (fl Y l)
theorem OwnY.nil (Y : Lay α) (B : Nat) (w : World) : OwnY Y B w (.slice none 0 0) [] := World.ownsRow_nil w B Y.T Y.k
theorem OwnY.alloc {B : Nat} {w : World} {v : Value} {l : List α} (h : OwnY Y B w v l) (o : Obj) : OwnY Y B (w.alloc o) v l := World.ownsRow.alloc h o
theorem OwnY.form {B : Nat} {w : World} {v : Value} {l : List α} (h : OwnY Y B w v l) : ∃ a c, v = .slice a l.length c ∧ l.length ≤ c ∧ c ≤ maxLen ∧ (a = none → l = [] ∧ c = 0) ∧ ∀ x, a = some x → ∃ g, x = ⟨g, 0, none⟩ ∧ B ≤ g ∧ g < w.heap.size := by
  rcases h.2 with ⟨e1, e2⟩ | ⟨g, cap, cur, e1, e2, e3, e4, e5, _⟩
  · exact ⟨none, 0, by rw [e1, e2], by omega, by unfold maxLen; omega, fun _ => ⟨List.eq_nil_of_length_eq_zero e2, rfl⟩, fun x hx => by cases hx⟩
  · refine ⟨some ⟨g, 0, none⟩, cap, e1, e4, e5, (fun hx => by cases hx), fun x hx => ?_⟩
    cases hx
    exact ⟨g, rfl, e2, (Array.getElem?_eq_some_iff.1 e3).1⟩
theorem OwnY.cell (K : Y.Ok) {B : Nat} {w : World} {g n c : Nat} {l : List α} (h : OwnY Y B w (.slice (some ⟨g, 0, none⟩) n c) l) (i : Nat) (x : α) (hx : l[i]? = some x) (j : Nat) (u : Value) (hu : (Y.cs x)[j]? = some u) : w.cell? ⟨g, i * Y.k + j, none⟩ = some u := by
  have hj := (List.getElem?_eq_some_iff.1 hu).1
  rw [K.len] at hj
  have h0 := World.ownsRow.cells h (g := g) rfl (i * Y.k + j) u (by rw [fl_get K l i x hx j hj]; exact hu)
  rw [Addr.add_lit, Nat.zero_add] at h0
  exact h0
theorem OwnY.upd1 {S : Nat → Prop} {B : Nat} {w w' : World} {v : Value} {l : List α} (h : OwnY Y B w v l) (u : Upd S w w') (hs : ∀ g, v.ownBlock = some g → ¬ S g) : OwnY Y B w' v l := by
  obtain ⟨h1, h2⟩ := h
  refine ⟨h1, ?_⟩
  rcases h2 with h2 | ⟨g, cap, cur, e1, e2, e3, r⟩
  · exact .inl h2
  · refine .inr ⟨g, cap, cur, e1, e2, ?_, r⟩
    rw [u.block g (Array.getElem?_eq_some_iff.1 e3).1 (hs g (by rw [e1]; rfl))]
    exact e3
theorem OwnY.blk {B : Nat} {w : World} {v : Value} {l : List α} (h : OwnY Y B w v l) : ∀ k, v.ownBlock = some k → B ≤ k ∧ k < w.heap.size := World.ownsRow.lt h
theorem OwnY.grow {B : Nat} {w w' : World} {v : Value} {l : List α} (h : OwnY Y B w v l) (hb : Below w.heap.size w w') : OwnY Y B w' v l := h.upd1 (S := fun _ => False) (Upd.of_below hb) (fun _ _ => id)
theorem OwnY.low {B B' : Nat} {w : World} {v : Value} {l : List α} (h : OwnY Y B w v l) (hb : B' ≤ B) : OwnY Y B' w v l := by
  obtain ⟨h1, h2⟩ := h
  refine ⟨h1, ?_⟩
  rcases h2 with h2 | ⟨g, cap, cur, e1, e2, r⟩
  · exact .inl h2
  · exact .inr ⟨g, cap, cur, e1, Nat.le_trans hb e2, r⟩
theorem OwnY.grown {B : Nat} {w0 w w' : World} {v : Value} {l : List α} (ho : OwnY Y B w v l) (h0 : Below B w0 w) (hg : w.grownBy w' v.ownBlock) (hB : B ≤ w.heap.size) : Below B w0 w' :=
  h0.grown hg hB (fun k hk => (ho.blk k hk).1)
theorem OwnY.set1 (K : Y.Ok) {B : Nat} {w : World} {g n c : Nat} {l : List α} (h : OwnY Y B w (.slice (some ⟨g, 0, none⟩) n c) l) {i : Nat} {x : α} (hx : l[i]? = some x) (x' : α) (j : Nat) (u : Value) (hj : j < Y.k) (hc : Y.cs x' = (Y.cs x).set j u) :
    OwnY Y B (w.setCell ⟨g, i * Y.k + j, none⟩ u) (.slice (some ⟨g, 0, none⟩) n c) (l.set i x') := by
  obtain ⟨a, c', e, _⟩ := h.form
  injection e with e1 e2 e3
  unfold OwnY at *
  rw [← e2] at h
  rw [← fl_set1 K hx hj hc, List.length_set, ← e2]
  exact (World.ownsRow.stored h (i * Y.k + j) _).1
theorem OwnY.free {B : Nat} {w : World} {g n c : Nat} {l : List α} (h : OwnY Y B w (.slice (some ⟨g, 0, none⟩) n c) l) (j : Nat) : w.frozen? ⟨g, j, none⟩ = false := by
  obtain ⟨a, c', e, _⟩ := h.form
  injection e with e1 e2 e3
  unfold OwnY at h
  rw [← e2] at h
  exact World.ownsRow.frozenAt h j
theorem OwnY.kind {B : Nat} {w : World} {v : Value} {l : List α} (h : OwnY Y B w v l) {g : Nat} (e : v.ownBlock = some g) : ∃ c f, w.heap[g]? = some (.cells c Y.T f) := by
  rcases h.2 with ⟨e1, _⟩ | ⟨g1, _, cur, e1, _, hb, _⟩
  · rw [e1] at e; cases e
  · rw [e1] at e; cases e; exact ⟨cur, _, hb⟩
theorem OwnY.apart {β : Type} {Y' : Lay β} {B B' : Nat} {w : World} {v v' : Value} {l : List α} {l' : List β} (h : OwnY Y B w v l) (h' : OwnY Y' B' w v' l') (hT : Y.T ≠ Y'.T) : ∀ g, v.ownBlock = some g → v'.ownBlock ≠ some g := by
  intro g e e'
  obtain ⟨c, f, h1⟩ := h.kind e
  obtain ⟨c', f', h2⟩ := h'.kind e'
  rw [h1] at h2
  injection h2 with h3
  injection h3 with _ h4
  exact hT h4
def LieY (Y : Lay α) (w : World) (q o : Nat) (l : List α) : Prop := ∀ i x, l[i]? = some x → ∀ j u, (Y.cs x)[j]? = some u → w.cell? ⟨q, o + i * Y.k + j, none⟩ = some u
theorem LieY.upd {S : Nat → Prop} {w w' : World} {q o : Nat} {l : List α} (h : LieY Y w q o l) (u : Upd S w w') (hq : q < w.heap.size) (hs : ¬ S q) : LieY Y w' q o l := fun i x hx j v hv => (u.cell (p := ⟨q, _, none⟩) hq hs).trans (h i x hx j v hv)
theorem LieY.flat (K : Y.Ok) {w : World} {q o : Nat} {l : List α} (h : LieY Y w q o l) (j : Nat) (u : Value) (hu : (fl Y l)[j]? = some u) : w.cell? ⟨q, o + j, none⟩ = some u := by
  have hj := (List.getElem?_eq_some_iff.1 hu).1
  rw [fl_length K] at hj
  obtain ⟨x, h1, h2⟩ := fl_inv K l j u hu
  have := h _ _ h1 _ _ h2
  rw [Nat.add_assoc, (div_pos_lt K.kp hj).2.2] at this
  exact this
structure SlY (Y : Lay α) (w : World) (a : Option Addr) (n c : Nat) (l : List α) : Prop where
  len : l.length = n
  cap : n ≤ c
  max : c ≤ maxLen
  nil : a = none → n = 0 ∧ c = 0
  at_ : ∀ x, a = some x → l = [] ∨ ∃ q o, x = ⟨q, o, none⟩ ∧ q < w.heap.size ∧ LieY Y w q o l
theorem SlY.upd {S : Nat → Prop} {w w' : World} {a : Option Addr} {n c : Nat} {l : List α} (h : SlY Y w a n c l) (u : Upd S w w') (hs : ∀ x, a = some x → l ≠ [] → ¬ S x.block) : SlY Y w' a n c l :=
  ⟨h.len, h.cap, h.max, h.nil, fun x hx => by
    rcases h.at_ x hx with e | ⟨q, o, rfl, hq, hl⟩
    · exact .inl e
    · by_cases hl0 : l = []
      · exact .inl hl0
      · exact .inr ⟨q, o, rfl, Nat.lt_of_lt_of_le hq u.size, hl.upd u hq (hs _ hx hl0)⟩⟩
theorem SlY.later {w w' : World} {a : Option Addr} {n c : Nat} {l : List α} (h : SlY Y w a n c l) (hb : Below w.heap.size w w') : SlY Y w' a n c l := h.upd (S := fun _ => False) (Upd.of_below hb) (fun _ _ _ => id)
theorem SlY.bel {w w' : World} {a : Option Addr} {n c : Nat} {l : List α} (h : SlY Y w a n c l) {B : Nat} (hb : Below B w w') (hB : w.heap.size ≤ B) : SlY Y w' a n c l := h.upd (S := fun k => B ≤ k) ⟨hb.os, hb.tape, hb.output, hb.size, fun k hk hs => hb.block k (by omega)⟩ (fun x hx hne hs => by
  rcases h.at_ x hx with e | ⟨q, o, rfl, hq, hl⟩
  · exact hne e
  · dsimp only at hs; omega)
theorem SlY.place {w : World} {a : Option Addr} {n c : Nat} {l : List α} (h : SlY Y w a n c l) (hne : l ≠ []) : ∃ q o, a = some ⟨q, o, none⟩ ∧ q < w.heap.size ∧ LieY Y w q o l := by
  cases ha : a with
  | none =>
    have := (h.nil ha).1
    exact absurd (List.eq_nil_of_length_eq_zero (h.len.trans this)) hne
  | some x =>
    rcases h.at_ x ha with e | ⟨q, o, rfl, hq, hl⟩
    · exact absurd e hne
    · exact ⟨q, o, rfl, hq, hl⟩
theorem OwnY.sl (K : Y.Ok) {B : Nat} {w : World} {v : Value} {l : List α} (h : OwnY Y B w v l) : ∃ a c, v = .slice a l.length c ∧ SlY Y w a l.length c l ∧ ∀ z, a = some z → ∃ g, z = ⟨g, 0, none⟩ ∧ B ≤ g ∧ g < w.heap.size := by
  obtain ⟨a, c, rfl, h1, h2, h3, h4⟩ := h.form
  refine ⟨a, c, rfl, ⟨rfl, h1, h2, (fun e => by obtain ⟨e1, e2⟩ := h3 e; rw [e1]; exact ⟨rfl, e2⟩), fun x hx => ?_⟩, h4⟩
  obtain ⟨g, rfl, _, hg⟩ := h4 x hx
  subst hx
  exact .inr ⟨g, 0, rfl, hg, fun i y hy j u hu => by rw [Nat.zero_add]; exact h.cell K i y hy j u hu⟩
theorem OwnY.sl' (K : Y.Ok) {B : Nat} {w : World} {a : Option Addr} {n c : Nat} {l : List α} (h : OwnY Y B w (.slice a n c) l) : SlY Y w a n c l := by
  obtain ⟨a', c', e, h1, _⟩ := h.sl K
  injection e with e1 e2 e3
  subst e1 e2 e3
  exact h1
theorem run_appY (K : Y.Ok) (w : World) (ty : TypeId) (B : Nat) (l : List α) (v : Value) (ad : Option Addr) (m c : Nat) (news : List α) (hh : SlY Y w ad m c news) (hown : OwnY Y B w v l) (hB : B ≤ w.heap.size) (hm : l.length + m ≤ maxLen) (hb : (l.length + m) * Y.by_ ≤ 140737488355328) :
    ∃ v' w', (Builtin.append_ #[Y.ST, Y.ST] ty #[v, .slice ad m c]).run Tryz.prog w = .ok v' w' ∧ OwnY Y B w' v' (l ++ news) ∧ w.grownBy w' v.ownBlock ∧ (v'.ownBlock = v.ownBlock ∨ ∃ k, v'.ownBlock = some k ∧ w.heap.size ≤ k) := by
  obtain ⟨zv, hinfo, hzc⟩ := K.info
  obtain ⟨i0, hi, hz0, hz1, hz2⟩ := info_parts hinfo
  have hzs : zv.cells.size = Y.k := by rw [hzc, List.size_toArray, K.len]
  cases ad with
  | none =>
    obtain ⟨rfl, rfl⟩ := hh.nil rfl
    obtain rfl : news = [] := List.eq_nil_of_length_eq_zero hh.len
    refine ⟨v, w, ?_, by rw [List.append_nil]; exact hown, World.grownBy.refl _ _, .inl rfl⟩
    exact run_append_owned_none (P := Tryz.prog) (w := w) B Y.ST ty Y.T i0 Y.k K.und hi v l.length (fl Y l) hown
  | some y =>
    have hnews : ∀ j u, (fl Y news)[j]? = some u → w.cell? (y.add j) = some u := fun j u hu => by
      rcases hh.at_ y rfl with e | ⟨q, o, rfl, _, hl⟩
      · subst e; cases hu
      · rw [Addr.add_lit]; exact hl.flat K j u hu
    have hlen : (fl Y news).length = m * Y.k := by rw [fl_length K, hh.len]
    obtain ⟨v', w', hr, h2, h3, h4⟩ := run_append_own (P := Tryz.prog) w B Y.ST ty Y.T i0 zv Y.k Y.by_ K.und hi hz0 hz1 hz2 hzs K.kp v l.length (fl Y l) hown y m c (fl Y news) hlen hnews (fl_one K news) hm hb hB
    refine ⟨v', w', hr, ?_, h3, ?_⟩
    · unfold OwnY
      rw [fl_append, List.length_append, hh.len]
      exact h2
    · rcases hown.2 with ⟨rfl, hn⟩ | ⟨g, cap, cur, rfl, hbg, hg, hnc, hcm, hcs, htake⟩
      · have hL : l = [] := List.eq_nil_of_length_eq_zero hn
        subst hL
        obtain ⟨v2, w2, hr2, k2, _⟩ := run_append_own (P := Tryz.prog) w w.heap.size Y.ST ty Y.T i0 zv Y.k Y.by_ K.und hi hz0 hz1 hz2 hzs K.kp (.slice none 0 0) 0 [] (World.ownsRow_nil w _ Y.T Y.k) y m c (fl Y news) hlen hnews (fl_one K news) hm hb (Nat.le_refl _)
        rw [hr] at hr2
        cases hr2
        cases hv : v'.ownBlock with
        | none => exact .inl rfl
        | some k => exact .inr ⟨k, rfl, (World.ownsRow.lt k2 k hv).1⟩
      · by_cases hroom : l.length + m ≤ cap
        · left
          have hfit : l.length * i0.size + (fl Y news).length ≤ cur.size := by rw [hcs, hz1, hlen, ← Nat.add_mul]; exact Nat.mul_le_mul_right _ hroom
          have hr2 := run_append_room (P := Tryz.prog) w Y.ST ty Y.T i0 K.und hi g l.length cap cur hg y m c (fl Y news) (by rw [hz1]; exact hlen) hnews (fl_one K news) hroom hfit
          rw [hr] at hr2
          cases hr2
          rfl
        · right
          have holds : ∀ j u, (fl Y l)[j]? = some u → w.cell? ((⟨g, 0, none⟩ : Addr).add j) = some u := World.ownsRow.cells hown (g := g) rfl
          have hr2 := run_append_grow (P := Tryz.prog) w Y.ST ty Y.T i0 zv K.und hi hz0 ⟨g, 0, none⟩ l.length cap (fl Y l) (by rw [hz1]; exact fl_length K l) holds y m c (fl Y news) (by rw [hz1]; exact hlen) hnews (by omega) (by unfold maxLen at hm; omega) (growslice_fits (by omega) (by rw [hz2]; exact hb))
          rw [hr] at hr2
          cases hr2
          exact ⟨_, rfl, Nat.le_refl _⟩
theorem appY (K : Y.Ok) (w : World) {ops : Array Oper} {rest : List Oper} {o : Oper} {a : Act} {Q : Exit → Act → World → Prop} (hgd : o.guard = none) (s x : Operand)
    (ho : o.op = .call { callee := .builtin .append, args := #[s, x], argTypes := #[Y.ST, Y.ST] }) (B : Nat) (l : List α) (v : Value) (hs : a.eval s = v)
    (ad : Option Addr) (m c : Nat) (hx : a.eval x = .slice ad m c) (news : List α) (hh : SlY Y w ad m c news) (hown : OwnY Y B w v l) (hB : B ≤ w.heap.size) (hm : l.length + m ≤ maxLen) (hb : (l.length + m) * Y.by_ ≤ 140737488355328)
    (hk : ∀ v' w', OwnY Y B w' v' (l ++ news) → w.grownBy w' v.ownBlock → (v'.ownBlock = v.ownBlock ∨ ∃ k, v'.ownBlock = some k ∧ w.heap.size ≤ k) → wpList Tryz.prog ops Q rest (a.put o.dst v') w') : wpList Tryz.prog ops Q (o :: rest) a w := by
  refine wpList_plain hgd fun K' hK' => ?_
  obtain ⟨v', w', hr, h2, h3, h4⟩ := run_appY K w o.type B l v ad m c news hh hown hB hm hb
  unfold Oper.wp execOp
  simp only [ho, resolve, invoke, builtin, Sem.run_bind, Sem.run_pure, Result.andThen_ok, List.map_toArray, List.map_cons, List.map_nil, hs, hx, hr]
  exact hK' _ _ (hk v' w' h2 h3 h4)
theorem madeY (K : Y.Ok) {zc : Array Value} (hzc : zc = (Y.cs Y.z).toArray) (n : Nat) : (madeCells zc (n * Y.k)).toList = fl Y (List.replicate n Y.z) := by
  subst hzc
  apply List.ext_getElem?
  intro j
  by_cases hj : j < n * Y.k
  · obtain ⟨h1, h2, h3⟩ := div_pos_lt K.kp hj
    have hg : (List.replicate n Y.z)[j / Y.k]? = some Y.z := List.getElem?_replicate_of_lt h1
    have := fl_get K _ _ _ hg _ h2
    rw [h3] at this
    rw [this]
    have hk := K.len Y.z
    simp [madeCells, hj, hk]
    rw [List.getElem?_eq_getElem (by rw [hk]; exact h2)]
    simp [hk, h2]
  · rw [List.getElem?_eq_none (by simp [madeCells]; omega), List.getElem?_eq_none (by rw [fl_length K]; simp; omega)]
theorem room_int {a n b : Nat} (e : a = b) (hb : n * b ≤ 140737488355328) : (a : Int) * (n : Int) ≤ 281474976710656 := by
  subst e
  have h : ((n * a : Nat) : Int) ≤ 140737488355328 := by omega
  rw [Int.natCast_mul, Int.mul_comm] at h
  omega
theorem makeY (K : Y.Ok) (w : World) {ops : Array Oper} {rest : List Oper} {o : Oper} {a : Act} {Q : Exit → Act → World → Prop} (hgd : o.guard = none) (x : Operand)
    (ho : o.op = .makeSlice Y.ST x x) (n : Nat) (hx : a.eval x = .int .i64 (n : Int)) (hm : n ≤ maxLen) (hb : n * Y.by_ ≤ 140737488355328)
    (h : ∀ w', OwnY Y w.heap.size w' (.slice (some ⟨w.heap.size, 0, none⟩) n n) (List.replicate n Y.z) → Below w.heap.size w w' → wpList Tryz.prog ops Q rest (a.put o.dst (.slice (some ⟨w.heap.size, 0, none⟩) n n)) w') : wpList Tryz.prog ops Q (o :: rest) a w := by
  obtain ⟨zv, hinfo, hzc⟩ := K.info
  obtain ⟨i0, hi, hz0, hz1, hz2⟩ := info_parts hinfo
  unfold maxLen at hm
  have hr := run_make (P := Tryz.prog) w Y.ST Y.T i0 zv K.und hi hz0 .i64 .i64 n n (by omega) (Int.le_refl _) (room_int hz2 hb) (by omega)
  rw [Int.toNat_natCast, hz1] at hr
  refine wpList_plain hgd fun K' hK' => ?_
  unfold Oper.wp execOp
  simp only [ho, hx, Sem.run_bind, Sem.run_pure, hr, Result.andThen_ok]
  refine hK' _ _ (h _ ?_ ((Below.refl _ _).alloc (Nat.le_refl _) _))
  unfold OwnY
  rw [List.length_replicate, ← madeY K hzc]
  exact World.ownsRow_lit w _ n (Nat.le_refl _) (by unfold maxLen; omega) (size_madeCells _ _)
end Go.Proofs.YtibedokegignhaaGreatDoor
namespace Go.Proofs.YtibedokegignhaaGreatDoor
open Go.RowKit Go.Maps
end Go.Proofs.YtibedokegignhaaGreatDoor
namespace Go.Proofs.YtibedokegignhaaGreatDoor
open Go.RowKit Go.Maps
variable {α : Type} {Y : Lay α}
theorem fl_splice (K : Y.Ok) {l : List α} {i j : Nat} {e e' : α} (he : l[i]? = some e) {xs : List Value} (hj : j + xs.length ≤ Y.k) (hc : Y.cs e' = (Y.cs e).take j ++ xs ++ (Y.cs e).drop (j + xs.length)) :
    fl Y (l.set i e') = (fl Y l).take (i * Y.k + j) ++ xs ++ (fl Y l).drop (i * Y.k + j + xs.length) := by
  have hi := (List.getElem?_eq_some_iff.1 he).1
  have hge := (List.getElem?_eq_some_iff.1 he).2
  have hl : l = l.take i ++ e :: l.drop (i + 1) := by
    rw [← hge, ← List.drop_eq_getElem_cons hi, List.take_append_drop]
  have h1 : l.set i e' = l.take i ++ e' :: l.drop (i + 1) := List.set_eq_take_append_cons_drop.trans (by rw [if_pos hi])
  have h2 : fl Y l = fl Y (l.take i) ++ (Y.cs e ++ fl Y (l.drop (i + 1))) := by
    conv => lhs; rw [hl, fl_append, fl]
  have hA : (fl Y (l.take i)).length = i * Y.k := by rw [fl_length K, List.length_take, Nat.min_eq_left (by omega)]
  have hC : (Y.cs e).length = Y.k := K.len e
  rw [h1, fl_append, fl, h2, hc]
  rw [List.take_append, List.take_of_length_le (l := fl Y (l.take i)) (by omega), hA, Nat.add_sub_cancel_left, List.take_append_of_le_length (by omega)]
  rw [Nat.add_assoc, List.drop_append, List.drop_of_length_le (l := fl Y (l.take i)) (by omega), hA, Nat.add_sub_cancel_left, List.nil_append, List.drop_append_of_le_length (by omega)]
  simp only [List.append_assoc]
theorem splice_take {A xs : List Value} {p m : Nat} (h : p + xs.length ≤ m) : (A.take p ++ xs ++ A.drop (p + xs.length)).take m = (A.take m).take p ++ xs ++ (A.take m).drop (p + xs.length) := by
  apply List.ext_getElem?
  intro q
  by_cases h0 : q < m
  · rw [List.getElem?_take, if_pos h0]
    by_cases hA : p ≤ A.length
    · have l1 : (A.take p).length = p := by rw [List.length_take]; omega
      have l2 : ((A.take m).take p).length = p := by rw [List.length_take, List.length_take]; omega
      by_cases h1 : q < p
      · rw [List.append_assoc, List.append_assoc, List.getElem?_append_left (by omega), List.getElem?_append_left (by omega), List.take_take, Nat.min_eq_left (by omega)]
      · by_cases h2 : q < p + xs.length
        · have t : ∀ (P D : List Value), P.length = p → (P ++ xs ++ D)[q]? = xs[q - p]? := fun P D hP => by
            rw [List.append_assoc, List.getElem?_append_right (by omega), hP, List.getElem?_append_left (by omega)]
          rw [t _ _ l1, t _ _ l2]
        · have t : ∀ (P D : List Value), P.length = p → (P ++ xs ++ D)[q]? = D[q - p - xs.length]? := fun P D hP => by
            rw [List.append_assoc, List.getElem?_append_right (by omega), hP, List.getElem?_append_right (by omega)]
          rw [t _ _ l1, t _ _ l2, List.getElem?_drop, List.getElem?_drop, List.getElem?_take, if_pos (by omega)]
    · have e1 : A.take p = A := List.take_of_length_le (by omega)
      have e2 : A.take m = A := List.take_of_length_le (by omega)
      rw [e1, e2, e1]
  · rw [List.getElem?_take, if_neg h0]
    symm
    apply List.getElem?_eq_none
    simp only [List.length_append, List.length_take, List.length_drop]
    omega
theorem storeY (K : Y.Ok) (w : World) {ops : Array Oper} {rest : List Oper} {o : Oper} {a : Act} {Q : Exit → Act → World → Prop} (hgd : o.guard = none) (ty : TypeId) (x y : Operand) (ho : o.op = .store ty x y)
    (B g n c : Nat) (l : List α) (i j : Nat) (e e' : α) (v : Value) (hx : a.eval x = .pointer (some ⟨g, i * Y.k + j, none⟩)) (hy : a.eval y = v) (he : l[i]? = some e) (hi : (Tryz.prog.info? ty).map (·.size) = some v.cells.size)
    (hj : j + v.cells.size ≤ Y.k) (hc : Y.cs e' = (Y.cs e).take j ++ v.cells.toList ++ (Y.cs e).drop (j + v.cells.toList.length)) (hown : OwnY Y B w (.slice (some ⟨g, 0, none⟩) n c) l)
    (hk : ∀ w', OwnY Y B w' (.slice (some ⟨g, 0, none⟩) n c) (l.set i e') → Upd (fun b => b = g) w w' → w'.heap.size = w.heap.size → wpList Tryz.prog ops Q rest (a.put o.dst undef) w') : wpList Tryz.prog ops Q (o :: rest) a w := by
  refine wpList_plain hgd fun K' hK' => ?_
  have hlt := (List.getElem?_eq_some_iff.1 he).1
  rcases hown with ⟨h0, h1 | ⟨g1, cap, cur, e1, e2, e3, e4, e5, e6, e7⟩⟩
  · have := h1.1; cases this
  · injection e1 with q1 q2 q3
    injection q1 with q1
    cases q1
    subst q3
    have hsz : l.length * Y.k ≤ cur.size := by rw [e6]; exact Nat.mul_le_mul_right _ e4
    have hlen : v.cells.toList.length = v.cells.size := by simp
    have hfit : i * Y.k + j + v.cells.toList.length ≤ l.length * Y.k := by
      have : (i + 1) * Y.k ≤ l.length * Y.k := Nat.mul_le_mul_right _ hlt
      rw [Nat.add_mul] at this
      omega
    have hrun := run_storeCells_at (P := Tryz.prog) g (i * Y.k + j) Y.T v.cells.toList 0 cur w e3 (by omega) (fun u hu => K.one e' u (by rw [hc]; exact List.mem_append_left _ (List.mem_append_right _ hu)))
    rw [Nat.add_zero] at hrun
    have hst : (Instr.storeAt ty (.pointer (some ⟨g, i * Y.k + j, none⟩)) v).run Tryz.prog w = .ok () (w.setRow g (cur.toList.take (i * Y.k + j) ++ v.cells.toList ++ cur.toList.drop (i * Y.k + j + v.cells.toList.length)).toArray) := by
      cases hq : Tryz.prog.info? ty with
      | none => rw [hq] at hi; cases hi
      | some t =>
        have hs : v.cells.size = t.size := by simp [hq] at hi; omega
        simp [Instr.storeAt, Instr.sureAddr, storeVar, sizeOf, typeInfo, hq, hs]
        rw [← hs]
        simpa using hrun
    unfold Oper.wp execOp
    simp only [ho, hx, hy, Sem.run_bind, Sem.run_pure, Result.andThen_ok, hst]
    refine hK' _ _ (hk _ ?_ ⟨rfl, rfl, rfl, by simp, fun b hb hs => setRow_other w g b _ hs⟩ (by simp))
    refine ⟨by rw [fl_length K], .inr ⟨g, c, _, ?_, e2, setRow_heap w g cur _ Y.T (0, 0) e3, ?_, e5, ?_, ?_⟩⟩
    · rw [List.length_set, ← q2]
    · rw [List.length_set]; exact e4
    · rw [List.size_toArray, ← e6]
      simp only [List.length_append, List.length_take, List.length_drop, Array.length_toList]
      omega
    · rw [List.length_set, fl_splice K he (by rw [hlen]; exact hj) hc, ← e7]
      exact splice_take hfit
end Go.Proofs.YtibedokegignhaaGreatDoor
namespace Go.Proofs.YtibedokegignhaaGreatDoor
open Go.RowKit Go.Maps
structure SV (α : Type) where
  a : Option Addr
  c : Nat
  D : List α
def yS (α : Type) (T ST : TypeId) : Lay (SV α) := ⟨T, ST, 1, 24, fun x => [.slice x.a x.D.length x.c], ⟨none, 0, []⟩⟩
theorem setc_ne {w : World} {b i j : Nat} {u x : Value} (h : w.cell? ⟨b, i, none⟩ = some x) (hne : i ≠ j) : (w.setCell ⟨b, j, none⟩ u).cell? ⟨b, i, none⟩ = some x := by
  have hn : j ≠ i := fun e => hne e.symm
  go_simp
theorem setc_eq {w : World} {b i : Nat} {u x : Value} (h : w.cell? ⟨b, i, none⟩ = some x) : (w.setCell ⟨b, i, none⟩ u).cell? ⟨b, i, none⟩ = some u := by
  go_simp
theorem gcell {w w' : World} {row : Option Nat} (h : w.grownBy w' row) {b i : Nat} {x : Value} (hc : w.cell? ⟨b, i, none⟩ = some x) (hne : row ≠ some b) : w'.cell? ⟨b, i, none⟩ = some x :=
  h.cell hc (fun e => hne e.symm)
theorem gupd {w w' : World} {row : Option Nat} (h : w.grownBy w' row) {S : Nat → Prop} (hs : ∀ k, row = some k → S k) : Upd S w w' :=
  ⟨h.os, h.tape, h.output, h.size, fun k hk hn => h.block k hk (fun e => hn (hs k e.symm))⟩
variable {α β : Type} {Y : Lay α} {Z : Lay β}
variable {Z : Lay (SV α)} {p : Nat} {E : Nat → Value}
end Go.Proofs.YtibedokegignhaaGreatDoor
namespace Go.Proofs.YtibedokegignhaaGreatDoor
open Go.RowKit Go.Maps
open Classical
structure En where
  c : Int
  n : Int
  o : Opn
def En.cs (e : En) : List Value := [.int .i64 e.c, .int .i64 e.n, .int .i64 e.o.k, .int .i64 e.o.s, .string e.o.v]
structure En.fits (e : En) : Prop where
  cw : (Lit.int .i64 e.c).wf = true
  nw : (Lit.int .i64 e.n).wf = true
  ow : e.o.fits
def yE : Lay En := ⟨28, 34, 5, 48, En.cs, ⟨0, 0, ⟨0, 0, ByteArray.empty⟩⟩⟩
theorem kE : yE.Ok := ⟨by decide, fun x => rfl, fun x u h => by
    simp [yE, En.cs] at h
    rcases h with rfl | rfl | rfl | rfl | rfl <;> rfl, Tryz.underlying34, ⟨.agg #[.int .i64 0, .int .i64 0, .int .i64 0, .int .i64 0, .string ByteArray.empty], by kernel_rfl, rfl⟩⟩
theorem SlY.en {w : World} {a : Option Addr} {n c : Nat} {L : List En} (h : SlY yE w a n c L) {j : Nat} {e : En} (he : L[j]? = some e) : ∃ q o, a = some ⟨q, o, none⟩ ∧ q < w.heap.size ∧ w.cell? ⟨q, o + j * 5, none⟩ = some (.int .i64 e.c) ∧ w.cell? ⟨q, o + j * 5 + 1, none⟩ = some (.int .i64 e.n) ∧ w.cell? ⟨q, o + j * 5 + 2, none⟩ = some (.int .i64 e.o.k) ∧ w.cell? ⟨q, o + j * 5 + 3, none⟩ = some (.int .i64 e.o.s) ∧ w.cell? ⟨q, o + j * 5 + 4, none⟩ = some (.string e.o.v) := by
  obtain ⟨q, o, ea, hq, hl⟩ := h.place (by rintro rfl; simp at he)
  exact ⟨q, o, ea, hq, hl j e he 0 _ rfl, hl j e he 1 _ rfl, hl j e he 2 _ rfl, hl j e he 3 _ rfl, hl j e he 4 _ rfl⟩
theorem sl_box {α : Type} {Y : Lay α} (w : World) (x : α) (T : TypeId) : SlY Y (w.alloc (.cells (Y.cs x).toArray T)) (some ⟨w.heap.size, 0, none⟩) 1 1 [x] :=
  ⟨rfl, Nat.le_refl _, by unfold maxLen; omega, (fun e => by cases e), fun y hy => by
    cases hy
    refine .inr ⟨w.heap.size, 0, rfl, by simp, fun i z hz j u hu => ?_⟩
    match i, hz with
    | 0, hz =>
      simp at hz
      subst hz
      rw [Nat.zero_mul, Nat.zero_add]
      rw [World.cell?_alloc_at _ _ _ _ rfl, List.getElem?_toArray]
      exact hu
    | i + 1, hz => simp at hz⟩
theorem sl_lit {α : Type} {Y : Lay α} (K : Y.Ok) (w : World) (l : List α) (T : TypeId) (hm : l.length ≤ maxLen) : SlY Y (w.alloc (.cells (fl Y l).toArray T)) (some ⟨w.heap.size, 0, none⟩) l.length l.length l :=
  ⟨rfl, Nat.le_refl _, hm, (fun e => by cases e), fun y hy => by
    cases hy
    refine .inr ⟨w.heap.size, 0, rfl, by simp, fun i z hz j u hu => ?_⟩
    rw [Nat.zero_add, World.cell?_alloc_at _ _ _ _ rfl, List.getElem?_toArray, fl_get K l i z hz j (by have := (List.getElem?_eq_some_iff.1 hu).1; rw [K.len] at this; exact this)]
    exact hu⟩
def zE : Lay (SV En) := yS En 34 41
def yD : Lay (Int × Int) := ⟨33, 36, 2, 16, fun d => [.int .u64 d.1, .int .u64 d.2], (0, 0)⟩
theorem kD : yD.Ok := ⟨by decide, fun x => rfl, fun x u h => by
    simp [yD] at h
    rcases h with rfl | rfl <;> rfl, Tryz.underlying36, ⟨.agg #[.int .u64 0, .int .u64 0], by kernel_rfl, rfl⟩⟩
def zD : Lay (SV (Int × Int)) := yS (Int × Int) 36 40
theorem hzz : zD.T ≠ zE.T := by decide
theorem SlY.dw {w : World} {a : Option Addr} {n c : Nat} {L : List (Int × Int)} (h : SlY yD w a n c L) {j : Nat} {e : Int × Int} (he : L[j]? = some e) : ∃ q o, a = some ⟨q, o, none⟩ ∧ q < w.heap.size ∧ w.cell? ⟨q, o + j * 2, none⟩ = some (.int .u64 e.1) ∧ w.cell? ⟨q, o + j * 2 + 1, none⟩ = some (.int .u64 e.2) := by
  obtain ⟨q, o, ea, hq, hl⟩ := h.place (by rintro rfl; simp at he)
  exact ⟨q, o, ea, hq, hl j e he 0 _ rfl, hl j e he 1 _ rfl⟩
theorem take_snoc {α : Type} {l : List α} {k : Nat} {x : α} (h : l[k]? = some x) : l.take (k + 1) = l.take k ++ [x] := by
  rw [List.take_add_one, h]; rfl
theorem ne_of_at {α : Type} {A B : List α} {k : Nat} {x y : α} (h1 : A[k]? = some x) (h2 : B[k]? = some y) (h : x ≠ y) : A ≠ B := by
  rintro rfl
  rw [h1] at h2
  exact h (Option.some.inj h2)
theorem take_all {α : Type} {A B : List α} {k : Nat} (h1 : A.length = k) (h2 : B.length = k) (h : A.take k = B.take k) : A = B := by
  rw [List.take_of_length_le (by omega), List.take_of_length_le (by omega)] at h
  exact h
theorem take_step {α : Type} {A B : List α} {k : Nat} {x : α} (h1 : A[k]? = some x) (h2 : B[k]? = some x) (h : A.take k = B.take k) : A.take (k + 1) = B.take (k + 1) := by
  rw [take_snoc h1, take_snoc h2, h]
set_option maxHeartbeats 2000000 in
theorem sameentsB (A B : List En) (a1 a2 : Option Addr) (n1 n2 c1 c2 : Nat) (w : World) (h1 : SlY yE w a1 n1 c1 A) (h2 : SlY yE w a2 n2 c2 B) :
    Calls Tryz.prog 41 #[.slice a1 n1 c1, .slice a2 n2 c2] w fun e w' => e = .returned (.bool (decide (A = B))) ∧ ∃ k, w' = w.drewN k := by
  have m1 := h1.max
  have m2 := h2.max
  have k1 := h1.cap
  have k2 := h2.cap
  unfold maxLen at m1 m2
  have L1 := hide h1.len
  have L2 := hide h2.len
  have H1 := hide h1
  have H2 := hide h2
  clear h1 h2
  by_cases hl : n1 = n2
  · subst hl
    go_enter Tryz.func41, Tryz.ntmps41
    go_wp2
    go_loopw [5] (fun i wr => ∃ (k j : Nat), i = .int .i64 (k : Int) ∧ k ≤ n1 ∧ A.take k = B.take k ∧ wr = w.drewN j) (fun i _ => n1 - (intOf i).toNat)
    case atStart => exact ⟨0, 0, rfl, Nat.zero_le _, rfl, rfl⟩
    case round =>
      obtain ⟨k, j, rfl, hk, hsame, rfl⟩ := hrel
      have HS := hide hsame
      clear hsame
      by_cases hlt : k < n1
      · obtain ⟨d1, hd1⟩ : ∃ d, A[k]? = some d := ⟨_, List.getElem?_eq_getElem (by rw [L1.out]; exact hlt)⟩
        obtain ⟨d2, hd2⟩ : ∃ d, B[k]? = some d := ⟨_, List.getElem?_eq_getElem (by rw [L2.out]; exact hlt)⟩
        have NS := hide (ne_of_at hd1 hd2)
        have HN := hide (fun (e : d1 = d2) => take_step hd1 (by rw [e]; exact hd2) HS.out)
        obtain ⟨q1, o1, rfl, _, e0, e1, e2, e3, e4⟩ := H1.out.en hd1
        obtain ⟨q2, o2, rfl, _, f0, f1, f2, f3, f4⟩ := H2.out.en hd2
        obtain ⟨C, N, ⟨ok, os, ov⟩⟩ := d1
        obtain ⟨C', N', ⟨ok', os', ov'⟩⟩ := d2
        dsimp only at e0 e1 e2 e3 e4 f0 f1 f2 f3 f4
        clear H1 H2 HS hd1 hd2
        by_cases ff : (⟨C, N, ⟨ok, os, ov⟩⟩ : En) = ⟨C', N', ⟨ok', os', ov'⟩⟩
        · have HS2 := hide (HN.out ff)
          cases ff
          clear HN NS
          go_wp2
          go_quiet (fail)
          go_wp2
          go_round
          case rel => exact ⟨k + 1, _, by go_num, by omega, HS2.out, rfl⟩
          case measure => simp [intOf]; omega
        · have NE := hide (decide_eq_false (NS.out ff))
          clear NS HN
          by_cases g_C : C = C'
          · subst g_C
            by_cases g_N : N = N'
            · subst g_N
              by_cases g_ok : ok = ok'
              · subst g_ok
                by_cases g_os : os = os'
                · subst g_os
                  by_cases g_ov : ov = ov'
                  · subst g_ov
                    exact absurd rfl ff
                  · have g2 : ¬ ov.toList = ov'.toList := fun e => g_ov ((bytes_inj _ _).1 e)
                    go_wp2
                    go_quiet (fail)
                    go_wp2
                    go_ret
                    exact ⟨by rw [NE.out]; rfl, j + nq, by simp⟩
                · go_wp2
                  go_quiet (fail)
                  go_wp2
                  go_ret
                  exact ⟨by rw [NE.out]; rfl, j + nq, by simp⟩
              · go_wp2
                go_quiet (fail)
                go_wp2
                go_ret
                exact ⟨by rw [NE.out]; rfl, j + nq, by simp⟩
            · go_wp2
              go_quiet (fail)
              go_wp2
              go_ret
              exact ⟨by rw [NE.out]; rfl, j + nq, by simp⟩
          · go_wp2
            go_quiet (fail)
            go_wp2
            go_ret
            exact ⟨by rw [NE.out]; rfl, j + nq, by simp⟩
      · obtain rfl : k = n1 := by omega
        have HE := hide (decide_eq_true (take_all L1.out L2.out HS.out))
        clear HS H1 H2
        go_wp2
        go_ret
        exact ⟨by rw [HE.out]; rfl, _, rfl⟩
  · have hl' : ¬ (n1 : Int) = (n2 : Int) := by omega
    have HE : Hid (decide (A = B) = false) := decide_eq_false (by rintro rfl; exact hl (L1.out.symm.trans L2.out))
    clear H1 H2
    go_enter Tryz.func41, Tryz.ntmps41
    go_wp2
    go_ret
    exact ⟨by rw [HE.out]; rfl, 0, rfl⟩
set_option maxHeartbeats 2000000 in
theorem samevecB (A B : List (Int × Int)) (a1 a2 : Option Addr) (n1 n2 c1 c2 : Nat) (w : World) (h1 : SlY yD w a1 n1 c1 A) (h2 : SlY yD w a2 n2 c2 B) :
    Calls Tryz.prog 40 #[.slice a1 n1 c1, .slice a2 n2 c2] w fun e w' => e = .returned (.bool (decide (A = B))) ∧ ∃ k, w' = w.drewN k := by
  have m1 := h1.max
  have m2 := h2.max
  have k1 := h1.cap
  have k2 := h2.cap
  unfold maxLen at m1 m2
  have L1 := hide h1.len
  have L2 := hide h2.len
  have H1 := hide h1
  have H2 := hide h2
  clear h1 h2
  by_cases hl : n1 = n2
  · subst hl
    go_enter Tryz.func40, Tryz.ntmps40
    go_wp2
    go_loopw [5] (fun i wr => ∃ (k j : Nat), i = .int .i64 (k : Int) ∧ k ≤ n1 ∧ A.take k = B.take k ∧ wr = w.drewN j) (fun i _ => n1 - (intOf i).toNat)
    case atStart => exact ⟨0, 0, rfl, Nat.zero_le _, rfl, rfl⟩
    case round =>
      obtain ⟨k, j, rfl, hk, hsame, rfl⟩ := hrel
      have HS := hide hsame
      clear hsame
      by_cases hlt : k < n1
      · obtain ⟨d1, hd1⟩ : ∃ d, A[k]? = some d := ⟨_, List.getElem?_eq_getElem (by rw [L1.out]; exact hlt)⟩
        obtain ⟨d2, hd2⟩ : ∃ d, B[k]? = some d := ⟨_, List.getElem?_eq_getElem (by rw [L2.out]; exact hlt)⟩
        have NS := hide (ne_of_at hd1 hd2)
        have HN := hide (fun (e : d1 = d2) => take_step hd1 (by rw [e]; exact hd2) HS.out)
        obtain ⟨q1, o1, rfl, _, e0, e1⟩ := H1.out.dw hd1
        obtain ⟨q2, o2, rfl, _, f0, f1⟩ := H2.out.dw hd2
        obtain ⟨X, Y⟩ := d1
        obtain ⟨X', Y'⟩ := d2
        dsimp only at e0 e1 f0 f1
        clear H1 H2 HS hd1 hd2
        by_cases ff : (X, Y) = (X', Y')
        · have HS2 := hide (HN.out ff)
          cases ff
          clear HN NS
          go_wp2
          go_quiet (fail)
          go_wp2
          go_round
          case rel => exact ⟨k + 1, _, by go_num, by omega, HS2.out, rfl⟩
          case measure => simp [intOf]; omega
        · have NE := hide (decide_eq_false (NS.out ff))
          clear NS HN
          by_cases g_X : X = X'
          · subst g_X
            by_cases g_Y : Y = Y'
            · subst g_Y
              exact absurd rfl ff
            · go_wp2
              go_quiet (fail)
              go_wp2
              go_ret
              exact ⟨by rw [NE.out]; rfl, j + nq, by simp⟩
          · go_wp2
            go_quiet (fail)
            go_wp2
            go_ret
            exact ⟨by rw [NE.out]; rfl, j + nq, by simp⟩
      · obtain rfl : k = n1 := by omega
        have HE := hide (decide_eq_true (take_all L1.out L2.out HS.out))
        clear HS H1 H2
        go_wp2
        go_ret
        exact ⟨by rw [HE.out]; rfl, _, rfl⟩
  · have hl' : ¬ (n1 : Int) = (n2 : Int) := by omega
    have HE : Hid (decide (A = B) = false) := decide_eq_false (by rintro rfl; exact hl (L1.out.symm.trans L2.out))
    clear H1 H2
    go_enter Tryz.func40, Tryz.ntmps40
    go_wp2
    go_ret
    exact ⟨by rw [HE.out]; rfl, 0, rfl⟩
structure Mg where
  k : Int
  nd : Int
  vw : Int
  e : En
  r : Int × Int × ByteArray
  p : Int
  cm : Int
  ls : Int
  d : Int × Int
def Mg.val (m : Mg) (s t : Value) : Value := .agg #[.int .i64 m.k, .int .i64 m.nd, .int .i64 m.vw, .int .i64 m.e.c, .int .i64 m.e.n, .int .i64 m.e.o.k, .int .i64 m.e.o.s, .string m.e.o.v, .int .i64 m.r.1, .int .i64 m.r.2.1, .string m.r.2.2, .int .i64 m.p, .int .i64 m.cm, .int .i64 m.ls, .int .u64 m.d.1, .int .u64 m.d.2, s, t]
def Mg.cs (m : Mg) (s t : Value) : List Value := [.int .i64 m.k, .int .i64 m.nd, .int .i64 m.vw, .int .i64 m.e.c, .int .i64 m.e.n, .int .i64 m.e.o.k, .int .i64 m.e.o.s, .string m.e.o.v, .int .i64 m.r.1, .int .i64 m.r.2.1, .string m.r.2.2, .int .i64 m.p, .int .i64 m.cm, .int .i64 m.ls, .int .u64 m.d.1, .int .u64 m.d.2, s, t]
structure MBox (w : World) (q : Nat) (m : Mg) (s t : Value) : Prop where
  lt : q < w.heap.size
  kind : ∃ c f, w.heap[q]? = some (.cells c 38 f)
  cell : ∀ i x, (m.cs s t)[i]? = some x → w.cell? ⟨q, i, none⟩ = some x
  free : ∀ i, w.frozen? ⟨q, i, none⟩ = false
theorem MBox.upd {S : Nat → Prop} {w w' : World} {q : Nat} {m : Mg} {s t : Value} (h : MBox w q m s t) (u : Upd S w w') (hs : ¬ S q) : MBox w' q m s t := by
  have hb := u.block q h.lt hs
  exact ⟨Nat.lt_of_lt_of_le h.lt u.size, by rw [hb]; exact h.kind, fun i x hx => (u.cell (p := ⟨q, i, none⟩) h.lt hs).trans (h.cell i x hx), fun i => (u.frozen (p := ⟨q, i, none⟩) h.lt hs).trans (h.free i)⟩
theorem MBox.bel {w w' : World} {q : Nat} {m : Mg} {s t : Value} (h : MBox w q m s t) (hb : Below w.heap.size w w') : MBox w' q m s t := h.upd (S := fun _ => False) (Upd.of_below hb) id
theorem MBox.new (w : World) (m : Mg) (s t : Value) : MBox (w.alloc (.cells (m.cs s t).toArray 38)) w.heap.size m s t := by
  refine ⟨by simp, ?_, fun i x hx => ?_, fun i => by simp⟩
  · refine ⟨(m.cs s t).toArray, (0, 0), ?_⟩
    show (w.heap.push _)[w.heap.size]? = _
    rw [Array.getElem?_push_size]
  · rw [World.cell?_alloc_at _ _ _ _ rfl, List.getElem?_toArray]
    exact hx
theorem MBox.all {w : World} {q : Nat} {m : Mg} {s t : Value} (h : MBox w q m s t) : w.cell? ⟨q, 0, none⟩ = some (.int .i64 m.k) ∧ w.cell? ⟨q, 1, none⟩ = some (.int .i64 m.nd) ∧ w.cell? ⟨q, 2, none⟩ = some (.int .i64 m.vw) ∧ w.cell? ⟨q, 3, none⟩ = some (.int .i64 m.e.c) ∧ w.cell? ⟨q, 4, none⟩ = some (.int .i64 m.e.n) ∧ w.cell? ⟨q, 5, none⟩ = some (.int .i64 m.e.o.k) ∧ w.cell? ⟨q, 6, none⟩ = some (.int .i64 m.e.o.s) ∧ w.cell? ⟨q, 7, none⟩ = some (.string m.e.o.v) ∧ w.cell? ⟨q, 8, none⟩ = some (.int .i64 m.r.1) ∧ w.cell? ⟨q, 9, none⟩ = some (.int .i64 m.r.2.1) ∧ w.cell? ⟨q, 10, none⟩ = some (.string m.r.2.2) ∧ w.cell? ⟨q, 11, none⟩ = some (.int .i64 m.p) ∧ w.cell? ⟨q, 12, none⟩ = some (.int .i64 m.cm) ∧ w.cell? ⟨q, 13, none⟩ = some (.int .i64 m.ls) ∧ w.cell? ⟨q, 14, none⟩ = some (.int .u64 m.d.1) ∧ w.cell? ⟨q, 15, none⟩ = some (.int .u64 m.d.2) ∧ w.cell? ⟨q, 16, none⟩ = some (s) ∧ w.cell? ⟨q, 17, none⟩ = some (t) :=
  ⟨h.cell 0 _ rfl, h.cell 1 _ rfl, h.cell 2 _ rfl, h.cell 3 _ rfl, h.cell 4 _ rfl, h.cell 5 _ rfl, h.cell 6 _ rfl, h.cell 7 _ rfl, h.cell 8 _ rfl, h.cell 9 _ rfl, h.cell 10 _ rfl, h.cell 11 _ rfl, h.cell 12 _ rfl, h.cell 13 _ rfl, h.cell 14 _ rfl, h.cell 15 _ rfl, h.cell 16 _ rfl, h.cell 17 _ rfl⟩
theorem setc_kind {w : World} {q k i : Nat} {u : Value} {c : Array Value} {T : TypeId} {f : Nat × Nat} (h : w.heap[q]? = some (.cells c T f)) : ∃ c f, (w.setCell ⟨k, i, none⟩ u).heap[q]? = some (.cells c T f) := by
  by_cases e : q = k
  · subst e
    have hlt := (Array.getElem?_eq_some_iff.1 h).1
    have h' : w.heap[q] = .cells c T f := (Array.getElem?_eq_some_iff.1 h).2
    refine ⟨c.setIfInBounds i u, f, ?_⟩
    show (w.heap.modify q _)[q]? = _
    rw [Array.getElem?_eq_getElem (by simpa using hlt), Array.getElem_modify_self, h']
    rfl
  · rw [Below.heap_setCell _ _ _ _ e]
    exact ⟨_, _, h⟩
def sets (w : World) (b : Nat) : Nat → List Value → World
  | _, [] => w
  | i, v :: r => sets (w.setCell ⟨b, i, none⟩ v) b (i + 1) r
theorem upd_sets {S : Nat → Prop} {b : Nat} {w0 : World} (hb : S b) : ∀ (vs : List Value) (i : Nat) (w : World), Upd S w0 w → Upd S w0 (sets w b i vs)
  | [], _, _, h => h
  | u :: r, i, w, h => upd_sets hb r (i + 1) _ (h.setCell (p := ⟨b, i, none⟩) (.inl hb) u)
theorem size_sets (b : Nat) : ∀ (vs : List Value) (i : Nat) (w : World), (sets w b i vs).heap.size = w.heap.size
  | [], _, _ => rfl
  | u :: r, i, w => (size_sets b r (i + 1) _).trans (by simp [World.setCell])
theorem sets_kind {q b : Nat} {T : TypeId} : ∀ (vs : List Value) (i : Nat) (w : World), (∃ c f, w.heap[q]? = some (.cells c T f)) → ∃ c f, (sets w b i vs).heap[q]? = some (.cells c T f)
  | [], _, _, h => h
  | u :: r, i, w, ⟨c, f, h⟩ => sets_kind r (i + 1) _ (setc_kind h)
theorem setf' {w : World} {q b i j : Nat} {u : Value} (h : w.frozen? ⟨q, i, none⟩ = false) : (w.setCell ⟨b, j, none⟩ u).frozen? ⟨q, i, none⟩ = false := by
  go_simp
theorem sets_free {q b j : Nat} : ∀ (vs : List Value) (i : Nat) (w : World), w.frozen? ⟨q, j, none⟩ = false → (sets w b i vs).frozen? ⟨q, j, none⟩ = false
  | [], _, _, h => h
  | u :: r, i, w, h => sets_free r (i + 1) _ (setf' h)
theorem sets_low {b j : Nat} {x : Value} : ∀ (vs : List Value) (i : Nat) (w : World), j < i → w.cell? ⟨b, j, none⟩ = some x → (sets w b i vs).cell? ⟨b, j, none⟩ = some x
  | [], _, _, _, h => h
  | u :: r, i, w, hj, h => sets_low r (i + 1) _ (by omega) (setc_ne h (by omega))
theorem sets_at {b : Nat} : ∀ (vs : List Value) (i : Nat) (w : World), (∀ k, k < vs.length → ∃ y, w.cell? ⟨b, i + k, none⟩ = some y) → ∀ k x, vs[k]? = some x → (sets w b i vs).cell? ⟨b, i + k, none⟩ = some x
  | [], _, _, _, k, x, hx => by simp at hx
  | u :: r, i, w, h, 0, x, hx => by
    simp at hx
    subst hx
    obtain ⟨y, hy⟩ := h 0 (by simp)
    exact sets_low r (i + 1) _ (by omega) (setc_eq hy)
  | u :: r, i, w, h, k + 1, x, hx => by
    have := sets_at r (i + 1) (w.setCell ⟨b, i, none⟩ u) (fun m hm => by
      obtain ⟨y, hy⟩ := h (m + 1) (by simpa using hm)
      rw [show i + (m + 1) = i + 1 + m by omega] at hy
      exact ⟨y, setc_ne hy (by omega)⟩) k x (by simpa using hx)
    rw [show i + 1 + k = i + (k + 1) by omega] at this
    exact this
theorem MBox.put {w : World} {q : Nat} {m : Mg} {s t : Value} (h : MBox w q m s t) (m' : Mg) (s' t' : Value) : MBox (sets w q 0 (m'.cs s' t')) q m' s' t' := by
  refine ⟨by rw [size_sets]; exact h.lt, sets_kind _ _ _ h.kind, fun i x hx => ?_, fun i => sets_free _ _ _ (h.free i)⟩
  have := sets_at (b := q) (m'.cs s' t') 0 w (fun k hk => ⟨_, by rw [Nat.zero_add]; exact h.cell k _ (List.getElem?_eq_getElem (show k < (m.cs s t).length from hk))⟩) i x hx
  rw [Nat.zero_add] at this
  exact this
theorem setCells_sets (b : Nat) : ∀ (vs : List Value) (i : Nat) (w : World), w.setCells b i vs = sets w b i vs
  | [], _, _ => rfl
  | u :: r, i, w => by rw [World.setCells, sets, setCells_sets b r (i + 1)]
theorem Mg.val_eq (m : Mg) (s t : Value) : m.val s t = .agg (m.cs s t).toArray := rfl
theorem boxM {ops : Array Oper} {rest : List Oper} {o : Oper} {a : Act} {w : World} {Q : Exit → Act → World → Prop} (hgd : o.guard = none) (x : Operand) (ho : o.op = .box 38 x) (m : Mg) (s t : Value) (hx : a.eval x = m.val s t)
    (hk : wpList Tryz.prog ops Q rest (a.put o.dst (.pointer (some ⟨w.heap.size, 0, none⟩))) (w.alloc (.cells (m.cs s t).toArray 38))) : wpList Tryz.prog ops Q (o :: rest) a w := by
  refine wpList_plain hgd fun K hK => ?_
  unfold Oper.wp execOp
  simp only [ho, hx, Mg.val_eq]
  exact hK _ _ hk
theorem loadM {ops : Array Oper} {rest : List Oper} {o : Oper} {a : Act} {w : World} {Q : Exit → Act → World → Prop} (hgd : o.guard = none) (x : Operand) (ho : o.op = .load 38 x) (q : Nat) (m : Mg) (s t : Value) (hx : a.eval x = .pointer (some ⟨q, 0, none⟩)) (h : MBox w q m s t)
    (hk : wpList Tryz.prog ops Q rest (a.put o.dst (m.val s t)) w) : wpList Tryz.prog ops Q (o :: rest) a w :=
  wpList_load_mid hgd 38 x ho q 0 hx (m.cs s t) _ (fun j v hv => by rw [Nat.zero_add]; exact h.cell j v hv) Tryz.underlying38 rfl (by kernel_rfl) hk
theorem run_storeM {w : World} {q : Nat} {m : Mg} {s t : Value} (h : MBox w q m s t) (m' : Mg) (s' t' : Value) (h1 : s'.oneCell' = true) (h2 : t'.oneCell' = true) : (Instr.storeAt 38 (.pointer (some ⟨q, 0, none⟩)) (m'.val s' t')).run Tryz.prog w = .ok () (sets w q 0 (m'.cs s' t')) := by
  have := run_storeAt_mid (P := Tryz.prog) w q 0 38 (m'.cs s' t').toArray (fun j hj => ⟨by rw [Nat.zero_add, h.cell j _ (List.getElem?_eq_getElem (show j < (m.cs s t).length from hj))]; rfl, by rw [Nat.zero_add]; exact h.free j⟩) (by kernel_rfl) (all_oneCell_toArray (by
    intro v hv
    simp only [Mg.cs, List.mem_cons, List.not_mem_nil, or_false] at hv
    rcases hv with rfl | rfl | rfl | rfl | rfl | rfl | rfl | rfl | rfl | rfl | rfl | rfl | rfl | rfl | rfl | rfl | rfl | rfl <;> first | rfl | exact h1 | exact h2))
  rw [setCells_sets] at this
  exact this
theorem wl_val {ops : Array Oper} {rest : List Oper} {o : Oper} {a : Act} {w : World} {Q : Exit → Act → World → Prop} {v : Value} (hw : Region.wanted o (yielded ops a.tmps) = true) (h : (execOp a.eval o).run Tryz.prog w = .ok (.value v) w)
    (hk : wpList Tryz.prog ops Q rest (a.put o.dst v) w) : wpList Tryz.prog ops Q (o :: rest) a w :=
  BigFrame.wpList_want hw (fun K hK => by unfold Oper.wp; rw [h, Oper.upon_value]; exact hK _ _ hk)
theorem want_none {ops : Array Oper} {o : Oper} {T : Array Value} (h : o.guard = none) : Region.wanted o (yielded ops T) = true := by simp [Region.wanted, h]
theorem want_at {ops : Array Oper} {o : Oper} {T : Array Value} {g j : Nat} {b : Bool} (h : o.guard = some (g, true)) (hg : (ops[g]?).bind (·.dst) = some j) (hj : T[j]? = some (.bool b)) : Region.wanted o (yielded ops T) = b := by
  simp [Region.wanted, h, yielded, hg, hj]
theorem getD_of {T : Array Value} {i : Nat} {v : Value} (h : T[i]? = some v) : T.getD i undef = v := by rw [Array.getD_eq_getD_getElem?, h]; rfl
theorem at_set {T : Array Value} {i : Nat} (v : Value) (h : i < T.size) : (T.setIfInBounds i v)[i]? = some v := by simp [h]
theorem at_set_ne {T : Array Value} {i j : Nat} (v : Value) (h : j ≠ i) : (T.setIfInBounds i v)[j]? = T[j]? := by rw [Array.getElem?_setIfInBounds_ne (fun e => h e.symm)]
theorem skip5 {ops : Array Oper} {rest : List Oper} {o1 o2 o3 o4 o5 : Oper} {T : Array Value} {df : List Deferred} {w : World} {Q : Exit → Act → World → Prop} {g j d : Nat} (hg : (ops[g]?).bind (·.dst) = some j) (hj : T[j]? = some (.bool false)) (hjd : j < d)
    (g1 : o1.guard = some (g, true)) (g2 : o2.guard = some (g, true)) (g3 : o3.guard = some (g, true)) (g4 : o4.guard = some (g, true)) (g5 : o5.guard = some (g, true))
    (d1 : o1.dst = some d) (d2 : o2.dst = some (d + 1)) (d3 : o3.dst = some (d + 2)) (d4 : o4.dst = some (d + 3)) (d5 : o5.dst = some (d + 4))
    (hk : ∀ T' : Array Value, T'.size = T.size → (∀ i, i < d → T'[i]? = T[i]?) → wpList Tryz.prog ops Q rest ⟨T', df⟩ w) : wpList Tryz.prog ops Q (o1 :: o2 :: o3 :: o4 :: o5 :: rest) ⟨T, df⟩ w := by
  have e1 : (T.setIfInBounds d undef)[j]? = some (.bool false) := (at_set_ne _ (by omega)).trans hj
  have e2 : ((T.setIfInBounds d undef).setIfInBounds (d + 1) undef)[j]? = some (.bool false) := (at_set_ne _ (by omega)).trans e1
  have e3 : (((T.setIfInBounds d undef).setIfInBounds (d + 1) undef).setIfInBounds (d + 2) undef)[j]? = some (.bool false) := (at_set_ne _ (by omega)).trans e2
  have e4 : ((((T.setIfInBounds d undef).setIfInBounds (d + 1) undef).setIfInBounds (d + 2) undef).setIfInBounds (d + 3) undef)[j]? = some (.bool false) := (at_set_ne _ (by omega)).trans e3
  refine wpList_skip (want_at g1 hg hj) ?_
  rw [d1]
  refine wpList_skip (want_at g2 hg e1) ?_
  rw [d2]
  refine wpList_skip (want_at g3 hg e2) ?_
  rw [d3]
  refine wpList_skip (want_at g4 hg e3) ?_
  rw [d4]
  refine wpList_skip (want_at g5 hg e4) ?_
  rw [d5]
  simp only [Act.put]
  refine hk _ (by simp) (fun i hi => ?_)
  rw [at_set_ne _ (by omega), at_set_ne _ (by omega), at_set_ne _ (by omega), at_set_ne _ (by omega), at_set_ne _ (by omega)]
theorem pick2 {ops : Array Oper} {rest : List Oper} {o6 o7 : Oper} {T : Array Value} {df : List Deferred} {w : World} {Q : Exit → Act → World → Prop} {j d : Nat} {b c : Bool} {v : Value} (hjd : j < d) (hsz : d + 2 < T.size) (hj : T[j]? = some (.bool b)) (hv : T[d]? = some v) (hc : b = true → v = .bool c)
    (g6 : o6.guard = none) (g7 : o7.guard = none) (e6 : o6.op = .pick (.tmp j) (.tmp d) (.const (.bool false))) (e7 : o7.op = .move (.tmp (d + 1))) (d6 : o6.dst = some (d + 1)) (d7 : o7.dst = some (d + 2))
    (hk : ∀ T' : Array Value, T'.size = T.size → (∀ i, i < d → T'[i]? = T[i]?) → T'[d + 2]? = some (.bool (b && c)) → wpList Tryz.prog ops Q rest ⟨T', df⟩ w) : wpList Tryz.prog ops Q (o6 :: o7 :: rest) ⟨T, df⟩ w := by
  refine wl_val (v := .bool (b && c)) (want_none g6) ?_ ?_
  · unfold execOp
    simp only [e6, Act.eval, getD_of hj, getD_of hv]
    cases b
    · rfl
    · rw [hc rfl]; cases c <;> rfl
  rw [d6]
  have s1 : (T.setIfInBounds (d + 1) (.bool (b && c)))[d + 1]? = some (.bool (b && c)) := at_set _ (by omega)
  refine wl_val (v := .bool (b && c)) (want_none g7) ?_ ?_
  · unfold execOp
    simp only [e7, Act.eval, Act.put, getD_of s1]
    rfl
  rw [d7]
  simp only [Act.put]
  refine hk _ (by simp) (fun i hi => ?_) ?_
  · rw [at_set_ne _ (by omega), at_set_ne _ (by omega)]
  · exact at_set _ (by simp; omega)
theorem eq5 {ops : Array Oper} {rest : List Oper} {o1 o2 o3 o4 o5 : Oper} {T : Array Value} {df : List Deferred} {w : World} {Q : Exit → Act → World → Prop} {d f : Nat} {ty ty' : TypeId} {p1 p2 u1 u2 x y : Value} {c : Bool} (hd : 3 < d) (hsz : d + 4 < T.size) (h2 : T[2]? = some p1) (h3 : T[3]? = some p2)
    (w1 : ∀ T' : Array Value, (∀ i, i < d → T'[i]? = T[i]?) → Region.wanted o1 (yielded ops T') = true ∧ Region.wanted o2 (yielded ops T') = true ∧ Region.wanted o3 (yielded ops T') = true ∧ Region.wanted o4 (yielded ops T') = true ∧ Region.wanted o5 (yielded ops T') = true)
    (e1 : o1.op = .fieldAddr 38 (.tmp 2) f) (e2 : o2.op = .load ty (.tmp d)) (e3 : o3.op = .fieldAddr 38 (.tmp 3) f) (e4 : o4.op = .load ty (.tmp (d + 2))) (e5 : o5.op = .binOp .eql ty (.tmp (d + 1)) (.tmp (d + 3)) ty')
    (d1 : o1.dst = some d) (d2 : o2.dst = some (d + 1)) (d3 : o3.dst = some (d + 2)) (d4 : o4.dst = some (d + 3)) (d5 : o5.dst = some (d + 4))
    (r1 : (Instr.fieldAt 38 p1 f).run Tryz.prog w = .ok u1 w) (r2 : (Instr.loadAt ty u1).run Tryz.prog w = .ok x w) (r3 : (Instr.fieldAt 38 p2 f).run Tryz.prog w = .ok u2 w) (r4 : (Instr.loadAt ty u2).run Tryz.prog w = .ok y w)
    (r5 : (do eqGuard .eql ty (.tmp (d + 1)) (.tmp (d + 3)) x y; binOp .eql ty x y : Sem Value).run Tryz.prog w = .ok (.bool c) w)
    (hk : ∀ T' : Array Value, T'.size = T.size → (∀ i, i < d → T'[i]? = T[i]?) → T'[d + 4]? = some (.bool c) → wpList Tryz.prog ops Q rest ⟨T', df⟩ w) : wpList Tryz.prog ops Q (o1 :: o2 :: o3 :: o4 :: o5 :: rest) ⟨T, df⟩ w := by
  refine wl_val (v := u1) (w1 T (fun _ _ => rfl)).1 ?_ ?_
  · unfold execOp
    simp only [e1, Act.eval, getD_of h2, Sem.run_bind, r1, Result.andThen_ok]
    rfl
  rw [d1]
  have k1 : ∀ i, i < d → (T.setIfInBounds d u1)[i]? = T[i]? := fun i hi => at_set_ne _ (by omega)
  have s1 : (T.setIfInBounds d u1)[d]? = some u1 := at_set _ (by omega)
  refine wl_val (v := x) (w1 _ k1).2.1 ?_ ?_
  · unfold execOp
    simp only [e2, Act.eval, Act.put, getD_of s1, Sem.run_bind, r2, Result.andThen_ok]
    rfl
  rw [d2]
  show wpList _ _ _ _ ⟨(T.setIfInBounds d u1).setIfInBounds (d + 1) x, df⟩ w
  generalize hT2 : (T.setIfInBounds d u1).setIfInBounds (d + 1) x = T2
  have k2 : ∀ i, i < d → T2[i]? = T[i]? := fun i hi => by rw [← hT2, at_set_ne _ (by omega)]; exact k1 i hi
  have s2 : T2[d + 1]? = some x := by rw [← hT2]; exact at_set _ (by simp; omega)
  have z2 : T2.size = T.size := by rw [← hT2]; simp
  clear hT2 s1 k1
  refine wl_val (v := u2) (w1 _ k2).2.2.1 ?_ ?_
  · unfold execOp
    simp only [e3, Act.eval, getD_of ((k2 3 hd).trans h3), Sem.run_bind, r3, Result.andThen_ok]
    rfl
  rw [d3]
  show wpList _ _ _ _ ⟨T2.setIfInBounds (d + 2) u2, df⟩ w
  have k3 : ∀ i, i < d → (T2.setIfInBounds (d + 2) u2)[i]? = T[i]? := fun i hi => by rw [at_set_ne _ (by omega)]; exact k2 i hi
  have s3 : (T2.setIfInBounds (d + 2) u2)[d + 2]? = some u2 := at_set _ (by omega)
  refine wl_val (v := y) (w1 _ k3).2.2.2.1 ?_ ?_
  · unfold execOp
    simp only [e4, Act.eval, getD_of s3, Sem.run_bind, r4, Result.andThen_ok]
    rfl
  rw [d4]
  show wpList _ _ _ _ ⟨(T2.setIfInBounds (d + 2) u2).setIfInBounds (d + 3) y, df⟩ w
  generalize hT4 : (T2.setIfInBounds (d + 2) u2).setIfInBounds (d + 3) y = T4
  have k4 : ∀ i, i < d → T4[i]? = T[i]? := fun i hi => by rw [← hT4, at_set_ne _ (by omega)]; exact k3 i hi
  have s4 : T4[d + 3]? = some y := by rw [← hT4]; exact at_set _ (by simp; omega)
  have s4' : T4[d + 1]? = some x := by rw [← hT4, at_set_ne _ (by omega), at_set_ne _ (by omega)]; exact s2
  have z4 : T4.size = T.size := by rw [← hT4]; simp [z2]
  clear hT4 s3 k3 s2 z2 k2
  refine wl_val (v := .bool c) (w1 _ k4).2.2.2.2 ?_ ?_
  · unfold execOp
    simp only [e5, Act.eval, getD_of s4, getD_of s4']
    rw [Sem.run_bind, r5]
    rfl
  rw [d5]
  simp only [Act.put]
  exact hk _ (by simp [z4]) (fun i hi => by rw [at_set_ne _ (by omega)]; exact k4 i hi) (at_set _ (by omega))
theorem conj7 {ops : Array Oper} {rest : List Oper} {o1 o2 o3 o4 o5 o6 o7 : Oper} {T : Array Value} {df : List Deferred} {w : World} {Q : Exit → Act → World → Prop} {g j d f : Nat} {ty ty' : TypeId} {p1 p2 u1 u2 x y : Value} {b c : Bool} (hd : 3 < d) (hjd : j < d) (hsz : d + 6 < T.size) (h2 : T[2]? = some p1) (h3 : T[3]? = some p2) (hj : T[j]? = some (.bool b)) (hg : (ops[g]?).bind (·.dst) = some j)
    (g1 : o1.guard = some (g, true)) (g2 : o2.guard = some (g, true)) (g3 : o3.guard = some (g, true)) (g4 : o4.guard = some (g, true)) (g5 : o5.guard = some (g, true)) (g6 : o6.guard = none) (g7 : o7.guard = none)
    (e1 : o1.op = .fieldAddr 38 (.tmp 2) f) (e2 : o2.op = .load ty (.tmp d)) (e3 : o3.op = .fieldAddr 38 (.tmp 3) f) (e4 : o4.op = .load ty (.tmp (d + 2))) (e5 : o5.op = .binOp .eql ty (.tmp (d + 1)) (.tmp (d + 3)) ty')
    (e6 : o6.op = .pick (.tmp j) (.tmp (d + 4)) (.const (.bool false))) (e7 : o7.op = .move (.tmp (d + 5)))
    (d1 : o1.dst = some d) (d2 : o2.dst = some (d + 1)) (d3 : o3.dst = some (d + 2)) (d4 : o4.dst = some (d + 3)) (d5 : o5.dst = some (d + 4)) (d6 : o6.dst = some (d + 5)) (d7 : o7.dst = some (d + 6))
    (r1 : (Instr.fieldAt 38 p1 f).run Tryz.prog w = .ok u1 w) (r2 : (Instr.loadAt ty u1).run Tryz.prog w = .ok x w) (r3 : (Instr.fieldAt 38 p2 f).run Tryz.prog w = .ok u2 w) (r4 : (Instr.loadAt ty u2).run Tryz.prog w = .ok y w)
    (r5 : (do eqGuard .eql ty (.tmp (d + 1)) (.tmp (d + 3)) x y; binOp .eql ty x y : Sem Value).run Tryz.prog w = .ok (.bool c) w)
    (hk : ∀ T' : Array Value, T'.size = T.size → (∀ i, i < d → T'[i]? = T[i]?) → T'[d + 6]? = some (.bool (b && c)) → wpList Tryz.prog ops Q rest ⟨T', df⟩ w) : wpList Tryz.prog ops Q (o1 :: o2 :: o3 :: o4 :: o5 :: o6 :: o7 :: rest) ⟨T, df⟩ w := by
  cases b with
  | false =>
    refine skip5 hg hj hjd g1 g2 g3 g4 g5 d1 d2 d3 d4 d5 (fun T1 z1 k1 => ?_)
    obtain ⟨v, hv⟩ : ∃ v, T1[d + 4]? = some v := ⟨_, Array.getElem?_eq_getElem (by omega)⟩
    exact pick2 (c := c) (by omega) (by omega) ((k1 j hjd).trans hj) hv (fun e => by cases e) g6 g7 e6 e7 d6 d7 (fun T2 z2 k2 s2 => hk T2 (z2.trans z1) (fun i hi => (k2 i (by omega)).trans (k1 i hi)) s2)
  | true =>
    refine eq5 hd (by omega) h2 h3 (fun T' k' => ?_) e1 e2 e3 e4 e5 d1 d2 d3 d4 d5 r1 r2 r3 r4 r5 (fun T1 z1 k1 s1 => ?_)
    · have hj' := (k' j hjd).trans hj
      exact ⟨want_at g1 hg hj', want_at g2 hg hj', want_at g3 hg hj', want_at g4 hg hj', want_at g5 hg hj'⟩
    · exact pick2 (c := c) (by omega) (by omega) ((k1 j hjd).trans hj) s1 (fun _ => rfl) g6 g7 e6 e7 d6 d7 (fun T2 z2 k2 s2 => hk T2 (z2.trans z1) (fun i hi => (k2 i (by omega)).trans (k1 i hi)) s2)
theorem call5 {ops : Array Oper} {rest : List Oper} {o1 o2 o3 o4 o5 : Oper} {T : Array Value} {df : List Deferred} {w : World} {Q : Exit → Act → World → Prop} {d f : Nat} {ty : TypeId} {fid : FuncId} {p1 p2 u1 u2 x y : Value} {c : Bool} (hd : 3 < d) (hsz : d + 4 < T.size) (h2 : T[2]? = some p1) (h3 : T[3]? = some p2)
    (w1 : ∀ T' : Array Value, (∀ i, i < d → T'[i]? = T[i]?) → Region.wanted o1 (yielded ops T') = true ∧ Region.wanted o2 (yielded ops T') = true ∧ Region.wanted o3 (yielded ops T') = true ∧ Region.wanted o4 (yielded ops T') = true ∧ Region.wanted o5 (yielded ops T') = true)
    (e1 : o1.op = .fieldAddr 38 (.tmp 2) f) (e2 : o2.op = .load ty (.tmp d)) (e3 : o3.op = .fieldAddr 38 (.tmp 3) f) (e4 : o4.op = .load ty (.tmp (d + 2))) (e5 : ∀ a : Act, a.eval (.tmp (d + 1)) = x → a.eval (.tmp (d + 3)) = y → (execOp a.eval o5).run Tryz.prog w = .ok (.enter fid #[x, y]) w)
    (d1 : o1.dst = some d) (d2 : o2.dst = some (d + 1)) (d3 : o3.dst = some (d + 2)) (d4 : o4.dst = some (d + 3)) (d5 : o5.dst = some (d + 4))
    (r1 : (Instr.fieldAt 38 p1 f).run Tryz.prog w = .ok u1 w) (r2 : (Instr.loadAt ty u1).run Tryz.prog w = .ok x w) (r3 : (Instr.fieldAt 38 p2 f).run Tryz.prog w = .ok u2 w) (r4 : (Instr.loadAt ty u2).run Tryz.prog w = .ok y w)
    (r5 : Calls Tryz.prog fid #[x, y] w fun e w' => e = .returned (.bool c) ∧ ∃ k, w' = w.drewN k)
    (hk : ∀ (T' : Array Value) (k : Nat), T'.size = T.size → (∀ i, i < d → T'[i]? = T[i]?) → T'[d + 4]? = some (.bool c) → wpList Tryz.prog ops Q rest ⟨T', df⟩ (w.drewN k)) : wpList Tryz.prog ops Q (o1 :: o2 :: o3 :: o4 :: o5 :: rest) ⟨T, df⟩ w := by
  refine wl_val (v := u1) (w1 T (fun _ _ => rfl)).1 ?_ ?_
  · unfold execOp
    simp only [e1, Act.eval, getD_of h2, Sem.run_bind, r1, Result.andThen_ok]
    rfl
  rw [d1]
  have k1 : ∀ i, i < d → (T.setIfInBounds d u1)[i]? = T[i]? := fun i hi => at_set_ne _ (by omega)
  have s1 : (T.setIfInBounds d u1)[d]? = some u1 := at_set _ (by omega)
  refine wl_val (v := x) (w1 _ k1).2.1 ?_ ?_
  · unfold execOp
    simp only [e2, Act.eval, Act.put, getD_of s1, Sem.run_bind, r2, Result.andThen_ok]
    rfl
  rw [d2]
  show wpList _ _ _ _ ⟨(T.setIfInBounds d u1).setIfInBounds (d + 1) x, df⟩ w
  generalize hT2 : (T.setIfInBounds d u1).setIfInBounds (d + 1) x = T2
  have k2 : ∀ i, i < d → T2[i]? = T[i]? := fun i hi => by rw [← hT2, at_set_ne _ (by omega)]; exact k1 i hi
  have s2 : T2[d + 1]? = some x := by rw [← hT2]; exact at_set _ (by simp; omega)
  have z2 : T2.size = T.size := by rw [← hT2]; simp
  clear hT2 s1 k1
  refine wl_val (v := u2) (w1 _ k2).2.2.1 ?_ ?_
  · unfold execOp
    simp only [e3, Act.eval, getD_of ((k2 3 hd).trans h3), Sem.run_bind, r3, Result.andThen_ok]
    rfl
  rw [d3]
  show wpList _ _ _ _ ⟨T2.setIfInBounds (d + 2) u2, df⟩ w
  have k3 : ∀ i, i < d → (T2.setIfInBounds (d + 2) u2)[i]? = T[i]? := fun i hi => by rw [at_set_ne _ (by omega)]; exact k2 i hi
  have s3 : (T2.setIfInBounds (d + 2) u2)[d + 2]? = some u2 := at_set _ (by omega)
  refine wl_val (v := y) (w1 _ k3).2.2.2.1 ?_ ?_
  · unfold execOp
    simp only [e4, Act.eval, getD_of s3, Sem.run_bind, r4, Result.andThen_ok]
    rfl
  rw [d4]
  show wpList _ _ _ _ ⟨(T2.setIfInBounds (d + 2) u2).setIfInBounds (d + 3) y, df⟩ w
  generalize hT4 : (T2.setIfInBounds (d + 2) u2).setIfInBounds (d + 3) y = T4
  have k4 : ∀ i, i < d → T4[i]? = T[i]? := fun i hi => by rw [← hT4, at_set_ne _ (by omega)]; exact k3 i hi
  have s4 : T4[d + 3]? = some y := by rw [← hT4]; exact at_set _ (by simp; omega)
  have s4' : T4[d + 1]? = some x := by rw [← hT4, at_set_ne _ (by omega), at_set_ne _ (by omega)]; exact s2
  have z4 : T4.size = T.size := by rw [← hT4]; simp [z2]
  clear hT4 s3 k3 s2 z2 k2
  refine BigFrame.wpList_want (w1 _ k4).2.2.2.2 (fun K hK => ?_)
  have hr : (execOp (⟨T4, df⟩ : Act).eval o5).run Tryz.prog w = .ok (.enter fid #[x, y]) w := e5 _ (getD_of s4') (getD_of s4)
  unfold Oper.wp
  rw [hr, Oper.upon_enter]
  refine r5.mono ?_
  rintro e w' ⟨rfl, n, rfl⟩
  refine hK _ _ ?_
  rw [d5]
  simp only [Act.put]
  exact hk _ n (by simp [z4]) (fun i hi => by rw [at_set_ne _ (by omega)]; exact k4 i hi) (at_set _ (by omega))
theorem conjC7 {ops : Array Oper} {rest : List Oper} {o1 o2 o3 o4 o5 o6 o7 : Oper} {T : Array Value} {df : List Deferred} {w : World} {Q : Exit → Act → World → Prop} {g j d f : Nat} {ty : TypeId} {fid : FuncId} {p1 p2 u1 u2 x y : Value} {b c : Bool} (hd : 3 < d) (hjd : j < d) (hsz : d + 6 < T.size) (h2 : T[2]? = some p1) (h3 : T[3]? = some p2) (hj : T[j]? = some (.bool b)) (hg : (ops[g]?).bind (·.dst) = some j)
    (g1 : o1.guard = some (g, true)) (g2 : o2.guard = some (g, true)) (g3 : o3.guard = some (g, true)) (g4 : o4.guard = some (g, true)) (g5 : o5.guard = some (g, true)) (g6 : o6.guard = none) (g7 : o7.guard = none)
    (e1 : o1.op = .fieldAddr 38 (.tmp 2) f) (e2 : o2.op = .load ty (.tmp d)) (e3 : o3.op = .fieldAddr 38 (.tmp 3) f) (e4 : o4.op = .load ty (.tmp (d + 2))) (e5 : ∀ a : Act, a.eval (.tmp (d + 1)) = x → a.eval (.tmp (d + 3)) = y → (execOp a.eval o5).run Tryz.prog w = .ok (.enter fid #[x, y]) w)
    (e6 : o6.op = .pick (.tmp j) (.tmp (d + 4)) (.const (.bool false))) (e7 : o7.op = .move (.tmp (d + 5)))
    (d1 : o1.dst = some d) (d2 : o2.dst = some (d + 1)) (d3 : o3.dst = some (d + 2)) (d4 : o4.dst = some (d + 3)) (d5 : o5.dst = some (d + 4)) (d6 : o6.dst = some (d + 5)) (d7 : o7.dst = some (d + 6))
    (r1 : (Instr.fieldAt 38 p1 f).run Tryz.prog w = .ok u1 w) (r2 : (Instr.loadAt ty u1).run Tryz.prog w = .ok x w) (r3 : (Instr.fieldAt 38 p2 f).run Tryz.prog w = .ok u2 w) (r4 : (Instr.loadAt ty u2).run Tryz.prog w = .ok y w)
    (r5 : Calls Tryz.prog fid #[x, y] w fun e w' => e = .returned (.bool c) ∧ ∃ k, w' = w.drewN k)
    (hk : ∀ (T' : Array Value) (k : Nat), T'.size = T.size → (∀ i, i < d → T'[i]? = T[i]?) → T'[d + 6]? = some (.bool (b && c)) → wpList Tryz.prog ops Q rest ⟨T', df⟩ (w.drewN k)) : wpList Tryz.prog ops Q (o1 :: o2 :: o3 :: o4 :: o5 :: o6 :: o7 :: rest) ⟨T, df⟩ w := by
  cases b with
  | false =>
    refine skip5 hg hj hjd g1 g2 g3 g4 g5 d1 d2 d3 d4 d5 (fun T1 z1 k1 => ?_)
    obtain ⟨v, hv⟩ : ∃ v, T1[d + 4]? = some v := ⟨_, Array.getElem?_eq_getElem (by omega)⟩
    exact pick2 (c := c) (by omega) (by omega) ((k1 j hjd).trans hj) hv (fun e => by cases e) g6 g7 e6 e7 d6 d7 (fun T2 z2 k2 s2 => hk T2 0 (z2.trans z1) (fun i hi => (k2 i (by omega)).trans (k1 i hi)) s2)
  | true =>
    refine call5 hd (by omega) h2 h3 (fun T' k' => ?_) e1 e2 e3 e4 e5 d1 d2 d3 d4 d5 r1 r2 r3 r4 r5 (fun T1 n z1 k1 s1 => ?_)
    · have hj' := (k' j hjd).trans hj
      exact ⟨want_at g1 hg hj', want_at g2 hg hj', want_at g3 hg hj', want_at g4 hg hj', want_at g5 hg hj'⟩
    · exact pick2 (c := c) (by omega) (by omega) ((k1 j hjd).trans hj) s1 (fun _ => rfl) g6 g7 e6 e7 d6 d7 (fun T2 z2 k2 s2 => hk T2 n (z2.trans z1) (fun i hi => (k2 i (by omega)).trans (k1 i hi)) s2)
theorem pick4 {ops : Array Oper} {o6 o7 : Oper} {T : Array Value} {df : List Deferred} {w : World} {Q : Exit → Act → World → Prop} {j d : Nat} {b c : Bool} {v : Value} (hjd : j < d) (h4 : 4 < d) (hsz : d + 1 < T.size) (hj : T[j]? = some (.bool b)) (hv : T[d]? = some v) (hc : b = true → v = .bool c)
    (g6 : o6.guard = none) (g7 : o7.guard = none) (e6 : o6.op = .pick (.tmp j) (.tmp d) (.const (.bool false))) (e7 : o7.op = .assign (.tmp (d + 1))) (d6 : o6.dst = some (d + 1)) (d7 : o7.dst = some 4)
    (hk : ∀ T' : Array Value, T'[4]? = some (.bool (b && c)) → Q .normal ⟨T', df⟩ w) : wpList Tryz.prog ops Q [o6, o7] ⟨T, df⟩ w := by
  refine wl_val (v := .bool (b && c)) (want_none g6) ?_ ?_
  · unfold execOp
    simp only [e6, Act.eval, getD_of hj, getD_of hv]
    cases b
    · rfl
    · rw [hc rfl]; cases c <;> rfl
  rw [d6]
  have s1 : (T.setIfInBounds (d + 1) (.bool (b && c)))[d + 1]? = some (.bool (b && c)) := at_set _ (by omega)
  refine wl_val (v := .bool (b && c)) (want_none g7) ?_ ?_
  · unfold execOp
    simp only [e7, Act.eval, Act.put, getD_of s1]
    rfl
  rw [d7]
  simp only [Act.put]
  exact wpList_nil (hk _ (at_set _ (by simp; omega)))
theorem conjC4 {ops : Array Oper} {o1 o2 o3 o4 o5 o6 o7 : Oper} {T : Array Value} {df : List Deferred} {w : World} {Q : Exit → Act → World → Prop} {g j d f : Nat} {ty : TypeId} {fid : FuncId} {p1 p2 u1 u2 x y : Value} {b c : Bool} (hd : 4 < d) (hjd : j < d) (hsz : d + 5 < T.size) (h2 : T[2]? = some p1) (h3 : T[3]? = some p2) (hj : T[j]? = some (.bool b)) (hg : (ops[g]?).bind (·.dst) = some j)
    (g1 : o1.guard = some (g, true)) (g2 : o2.guard = some (g, true)) (g3 : o3.guard = some (g, true)) (g4 : o4.guard = some (g, true)) (g5 : o5.guard = some (g, true)) (g6 : o6.guard = none) (g7 : o7.guard = none)
    (e1 : o1.op = .fieldAddr 38 (.tmp 2) f) (e2 : o2.op = .load ty (.tmp d)) (e3 : o3.op = .fieldAddr 38 (.tmp 3) f) (e4 : o4.op = .load ty (.tmp (d + 2))) (e5 : ∀ a : Act, a.eval (.tmp (d + 1)) = x → a.eval (.tmp (d + 3)) = y → (execOp a.eval o5).run Tryz.prog w = .ok (.enter fid #[x, y]) w)
    (e6 : o6.op = .pick (.tmp j) (.tmp (d + 4)) (.const (.bool false))) (e7 : o7.op = .assign (.tmp (d + 5)))
    (d1 : o1.dst = some d) (d2 : o2.dst = some (d + 1)) (d3 : o3.dst = some (d + 2)) (d4 : o4.dst = some (d + 3)) (d5 : o5.dst = some (d + 4)) (d6 : o6.dst = some (d + 5)) (d7 : o7.dst = some 4)
    (r1 : (Instr.fieldAt 38 p1 f).run Tryz.prog w = .ok u1 w) (r2 : (Instr.loadAt ty u1).run Tryz.prog w = .ok x w) (r3 : (Instr.fieldAt 38 p2 f).run Tryz.prog w = .ok u2 w) (r4 : (Instr.loadAt ty u2).run Tryz.prog w = .ok y w)
    (r5 : Calls Tryz.prog fid #[x, y] w fun e w' => e = .returned (.bool c) ∧ ∃ k, w' = w.drewN k)
    (hk : ∀ (T' : Array Value) (k : Nat), T'[4]? = some (.bool (b && c)) → Q .normal ⟨T', df⟩ (w.drewN k)) : wpList Tryz.prog ops Q (o1 :: o2 :: o3 :: o4 :: o5 :: [o6, o7]) ⟨T, df⟩ w := by
  cases b with
  | false =>
    refine skip5 hg hj hjd g1 g2 g3 g4 g5 d1 d2 d3 d4 d5 (fun T1 z1 k1 => ?_)
    obtain ⟨v, hv⟩ : ∃ v, T1[d + 4]? = some v := ⟨_, Array.getElem?_eq_getElem (by omega)⟩
    exact pick4 (c := c) (by omega) (by omega) (by omega) ((k1 j hjd).trans hj) hv (fun e => by cases e) g6 g7 e6 e7 d6 d7 (fun T2 s2 => hk T2 0 s2)
  | true =>
    refine call5 (by omega) (by omega) h2 h3 (fun T' k' => ?_) e1 e2 e3 e4 e5 d1 d2 d3 d4 d5 r1 r2 r3 r4 r5 (fun T1 n z1 k1 s1 => ?_)
    · have hj' := (k' j hjd).trans hj
      exact ⟨want_at g1 hg hj', want_at g2 hg hj', want_at g3 hg hj', want_at g4 hg hj', want_at g5 hg hj'⟩
    · exact pick4 (c := c) (by omega) (by omega) (by omega) ((k1 j hjd).trans hj) s1 (fun _ => rfl) g6 g7 e6 e7 d6 d7 (fun T2 s2 => hk T2 n s2)
theorem boxMk {ops : Array Oper} {rest : List Oper} {o : Oper} {a : Act} {w : World} {Q : Exit → Act → World → Prop} (hgd : o.guard = none) (x : Operand) (ho : o.op = .box 38 x) (m : Mg) (s t : Value) (hx : a.eval x = m.val s t)
    (hk : ∀ p w', p = w.heap.size → MBox w' p m s t → Below w.heap.size w w' → w'.heap.size = p + 1 → wpList Tryz.prog ops Q rest (a.put o.dst (.pointer (some ⟨p, 0, none⟩))) w') : wpList Tryz.prog ops Q (o :: rest) a w :=
  boxM hgd x ho m s t hx (hk _ _ rfl (MBox.new w m s t) ((Below.refl _ _).alloc (Nat.le_refl _) _) (by simp))
def enM (a b : En) : Bool := decide (a.c = b.c) && (decide (a.n = b.n) && (decide (a.o.k = b.o.k) && (decide (a.o.s = b.o.s) && decide (a.o.v.data = b.o.v.data))))
theorem enM_iff (a b : En) : enM a b = true ↔ a = b := by
  obtain ⟨c, n, ⟨k, s, ⟨v⟩⟩⟩ := a
  obtain ⟨c', n', ⟨k', s', ⟨v'⟩⟩⟩ := b
  simp only [enM, Bool.and_eq_true, decide_eq_true_eq, En.mk.injEq, Opn.mk.injEq, ByteArray.mk.injEq]
def leM : List En → List En → Bool
  | [], [] => true
  | a :: r, b :: s => enM a b && leM r s
  | _, _ => false
theorem leM_iff : ∀ A B : List En, leM A B = true ↔ A = B
  | [], [] => by simp [leM]
  | a :: r, b :: s => by simp [leM, enM_iff, leM_iff r s]
  | [], b :: s => by simp [leM]
  | a :: r, [] => by simp [leM]
def sameM (m m' : Mg) (L L' : List En) (D D' : List (Int × Int)) : Bool := decide (m.k = m'.k) && (decide (m.nd = m'.nd) && (decide (m.vw = m'.vw) && (enM m.e m'.e && (decide (m.r.1 = m'.r.1) && (decide (m.r.2.1 = m'.r.2.1) && (decide (m.r.2.2.data = m'.r.2.2.data) && (decide (m.p = m'.p) && (decide (m.cm = m'.cm) && (decide (m.ls = m'.ls) && (decide (m.d = m'.d) && (leM L L' && decide (D = D'))))))))))))
theorem sameM_iff (m m' : Mg) (L L' : List En) (D D' : List (Int × Int)) : sameM m m' L L' D D' = true ↔ (m = m' ∧ L = L' ∧ D = D') := by
  obtain ⟨k, nd, vw, e, ⟨r1, r2, ⟨r3⟩⟩, p, cm, ls, d⟩ := m
  obtain ⟨k', nd', vw', e', ⟨r1', r2', ⟨r3'⟩⟩, p', cm', ls', d'⟩ := m'
  simp only [sameM, Bool.and_eq_true, decide_eq_true_eq, enM_iff, leM_iff, Mg.mk.injEq, Prod.mk.injEq, ByteArray.mk.injEq]
  constructor
  · rintro ⟨h1, h2, h3, h4, h5, h6, h7, h8, h9, h10, h11, h12, h13⟩
    exact ⟨⟨h1, h2, h3, h4, ⟨h5, h6, h7⟩, h8, h9, h10, h11⟩, h12, h13⟩
  · rintro ⟨⟨h1, h2, h3, h4, ⟨h5, h6, h7⟩, h8, h9, h10, h11⟩, h12, h13⟩
    exact ⟨h1, h2, h3, h4, h5, h6, h7, h8, h9, h10, h11, h12, h13⟩
theorem eqlI (ty : TypeId) (x y : Operand) (hu : Tryz.prog.underlying ty = some (.int .i64)) (a b : Int) (w : World) : (do eqGuard .eql ty x y (.int .i64 a) (.int .i64 b); binOp .eql ty (.int .i64 a) (.int .i64 b) : Sem Value).run Tryz.prog w = .ok (.bool (decide (a = b))) w := by
  go_simp
  by_cases h : a = b <;> simp [h]
theorem eqlEn (x y : Operand) (e e' : En) (w : World) : (do eqGuard .eql 28 x y (.agg #[.int .i64 e.c, .int .i64 e.n, .int .i64 e.o.k, .int .i64 e.o.s, .string e.o.v]) (.agg #[.int .i64 e'.c, .int .i64 e'.n, .int .i64 e'.o.k, .int .i64 e'.o.s, .string e'.o.v]); binOp .eql 28 (.agg #[.int .i64 e.c, .int .i64 e.n, .int .i64 e.o.k, .int .i64 e.o.s, .string e.o.v]) (.agg #[.int .i64 e'.c, .int .i64 e'.n, .int .i64 e'.o.k, .int .i64 e'.o.s, .string e'.o.v]) : Sem Value).run Tryz.prog w = .ok (.bool (decide (e = e'))) w := by
  obtain ⟨a, b, ⟨c, d, v⟩⟩ := e
  obtain ⟨a', b', ⟨c', d', v'⟩⟩ := e'
  go_simp
  by_cases e1 : a = a' <;> by_cases e2 : b = b' <;> by_cases e3 : c = c' <;> by_cases e4 : d = d' <;> by_cases e5 : v = v' <;> simp [e1, e2, e3, e4, e5, bytes_inj]
theorem eqlRs (x y : Operand) (r r' : Int × Int × ByteArray) (w : World) : (do eqGuard .eql 30 x y (.agg #[.int .i64 r.1, .int .i64 r.2.1, .string r.2.2]) (.agg #[.int .i64 r'.1, .int .i64 r'.2.1, .string r'.2.2]); binOp .eql 30 (.agg #[.int .i64 r.1, .int .i64 r.2.1, .string r.2.2]) (.agg #[.int .i64 r'.1, .int .i64 r'.2.1, .string r'.2.2]) : Sem Value).run Tryz.prog w = .ok (.bool (decide (r = r'))) w := by
  obtain ⟨a, b, v⟩ := r
  obtain ⟨a', b', v'⟩ := r'
  go_simp
  by_cases e1 : a = a' <;> by_cases e2 : b = b' <;> by_cases e5 : v = v' <;> simp [e1, e2, e5, bytes_inj]
theorem eqlDr (x y : Operand) (r r' : Int × Int) (w : World) : (do eqGuard .eql 33 x y (.agg #[.int .u64 r.1, .int .u64 r.2]) (.agg #[.int .u64 r'.1, .int .u64 r'.2]); binOp .eql 33 (.agg #[.int .u64 r.1, .int .u64 r.2]) (.agg #[.int .u64 r'.1, .int .u64 r'.2]) : Sem Value).run Tryz.prog w = .ok (.bool (decide (r = r'))) w := by
  obtain ⟨a, b⟩ := r
  obtain ⟨a', b'⟩ := r'
  go_simp
  by_cases e1 : a = a' <;> by_cases e2 : b = b' <;> simp [e1, e2]
theorem MBox.faKind (q : Nat) (w : World) : (Instr.fieldAt 38 (.pointer (some ⟨q, 0, none⟩)) 0).run Tryz.prog w = .ok (.pointer (some ⟨q, 0, none⟩)) w := by
  go_simp
theorem MBox.ldKind {w : World} {q : Nat} {m : Mg} {s t : Value} (h : MBox w q m s t) : (Instr.loadAt 24 (.pointer (some ⟨q, 0, none⟩))).run Tryz.prog w = .ok (.int .i64 m.k) w := by
  obtain ⟨x0, x1, x2, x3, x4, x5, x6, x7, x8, x9, x10, x11, x12, x13, x14, x15, x16, x17⟩ := h.all
  go_simp
theorem MBox.faNode (q : Nat) (w : World) : (Instr.fieldAt 38 (.pointer (some ⟨q, 0, none⟩)) 1).run Tryz.prog w = .ok (.pointer (some ⟨q, 1, none⟩)) w := by
  go_simp
theorem MBox.ldNode {w : World} {q : Nat} {m : Mg} {s t : Value} (h : MBox w q m s t) : (Instr.loadAt 3 (.pointer (some ⟨q, 1, none⟩))).run Tryz.prog w = .ok (.int .i64 m.nd) w := by
  obtain ⟨x0, x1, x2, x3, x4, x5, x6, x7, x8, x9, x10, x11, x12, x13, x14, x15, x16, x17⟩ := h.all
  go_simp
theorem MBox.faView (q : Nat) (w : World) : (Instr.fieldAt 38 (.pointer (some ⟨q, 0, none⟩)) 2).run Tryz.prog w = .ok (.pointer (some ⟨q, 2, none⟩)) w := by
  go_simp
theorem MBox.ldView {w : World} {q : Nat} {m : Mg} {s t : Value} (h : MBox w q m s t) : (Instr.loadAt 3 (.pointer (some ⟨q, 2, none⟩))).run Tryz.prog w = .ok (.int .i64 m.vw) w := by
  obtain ⟨x0, x1, x2, x3, x4, x5, x6, x7, x8, x9, x10, x11, x12, x13, x14, x15, x16, x17⟩ := h.all
  go_simp
theorem MBox.faEntry (q : Nat) (w : World) : (Instr.fieldAt 38 (.pointer (some ⟨q, 0, none⟩)) 3).run Tryz.prog w = .ok (.pointer (some ⟨q, 3, none⟩)) w := by
  go_simp
theorem MBox.ldEntry {w : World} {q : Nat} {m : Mg} {s t : Value} (h : MBox w q m s t) : (Instr.loadAt 28 (.pointer (some ⟨q, 3, none⟩))).run Tryz.prog w = .ok (.agg #[.int .i64 m.e.c, .int .i64 m.e.n, .int .i64 m.e.o.k, .int .i64 m.e.o.s, .string m.e.o.v]) w := by
  obtain ⟨x0, x1, x2, x3, x4, x5, x6, x7, x8, x9, x10, x11, x12, x13, x14, x15, x16, x17⟩ := h.all
  go_simp
theorem MBox.faResult (q : Nat) (w : World) : (Instr.fieldAt 38 (.pointer (some ⟨q, 0, none⟩)) 4).run Tryz.prog w = .ok (.pointer (some ⟨q, 8, none⟩)) w := by
  go_simp
theorem MBox.ldResult {w : World} {q : Nat} {m : Mg} {s t : Value} (h : MBox w q m s t) : (Instr.loadAt 30 (.pointer (some ⟨q, 8, none⟩))).run Tryz.prog w = .ok (.agg #[.int .i64 m.r.1, .int .i64 m.r.2.1, .string m.r.2.2]) w := by
  obtain ⟨x0, x1, x2, x3, x4, x5, x6, x7, x8, x9, x10, x11, x12, x13, x14, x15, x16, x17⟩ := h.all
  go_simp
theorem MBox.faPlace (q : Nat) (w : World) : (Instr.fieldAt 38 (.pointer (some ⟨q, 0, none⟩)) 5).run Tryz.prog w = .ok (.pointer (some ⟨q, 11, none⟩)) w := by
  go_simp
theorem MBox.ldPlace {w : World} {q : Nat} {m : Mg} {s t : Value} (h : MBox w q m s t) : (Instr.loadAt 3 (.pointer (some ⟨q, 11, none⟩))).run Tryz.prog w = .ok (.int .i64 m.p) w := by
  obtain ⟨x0, x1, x2, x3, x4, x5, x6, x7, x8, x9, x10, x11, x12, x13, x14, x15, x16, x17⟩ := h.all
  go_simp
theorem MBox.faCommit (q : Nat) (w : World) : (Instr.fieldAt 38 (.pointer (some ⟨q, 0, none⟩)) 6).run Tryz.prog w = .ok (.pointer (some ⟨q, 12, none⟩)) w := by
  go_simp
theorem MBox.ldCommit {w : World} {q : Nat} {m : Mg} {s t : Value} (h : MBox w q m s t) : (Instr.loadAt 3 (.pointer (some ⟨q, 12, none⟩))).run Tryz.prog w = .ok (.int .i64 m.cm) w := by
  obtain ⟨x0, x1, x2, x3, x4, x5, x6, x7, x8, x9, x10, x11, x12, x13, x14, x15, x16, x17⟩ := h.all
  go_simp
theorem MBox.faLast (q : Nat) (w : World) : (Instr.fieldAt 38 (.pointer (some ⟨q, 0, none⟩)) 7).run Tryz.prog w = .ok (.pointer (some ⟨q, 13, none⟩)) w := by
  go_simp
theorem MBox.ldLast {w : World} {q : Nat} {m : Mg} {s t : Value} (h : MBox w q m s t) : (Instr.loadAt 3 (.pointer (some ⟨q, 13, none⟩))).run Tryz.prog w = .ok (.int .i64 m.ls) w := by
  obtain ⟨x0, x1, x2, x3, x4, x5, x6, x7, x8, x9, x10, x11, x12, x13, x14, x15, x16, x17⟩ := h.all
  go_simp
theorem MBox.faDraw (q : Nat) (w : World) : (Instr.fieldAt 38 (.pointer (some ⟨q, 0, none⟩)) 8).run Tryz.prog w = .ok (.pointer (some ⟨q, 14, none⟩)) w := by
  go_simp
theorem MBox.ldDraw {w : World} {q : Nat} {m : Mg} {s t : Value} (h : MBox w q m s t) : (Instr.loadAt 33 (.pointer (some ⟨q, 14, none⟩))).run Tryz.prog w = .ok (.agg #[.int .u64 m.d.1, .int .u64 m.d.2]) w := by
  obtain ⟨x0, x1, x2, x3, x4, x5, x6, x7, x8, x9, x10, x11, x12, x13, x14, x15, x16, x17⟩ := h.all
  go_simp
theorem MBox.faLog (q : Nat) (w : World) : (Instr.fieldAt 38 (.pointer (some ⟨q, 0, none⟩)) 9).run Tryz.prog w = .ok (.pointer (some ⟨q, 16, none⟩)) w := by
  go_simp
theorem MBox.ldLog {w : World} {q : Nat} {m : Mg} {s t : Value} (h : MBox w q m s t) : (Instr.loadAt 34 (.pointer (some ⟨q, 16, none⟩))).run Tryz.prog w = .ok (s) w := by
  obtain ⟨x0, x1, x2, x3, x4, x5, x6, x7, x8, x9, x10, x11, x12, x13, x14, x15, x16, x17⟩ := h.all
  go_simp
theorem MBox.faVector (q : Nat) (w : World) : (Instr.fieldAt 38 (.pointer (some ⟨q, 0, none⟩)) 10).run Tryz.prog w = .ok (.pointer (some ⟨q, 17, none⟩)) w := by
  go_simp
theorem MBox.ldVector {w : World} {q : Nat} {m : Mg} {s t : Value} (h : MBox w q m s t) : (Instr.loadAt 36 (.pointer (some ⟨q, 17, none⟩))).run Tryz.prog w = .ok (t) w := by
  obtain ⟨x0, x1, x2, x3, x4, x5, x6, x7, x8, x9, x10, x11, x12, x13, x14, x15, x16, x17⟩ := h.all
  go_simp
theorem samemsg_bool (m m' : Mg) (L L' : List En) (D D' : List (Int × Int)) : (decide (m.k = m'.k) && decide (m.nd = m'.nd) && decide (m.vw = m'.vw) && decide (m.e = m'.e) && decide (m.r = m'.r) && decide (m.p = m'.p) && decide (m.cm = m'.cm) && decide (m.ls = m'.ls) && decide (m.d = m'.d) && decide (L = L') && decide (D = D')) = sameM m m' L L' D D' := by
  obtain ⟨k, nd, vw, e, r, p, cm, ls, d⟩ := m
  obtain ⟨k', nd', vw', e', r', p', cm', ls', d'⟩ := m'
  rw [Bool.eq_iff_iff, sameM_iff]
  simp only [Bool.and_eq_true, decide_eq_true_eq, Mg.mk.injEq]
  constructor
  · rintro ⟨⟨⟨⟨⟨⟨⟨⟨⟨⟨hk, hnd⟩, hvw⟩, he⟩, hr⟩, hp⟩, hcm⟩, hls⟩, hd⟩, hL⟩, hD⟩
    exact ⟨⟨hk, hnd, hvw, he, hr, hp, hcm, hls, hd⟩, hL, hD⟩
  · rintro ⟨⟨hk, hnd, hvw, he, hr, hp, hcm, hls, hd⟩, hL, hD⟩
    exact ⟨⟨⟨⟨⟨⟨⟨⟨⟨⟨hk, hnd⟩, hvw⟩, he⟩, hr⟩, hp⟩, hcm⟩, hls⟩, hd⟩, hL⟩, hD⟩
set_option maxHeartbeats 8000000 in
theorem samemsg_any (m m' : Mg) (a1 a2 b1 b2 : Option Addr) (n1 n2 m1 m2 c1 c2 e1 e2 : Nat) (L L' : List En) (D D' : List (Int × Int)) (w : World) (h1 : SlY yE w a1 n1 c1 L) (h2 : SlY yD w a2 n2 c2 D) (h3 : SlY yE w b1 m1 e1 L') (h4 : SlY yD w b2 m2 e2 D') :
    Calls Tryz.prog 22 #[m.val (.slice a1 n1 c1) (.slice a2 n2 c2), m'.val (.slice b1 m1 e1) (.slice b2 m2 e2)] w fun e w' => e = .returned (.bool (sameM m m' L L' D D')) ∧ Below w.heap.size w w' := by
  have HE := hide (fun (W : World) (hb : Below w.heap.size w W) => sameentsB L L' a1 b1 n1 m1 c1 e1 W (h1.later hb) (h3.later hb))
  have HD := hide (fun (W : World) (hb : Below w.heap.size w W) => samevecB D D' a2 b2 n2 m2 c2 e2 W (h2.later hb) (h4.later hb))
  clear h1 h2 h3 h4
  go_enter Tryz.func22, Tryz.ntmps22
  go_upto_region 1 with (first
    | (refine boxMk rfl (.tmp 0) rfl m _ _ rfl ?_; intro q1 w1 hq1 M1 b1' z1; subst hq1)
    | (refine boxMk rfl (.tmp 1) rfl m' _ _ rfl ?_; intro q2 w2 hq2 M2 b2' z2))
  have b2h : Below w1.heap.size w1 w2 := by first | exact b2' | (rw [z1]; exact b2')
  have hq3 : q2 = w.heap.size + 1 := by first | exact hq2 | exact hq2.trans z1
  subst hq3
  have HB := hide (b1'.trans (b2h.mono b1'.size))
  have A := hide (M1.bel b2h)
  have B := hide M2
  clear M1 M2 b1' b2' b2h z1 z2 hq2
  refine wp_region_lit ?_
  refine eq5 (d := 5) (f := 0) (p1 := .pointer (some ⟨w.heap.size, 0, none⟩)) (p2 := .pointer (some ⟨w.heap.size + 1, 0, none⟩)) (by decide) (Nat.lt_of_lt_of_eq (by decide : 9 < 80) rfl) rfl rfl (fun _ _ => ⟨rfl, rfl, rfl, rfl, rfl⟩) rfl rfl rfl rfl rfl rfl rfl rfl rfl rfl (MBox.faKind _ _) A.out.ldKind (MBox.faKind _ _) B.out.ldKind (eqlI _ _ _ Tryz.underlying24 _ _ _) (fun T1 z1 k1 s1 => ?_)
  have t2 : T1[2]? = some (.pointer (some ⟨w.heap.size, 0, none⟩)) := (k1 2 (by decide)).trans rfl
  have t3 : T1[3]? = some (.pointer (some ⟨w.heap.size + 1, 0, none⟩)) := (k1 3 (by decide)).trans rfl
  have hz : T1.size = 80 := z1.trans rfl
  clear k1 z1
  refine wl_val (v := .bool (decide (m.k = m'.k))) (want_none rfl) (by unfold execOp; simp only [Act.eval, getD_of s1]; rfl) ?_
  have s2 : (T1.setIfInBounds 10 (.bool (decide (m.k = m'.k))))[10]? = some (.bool (decide (m.k = m'.k))) := at_set _ (by omega)
  have q2 : (T1.setIfInBounds 10 (.bool (decide (m.k = m'.k))))[2]? = some (.pointer (some ⟨w.heap.size, 0, none⟩)) := (at_set_ne _ (by decide)).trans t2
  have q3 : (T1.setIfInBounds 10 (.bool (decide (m.k = m'.k))))[3]? = some (.pointer (some ⟨w.heap.size + 1, 0, none⟩)) := (at_set_ne _ (by decide)).trans t3
  have hz2 : (T1.setIfInBounds 10 (.bool (decide (m.k = m'.k)))).size = 80 := by simp [hz]
  show wpList _ _ _ _ ⟨T1.setIfInBounds 10 (.bool (decide (m.k = m'.k))), []⟩ _
  generalize T1.setIfInBounds 10 (.bool (decide (m.k = m'.k))) = S0 at s2 q2 q3 hz2 ⊢
  clear t2 t3 hz s1 T1
  refine conj7 (g := 5) (j := 10) (d := 11) (f := 1) (by decide) (by decide) (by omega) q2 q3 s2 rfl rfl rfl rfl rfl rfl rfl rfl rfl rfl rfl rfl rfl rfl rfl rfl rfl rfl rfl rfl rfl rfl (MBox.faNode _ _) A.out.ldNode (MBox.faNode _ _) B.out.ldNode (eqlI _ _ _ Tryz.underlying3 _ _ _) (fun S1 zz1 kk1 ss1 => ?_)
  have ta1 := (kk1 2 (by decide)).trans q2
  have tb1 := (kk1 3 (by decide)).trans q3
  have th1 := zz1.trans hz2
  clear zz1 kk1 q2 q3 s2 hz2 S0
  refine conj7 (g := 12) (j := 17) (d := 18) (f := 2) (by decide) (by decide) (by omega) ta1 tb1 ss1 rfl rfl rfl rfl rfl rfl rfl rfl rfl rfl rfl rfl rfl rfl rfl rfl rfl rfl rfl rfl rfl rfl (MBox.faView _ _) A.out.ldView (MBox.faView _ _) B.out.ldView (eqlI _ _ _ Tryz.underlying3 _ _ _) (fun S2 zz2 kk2 ss2 => ?_)
  have ta2 := (kk2 2 (by decide)).trans ta1
  have tb2 := (kk2 3 (by decide)).trans tb1
  have th2 := zz2.trans th1
  clear zz2 kk2 ta1 tb1 ss1 th1 S1
  refine conj7 (g := 19) (j := 24) (d := 25) (f := 3) (by decide) (by decide) (by omega) ta2 tb2 ss2 rfl rfl rfl rfl rfl rfl rfl rfl rfl rfl rfl rfl rfl rfl rfl rfl rfl rfl rfl rfl rfl rfl (MBox.faEntry _ _) A.out.ldEntry (MBox.faEntry _ _) B.out.ldEntry (eqlEn _ _ _ _ _) (fun S3 zz3 kk3 ss3 => ?_)
  have ta3 := (kk3 2 (by decide)).trans ta2
  have tb3 := (kk3 3 (by decide)).trans tb2
  have th3 := zz3.trans th2
  clear zz3 kk3 ta2 tb2 ss2 th2 S2
  refine conj7 (g := 26) (j := 31) (d := 32) (f := 4) (by decide) (by decide) (by omega) ta3 tb3 ss3 rfl rfl rfl rfl rfl rfl rfl rfl rfl rfl rfl rfl rfl rfl rfl rfl rfl rfl rfl rfl rfl rfl (MBox.faResult _ _) A.out.ldResult (MBox.faResult _ _) B.out.ldResult (eqlRs _ _ _ _ _) (fun S4 zz4 kk4 ss4 => ?_)
  have ta4 := (kk4 2 (by decide)).trans ta3
  have tb4 := (kk4 3 (by decide)).trans tb3
  have th4 := zz4.trans th3
  clear zz4 kk4 ta3 tb3 ss3 th3 S3
  refine conj7 (g := 33) (j := 38) (d := 39) (f := 5) (by decide) (by decide) (by omega) ta4 tb4 ss4 rfl rfl rfl rfl rfl rfl rfl rfl rfl rfl rfl rfl rfl rfl rfl rfl rfl rfl rfl rfl rfl rfl (MBox.faPlace _ _) A.out.ldPlace (MBox.faPlace _ _) B.out.ldPlace (eqlI _ _ _ Tryz.underlying3 _ _ _) (fun S5 zz5 kk5 ss5 => ?_)
  have ta5 := (kk5 2 (by decide)).trans ta4
  have tb5 := (kk5 3 (by decide)).trans tb4
  have th5 := zz5.trans th4
  clear zz5 kk5 ta4 tb4 ss4 th4 S4
  refine conj7 (g := 40) (j := 45) (d := 46) (f := 6) (by decide) (by decide) (by omega) ta5 tb5 ss5 rfl rfl rfl rfl rfl rfl rfl rfl rfl rfl rfl rfl rfl rfl rfl rfl rfl rfl rfl rfl rfl rfl (MBox.faCommit _ _) A.out.ldCommit (MBox.faCommit _ _) B.out.ldCommit (eqlI _ _ _ Tryz.underlying3 _ _ _) (fun S6 zz6 kk6 ss6 => ?_)
  have ta6 := (kk6 2 (by decide)).trans ta5
  have tb6 := (kk6 3 (by decide)).trans tb5
  have th6 := zz6.trans th5
  clear zz6 kk6 ta5 tb5 ss5 th5 S5
  refine conj7 (g := 47) (j := 52) (d := 53) (f := 7) (by decide) (by decide) (by omega) ta6 tb6 ss6 rfl rfl rfl rfl rfl rfl rfl rfl rfl rfl rfl rfl rfl rfl rfl rfl rfl rfl rfl rfl rfl rfl (MBox.faLast _ _) A.out.ldLast (MBox.faLast _ _) B.out.ldLast (eqlI _ _ _ Tryz.underlying3 _ _ _) (fun S7 zz7 kk7 ss7 => ?_)
  have ta7 := (kk7 2 (by decide)).trans ta6
  have tb7 := (kk7 3 (by decide)).trans tb6
  have th7 := zz7.trans th6
  clear zz7 kk7 ta6 tb6 ss6 th6 S6
  refine conj7 (g := 54) (j := 59) (d := 60) (f := 8) (by decide) (by decide) (by omega) ta7 tb7 ss7 rfl rfl rfl rfl rfl rfl rfl rfl rfl rfl rfl rfl rfl rfl rfl rfl rfl rfl rfl rfl rfl rfl (MBox.faDraw _ _) A.out.ldDraw (MBox.faDraw _ _) B.out.ldDraw (eqlDr _ _ _ _ _) (fun S8 zz8 kk8 ss8 => ?_)
  have ta8 := (kk8 2 (by decide)).trans ta7
  have tb8 := (kk8 3 (by decide)).trans tb7
  have th8 := zz8.trans th7
  clear zz8 kk8 ta7 tb7 ss7 th7 S7
  refine conjC7 (g := 61) (j := 66) (d := 67) (f := 9) (fid := 41) (by decide) (by decide) (by omega) ta8 tb8 ss8 rfl rfl rfl rfl rfl rfl rfl rfl rfl rfl rfl rfl (fun a h1 h2 => by unfold execOp; simp only [resolve, invoke, Sem.run_bind, List.map_toArray, List.map_cons, List.map_nil, h1, h2]; rfl) rfl rfl rfl rfl rfl rfl rfl rfl rfl (MBox.faLog _ _) A.out.ldLog (MBox.faLog _ _) B.out.ldLog (HE.out _ HB.out) (fun SL nl zl kl sl => ?_)
  have la := (kl 2 (by decide)).trans ta8
  have lb := (kl 3 (by decide)).trans tb8
  have lh := zl.trans th8
  have HB2 := hide (belN HB.out nl)
  have A2 := hide (A.out.bel (belN (Below.refl _ _) nl))
  have B2 := hide (B.out.bel (belN (Below.refl _ _) nl))
  clear zl kl ta8 tb8 ss8 th8 S8 A B HB HE
  refine conjC4 (g := 68) (j := 73) (d := 74) (f := 10) (fid := 40) (by decide) (by decide) (by omega) la lb sl rfl rfl rfl rfl rfl rfl rfl rfl rfl rfl rfl rfl (fun a h1 h2 => by unfold execOp; simp only [resolve, invoke, Sem.run_bind, List.map_toArray, List.map_cons, List.map_nil, h1, h2]; rfl) rfl rfl rfl rfl rfl rfl rfl rfl rfl (MBox.faVector _ _) A2.out.ldVector (MBox.faVector _ _) B2.out.ldVector (HD.out _ HB2.out) (fun SF nf sf => ?_)
  rw [samemsg_bool] at sf
  have HB3 := hide (belN HB2.out nf)
  clear la lb sl lh A2 B2 HB2 HD SL
  generalize (w2.drewN nl).drewN nf = W at *
  go_wp2
  refine bodyPost_ret (results_tmp rfl _ _ _) rfl ⟨?_, HB3.out⟩
  show Ending.returned (SF.getD 4 undef) = _
  rw [getD_of sf]
def gw (c : Bool) (V : Value) : Value := cond c V undef
structure VJ (ops : Array Oper) (C : World → Prop) (Q : Act → Prop) (l : List Oper) (a : Act) : Prop where
  out : wpQuiet Tryz.prog ops C Q l a
theorem vq_start {C : World → Prop} {id : Nat} {Q : Exit → Act → World → Prop} {a : Act} {w : World} {l : List Oper} (hm : Tryz.prog.follows .mixedOrders = true) (hB : Region.lexB .any l.toArray = true) (hC : C w.drew)
    (h : VJ l.toArray C (fun a' => ∀ w', C w' → Q .normal a' w') l a) : (Code.region id l.toArray true).wp Tryz.prog Q a w :=
  wp_region_quiet (C := C) hm hB hC (by simpa using h.out)
theorem vq_gen {ops : Array Oper} {C : World → Prop} {Q : Act → Prop} {l : List Oper} {T0 : Array Value} {df : List Deferred} (P : Array Value → Prop) (h0 : P T0) (hk : ∀ T, P T → VJ ops C Q l ⟨T, df⟩) : VJ ops C Q l ⟨T0, df⟩ := hk T0 h0
theorem vl_gen {ops : Array Oper} {Q : Exit → Act → World → Prop} {l : List Oper} {T0 : Array Value} {df : List Deferred} {w : World} (P : Array Value → Prop) (h0 : P T0) (hk : ∀ T, P T → wpList Tryz.prog ops Q l ⟨T, df⟩ w) : wpList Tryz.prog ops Q l ⟨T0, df⟩ w := hk T0 h0
theorem vq_nil {ops : Array Oper} {C : World → Prop} {Q : Act → Prop} {a : Act} (h : Q a) : VJ ops C Q [] a := ⟨wpQuiet_nil h⟩
theorem want_g {ops : Array Oper} {o : Oper} {T : Array Value} {g j : Nat} {pol b c : Bool} (h : o.guard = some (g, pol)) (hg : (ops[g]?).bind (·.dst) = some j) (hj : T[j]? = some (gw c (.bool b))) : Region.wanted o (yielded ops T) = (c && (b == pol)) := by
  cases c <;> simp [Region.wanted, h, yielded, hg, hj, gw, undef]
theorem vq {ops : Array Oper} {rest : List Oper} {o : Oper} {T : Array Value} {df : List Deferred} {C : World → Prop} {Q : Act → Prop} {d n : Nat} (c : Bool) (V : Value) (hw : Region.wanted o (yielded ops T) = c) (he : c = true → ∀ v, C v → (execOp (⟨T, df⟩ : Act).eval o).run Tryz.prog v = .ok (.value V) v) (hd : o.dst = some d) (hz : T.size = n) (hn : d < n)
    (hk : ∀ T' : Array Value, T'.size = n → (∀ i, i ≠ d → T'[i]? = T[i]?) → T'[d]? = some (gw c V) → VJ ops C Q rest ⟨T', df⟩) : VJ ops C Q (o :: rest) ⟨T, df⟩ := by
  cases c with
  | false =>
    refine ⟨BigFrame.wpQuiet_skip hw ?_⟩
    rw [hd]
    exact (hk (T.setIfInBounds d undef) (by simp [hz]) (fun i hi => at_set_ne _ hi) (at_set _ (by omega))).out
  | true =>
    refine ⟨BigFrame.wpQuiet_want hw (fun K hK => ⟨V, fun v hv => by unfold Oper.quietAt; rw [he rfl v hv]; exact ⟨rfl, rfl⟩, hK _ ?_⟩)⟩
    rw [hd]
    exact (hk (T.setIfInBounds d V) (by simp [hz]) (fun i hi => at_set_ne _ hi) (at_set _ (by omega))).out
theorem vl {ops : Array Oper} {rest : List Oper} {o : Oper} {T : Array Value} {df : List Deferred} {w : World} {Q : Exit → Act → World → Prop} {d n : Nat} (c : Bool) (V : Value) (hw : Region.wanted o (yielded ops T) = c) (he : c = true → (execOp (⟨T, df⟩ : Act).eval o).run Tryz.prog w = .ok (.value V) w) (hd : o.dst = some d) (hz : T.size = n) (hn : d < n)
    (hk : ∀ T' : Array Value, T'.size = n → (∀ i, i ≠ d → T'[i]? = T[i]?) → T'[d]? = some (gw c V) → wpList Tryz.prog ops Q rest ⟨T', df⟩ w) : wpList Tryz.prog ops Q (o :: rest) ⟨T, df⟩ w := by
  cases c with
  | false =>
    refine wpList_skip hw ?_
    rw [hd]
    exact hk (T.setIfInBounds d undef) (by simp [hz]) (fun i hi => at_set_ne _ hi) (at_set _ (by omega))
  | true =>
    refine wl_val (v := V) hw (he rfl) ?_
    rw [hd]
    exact hk (T.setIfInBounds d V) (by simp [hz]) (fun i hi => at_set_ne _ hi) (at_set _ (by omega))
theorem vcall {ops : Array Oper} {rest : List Oper} {o : Oper} {T : Array Value} {df : List Deferred} {w : World} {Q : Exit → Act → World → Prop} {d n : Nat} (c : Bool) (V : Value) {fid : FuncId} {args : Array Value} (hw : Region.wanted o (yielded ops T) = c) (he : c = true → (execOp (⟨T, df⟩ : Act).eval o).run Tryz.prog w = .ok (.enter fid args) w)
    (hc : c = true → Calls Tryz.prog fid args w fun e w' => e = .returned V ∧ Below w.heap.size w w') (hd : o.dst = some d) (hz : T.size = n) (hn : d < n)
    (hk : ∀ (T' : Array Value) (w' : World), Below w.heap.size w w' → T'.size = n → (∀ i, i ≠ d → T'[i]? = T[i]?) → T'[d]? = some (gw c V) → wpList Tryz.prog ops Q rest ⟨T', df⟩ w') : wpList Tryz.prog ops Q (o :: rest) ⟨T, df⟩ w := by
  cases c with
  | false =>
    refine wpList_skip hw ?_
    rw [hd]
    exact hk (T.setIfInBounds d undef) w (Below.refl _ _) (by simp [hz]) (fun i hi => at_set_ne _ hi) (at_set _ (by omega))
  | true =>
    refine BigFrame.wpList_want hw (fun K hK => ?_)
    unfold Oper.wp
    rw [he rfl, Oper.upon_enter]
    refine (hc rfl).mono ?_
    rintro e w' ⟨rfl, hb⟩
    refine hK _ _ ?_
    rw [hd]
    exact hk (T.setIfInBounds d V) w' hb (by simp [hz]) (fun i hi => at_set_ne _ hi) (at_set _ (by omega))
theorem vcallP {ops : Array Oper} {rest : List Oper} {o : Oper} {T : Array Value} {df : List Deferred} {w : World} {Q : Exit → Act → World → Prop} {d n : Nat} {fid : FuncId} {args : Array Value} {R : Ending → World → Prop} (hw : Region.wanted o (yielded ops T) = true) (he : (execOp (⟨T, df⟩ : Act).eval o).run Tryz.prog w = .ok (.enter fid args) w)
    (hc : Calls Tryz.prog fid args w R) (hd : o.dst = some d) (hz : T.size = n) (hn : d < n)
    (hk : ∀ (e : Ending) (w' : World), R e w' → ∃ V, e = .returned V ∧ ∀ T' : Array Value, T'.size = n → (∀ i, i ≠ d → T'[i]? = T[i]?) → T'[d]? = some (gw true V) → wpList Tryz.prog ops Q rest ⟨T', df⟩ w') : wpList Tryz.prog ops Q (o :: rest) ⟨T, df⟩ w := by
  refine BigFrame.wpList_want hw (fun K hK => ?_)
  unfold Oper.wp
  rw [he, Oper.upon_enter]
  refine hc.mono ?_
  intro e w' hR
  obtain ⟨V, rfl, hk'⟩ := hk e w' hR
  refine hK _ _ ?_
  rw [hd]
  exact hk' (T.setIfInBounds d V) (by simp [hz]) (fun i hi => at_set_ne _ hi) (at_set _ (by omega))
theorem ev {T : Array Value} {df : List Deferred} {i : Nat} {c : Bool} {X : Value} (h : T[i]? = some (gw c X)) (hc : c = true) : (⟨T, df⟩ : Act).eval (.tmp i) = X := by
  subst hc
  exact getD_of h
theorem evc {T : Array Value} {df : List Deferred} {x : Value} : (⟨T, df⟩ : Act).eval (.const x) = x := rfl
theorem and_r {a b p : Bool} (h : (a && (b == p)) = true) : b = p := by cases a <;> cases b <;> cases p <;> simp_all
theorem ex_move {o : Oper} {ρ : Operand → Value} {x : Operand} {X : Value} {w : World} (ho : o.op = .move x) (hx : ρ x = X) : (execOp ρ o).run Tryz.prog w = .ok (.value X) w := by
  unfold execOp
  simp only [ho, hx]
  rfl
theorem ex_assign {o : Oper} {ρ : Operand → Value} {x : Operand} {X : Value} {w : World} (ho : o.op = .assign x) (hx : ρ x = X) : (execOp ρ o).run Tryz.prog w = .ok (.value X) w := by
  unfold execOp
  simp only [ho, hx]
  rfl
theorem ex_fa {o : Oper} {ρ : Operand → Value} {s : TypeId} {f : Nat} {x : Operand} {X V : Value} {w : World} (ho : o.op = .fieldAddr s x f) (hx : ρ x = X) (hr : (Instr.fieldAt s X f).run Tryz.prog w = .ok V w) : (execOp ρ o).run Tryz.prog w = .ok (.value V) w := by
  unfold execOp
  simp only [ho, hx, Sem.run_bind, hr, Result.andThen_ok]
  rfl
theorem ex_ld {o : Oper} {ρ : Operand → Value} {s : TypeId} {x : Operand} {X V : Value} {w : World} (ho : o.op = .load s x) (hx : ρ x = X) (hr : (Instr.loadAt s X).run Tryz.prog w = .ok V w) : (execOp ρ o).run Tryz.prog w = .ok (.value V) w := by
  unfold execOp
  simp only [ho, hx, Sem.run_bind, hr, Result.andThen_ok]
  rfl
theorem ex_ix {o : Oper} {ρ : Operand → Value} {s : TypeId} {x y : Operand} {X Y V : Value} {w : World} (ho : o.op = .indexAddr s x y) (hx : ρ x = X) (hy : ρ y = Y) (hr : (Instr.indexAt s X Y).run Tryz.prog w = .ok V w) : (execOp ρ o).run Tryz.prog w = .ok (.value V) w := by
  unfold execOp
  simp only [ho, hx, hy, Sem.run_bind, hr, Result.andThen_ok]
  rfl
theorem ex_bin {o : Oper} {ρ : Operand → Value} {b : BinOp} {s t : TypeId} {x y : Operand} {X Y V : Value} {w : World} (ho : o.op = .binOp b s x y t) (hx : ρ x = X) (hy : ρ y = Y) (hr : (do eqGuard b s x y X Y; binOp b s X Y : Sem Value).run Tryz.prog w = .ok V w) : (execOp ρ o).run Tryz.prog w = .ok (.value V) w := by
  unfold execOp
  simp only [ho, hx, hy]
  rw [Sem.run_bind, hr]
  rfl
theorem ex_build {o : Oper} {ρ : Operand → Value} {s : TypeId} {V : Value} {w : World} (ho : o.op = .build s #[]) (hr : (Instr.build s #[]).run Tryz.prog w = .ok V w) : (execOp ρ o).run Tryz.prog w = .ok (.value V) w := by
  unfold execOp
  simp only [ho]
  rw [Sem.run_bind]
  simp only [List.map_toArray, List.map_nil, hr]
  rfl
theorem ex_not {o : Oper} {ρ : Operand → Value} {s : TypeId} {x : Operand} {b : Bool} {w : World} (ho : o.op = .unOp .not s x) (hx : ρ x = .bool b) : (execOp ρ o).run Tryz.prog w = .ok (.value (.bool (!b))) w := by
  unfold execOp
  simp only [ho, hx]
  rfl
theorem ex_nil {o : Oper} {ρ : Operand → Value} {x : Operand} {p : Addr} {w : World} (ho : o.op = .nilCheck x) (hx : ρ x = .pointer (some p)) : (execOp ρ o).run Tryz.prog w = .ok (.value (.pointer (some p))) w := by
  unfold execOp
  simp only [ho, hx]
  rfl
theorem ex_call {o : Oper} {T : Array Value} {df : List Deferred} {fid : FuncId} {xs : Array Operand} {ts : Array TypeId} {args : Array Value} {w : World} (ho : o.op = .call { callee := .value (.func fid), args := xs, argTypes := ts }) (ha : xs.map (⟨T, df⟩ : Act).eval = args) (hr : (do let d ← Deferred.ofValue ((⟨T, df⟩ : Act).eval (.func fid)) args; invoke d.target d.args : Sem Next).run Tryz.prog w = .ok (.enter fid args) w) : (execOp (⟨T, df⟩ : Act).eval o).run Tryz.prog w = .ok (.enter fid args) w := by
  unfold execOp
  simp only [ho, resolve, ha]
  exact hr
theorem ex_or {o : Oper} {T : Array Value} {df : List Deferred} {j y : Nat} {c b z : Bool} {w : World} (ho : o.op = .pick (.tmp j) (.const (.bool true)) (.tmp y)) (hj : T[j]? = some (gw c (.bool b))) (hy : T[y]? = some (gw (c && (b == false)) (.bool z))) (hc : c = true) : (execOp (⟨T, df⟩ : Act).eval o).run Tryz.prog w = .ok (.value (.bool (b || z))) w := by
  subst hc
  unfold execOp
  simp only [ho, Act.eval, getD_of hj, getD_of hy]
  cases b <;> rfl
theorem ex_and {o : Oper} {T : Array Value} {df : List Deferred} {j x : Nat} {c b z : Bool} {w : World} (ho : o.op = .pick (.tmp j) (.tmp x) (.const (.bool false))) (hj : T[j]? = some (gw c (.bool b))) (hy : T[x]? = some (gw (c && (b == true)) (.bool z))) (hc : c = true) : (execOp (⟨T, df⟩ : Act).eval o).run Tryz.prog w = .ok (.value (.bool (b && z))) w := by
  subst hc
  unfold execOp
  simp only [ho, Act.eval, getD_of hj, getD_of hy]
  cases b <;> rfl
theorem ex_lenE {o : Oper} {ρ : Operand → Value} {i : Nat} {a : Option Addr} {n k : Nat} {w : World} (ho : o.op = .call { callee := .builtin .len, args := #[.tmp i], argTypes := #[34] }) (ht : o.type = 3) (hx : ρ (.tmp i) = .slice a n k) : (execOp ρ o).run Tryz.prog w = .ok (.value (.int .i64 (n : Int))) w := by
  unfold execOp
  simp only [ho]
  rw [Sem.run_bind]
  simp only [resolve, List.map_toArray, List.map_cons, List.map_nil, hx, ht]
  go_simp
theorem ex_lenV {o : Oper} {ρ : Operand → Value} {i : Nat} {a : Option Addr} {n k : Nat} {w : World} (ho : o.op = .call { callee := .builtin .len, args := #[.tmp i], argTypes := #[36] }) (ht : o.type = 3) (hx : ρ (.tmp i) = .slice a n k) : (execOp ρ o).run Tryz.prog w = .ok (.value (.int .i64 (n : Int))) w := by
  unfold execOp
  simp only [ho]
  rw [Sem.run_bind]
  simp only [resolve, List.map_toArray, List.map_cons, List.map_nil, hx, ht]
  go_simp
theorem ex_lenB {o : Oper} {ρ : Operand → Value} {i : Nat} {a : Option Addr} {n k : Nat} {w : World} (ho : o.op = .call { callee := .builtin .len, args := #[.tmp i], argTypes := #[90] }) (ht : o.type = 3) (hx : ρ (.tmp i) = .slice a n k) : (execOp ρ o).run Tryz.prog w = .ok (.value (.int .i64 (n : Int))) w := by
  unfold execOp
  simp only [ho]
  rw [Sem.run_bind]
  simp only [resolve, List.map_toArray, List.map_cons, List.map_nil, hx, ht]
  go_simp
theorem eqlC (x y : Operand) (a b : Int) (w : World) : (do eqGuard .eql 3 x y (.int .i64 a) (.int .i64 b); binOp .eql 3 (.int .i64 a) (.int .i64 b) : Sem Value).run Tryz.prog w = .ok (.bool (decide (a = b))) w := by
  go_simp
  by_cases h : a = b <;> simp [h]
theorem neqC (x y : Operand) (a b : Int) (w : World) : (do eqGuard .neq 3 x y (.int .i64 a) (.int .i64 b); binOp .neq 3 (.int .i64 a) (.int .i64 b) : Sem Value).run Tryz.prog w = .ok (.bool (!decide (a = b))) w := by
  go_simp
  by_cases h : a = b <;> simp [h]
theorem lssC (x y : Operand) (a b : Int) (w : World) : (do eqGuard .lss 3 x y (.int .i64 a) (.int .i64 b); binOp .lss 3 (.int .i64 a) (.int .i64 b) : Sem Value).run Tryz.prog w = .ok (.bool (decide (a < b))) w := by
  go_simp
theorem geqC (x y : Operand) (a b : Int) (w : World) : (do eqGuard .geq 3 x y (.int .i64 a) (.int .i64 b); binOp .geq 3 (.int .i64 a) (.int .i64 b) : Sem Value).run Tryz.prog w = .ok (.bool (decide (b ≤ a))) w := by
  go_simp
theorem gtrC (x y : Operand) (a b : Int) (w : World) : (do eqGuard .gtr 3 x y (.int .i64 a) (.int .i64 b); binOp .gtr 3 (.int .i64 a) (.int .i64 b) : Sem Value).run Tryz.prog w = .ok (.bool (decide (b < a))) w := by
  go_simp
theorem neqB (x y : Operand) (a b : Bool) (w : World) : (do eqGuard .neq 4 x y (.bool a) (.bool b); binOp .neq 4 (.bool a) (.bool b) : Sem Value).run Tryz.prog w = .ok (.bool (a != b)) w := by
  cases a <;> cases b <;> go_simp
theorem buildDr (w : World) : (Instr.build 33 #[]).run Tryz.prog w = .ok (.agg #[.int .u64 0, .int .u64 0]) w := by
  go_simp
theorem buildEn (w : World) : (Instr.build 28 #[]).run Tryz.prog w = .ok (.agg #[.int .i64 0, .int .i64 0, .int .i64 0, .int .i64 0, .string ⟨#[]⟩]) w := by
  go_simp
theorem buildRs (w : World) : (Instr.build 30 #[]).run Tryz.prog w = .ok (.agg #[.int .i64 0, .int .i64 0, .string ⟨#[]⟩]) w := by
  go_simp
theorem ixBool (g j n cu : Nat) (hj : j < n) (w : World) : (Instr.indexAt 90 (.slice (some ⟨g, 0, none⟩) n cu) (.int .i64 (j : Int))).run Tryz.prog w = .ok (.pointer (some ⟨g, j, none⟩)) w := by
  have h1 : (j : Int) < (n : Int) := by omega
  go_simp
theorem ldBool {w : World} {g j : Nat} {b : Bool} (h : w.cell? ⟨g, j, none⟩ = some (.bool b)) : (Instr.loadAt 4 (.pointer (some ⟨g, j, none⟩))).run Tryz.prog w = .ok (.bool b) w := by
  go_simp
theorem kt {T T' : Array Value} {d i : Nat} {v : Option Value} (kk : ∀ i, i ≠ d → T'[i]? = T[i]?) (h : T[i]? = v) (hi : i ≠ d := by decide) : T'[i]? = v := (kk i hi).trans h
theorem vt {ops : Array Oper} {rest : List Oper} {o : Oper} {T : Array Value} {df : List Deferred} {w : World} {Q : Exit → Act → World → Prop} {d n : Nat} (V : Value) (he : (execOp (⟨T, df⟩ : Act).eval o).run Tryz.prog w = .ok (.value V) w) (hz : T.size = n)
    (hk : ∀ T' : Array Value, T'.size = n → (∀ i, i ≠ d → T'[i]? = T[i]?) → T'[d]? = some (gw true V) → wpList Tryz.prog ops Q rest ⟨T', df⟩ w) (hg : o.guard = none := by rfl) (hd : o.dst = some d := by rfl) (hn : d < n := by decide) : wpList Tryz.prog ops Q (o :: rest) ⟨T, df⟩ w := vl true V (want_none hg) (fun _ => he) hd hz hn hk
theorem ku {T T' : Array Value} {d i : Nat} {v : Option Value} (h : T[i]? = v) (kk : ∀ i, i ≠ d → T'[i]? = T[i]? := by assumption) (hi : i ≠ d := by decide) : T'[i]? = v := (kk i hi).trans h
structure VH (ops : Array Oper) (Q : Exit → Act → World → Prop) (S : World → Prop) (fuel : Nat) (listed : Array Bool) (a : Act) (w : World) : Prop where
  out : wpAnyH Tryz.prog .any ops (NoPanic Q) S fuel listed a w
theorem vh_start {id : Nat} {Q : Exit → Act → World → Prop} {a : Act} {w : World} {l : List Oper} (S : World → Prop) (hm : Tryz.prog.follows .mixedOrders = true) (h : VH l.toArray Q S l.length (Array.replicate l.length false) a w.drew) : (Code.region id l.toArray true).wp Tryz.prog Q a w :=
  wp_region_noPanic (wp_region_held (S := S) hm (by simpa using h.out))
theorem vh_gen {ops : Array Oper} {Q : Exit → Act → World → Prop} {S : World → Prop} {fuel : Nat} {listed : Array Bool} {T0 : Array Value} {df : List Deferred} {w : World} (P : Array Value → Prop) (h0 : P T0) (hk : ∀ T, P T → VH ops Q S fuel listed ⟨T, df⟩ w) : VH ops Q S fuel listed ⟨T0, df⟩ w := hk T0 h0
theorem vh_done {ops : Array Oper} {Q : Exit → Act → World → Prop} {S : World → Prop} {fuel : Nat} {listed : Array Bool} {a : Act} {w : World} (hr : Region.ready .any ops listed = []) (h : Q .normal a w) : VH ops Q S fuel listed a w := ⟨wpAnyH_done hr (NoPanic.normal h) _⟩
theorem vh_take {ops : Array Oper} {o : Oper} {T : Array Value} {df : List Deferred} {w : World} {Q : Exit → Act → World → Prop} {S : World → Prop} {fuel d n : Nat} {listed : Array Bool} (i : Nat) (c : Bool) (V : Value) (hi : ops[i]? = some o) (hs : Region.noSelect ops = true) (hf : Region.free .any ops listed i = true) (hr : (Region.ready .any ops listed).contains i = true)
    (hw : Region.wanted o (yielded ops T) = c) (he : c = true → ∀ v, S v → (execOp (⟨T, df⟩ : Act).eval o).run Tryz.prog v = .ok (.value V) v) (hd : o.dst = some d) (hz : T.size = n) (hn : d < n) (hS : S w)
    (hk : ∀ T' : Array Value, T'.size = n → (∀ j, j ≠ d → T'[j]? = T[j]?) → T'[d]? = some (gw c V) → VH ops Q S fuel (listed.setIfInBounds i true) ⟨T', df⟩ w) : VH ops Q S (fuel + 1) listed ⟨T, df⟩ w := by
  cases c with
  | false =>
    refine ⟨wpAnyH_take (v := undef) hi hs hf hr (fun _ _ _ h => h) (.inr ⟨hw, rfl⟩) hS ?_⟩
    rw [hd]
    exact (hk (T.setIfInBounds d undef) (by simp [hz]) (fun i hi => at_set_ne _ hi) (at_set _ (by omega))).out
  | true =>
    refine ⟨wpAnyH_take (v := V) hi hs hf hr (fun _ _ _ h => h) (.inl ⟨hw, he rfl⟩) hS ?_⟩
    rw [hd]
    exact (hk (T.setIfInBounds d V) (by simp [hz]) (fun i hi => at_set_ne _ hi) (at_set _ (by omega))).out
theorem vh_call {ops : Array Oper} {o : Oper} {T : Array Value} {df : List Deferred} {w : World} {Q : Exit → Act → World → Prop} {S : World → Prop} {fuel d n : Nat} {listed : Array Bool} (i : Nat) {fid : FuncId} {args : Array Value} {R : Ending → World → Prop} (hi : ops[i]? = some o) (hr : Region.ready .any ops listed = [i])
    (hw : Region.wanted o (yielded ops T) = true) (he : (execOp (⟨T, df⟩ : Act).eval o).run Tryz.prog w = .ok (.enter fid args) w) (hc : Calls Tryz.prog fid args w R) (hd : o.dst = some d) (hz : T.size = n) (hn : d < n)
    (hk : ∀ (e : Ending) (w' : World), R e w' → ∃ V, e = .returned V ∧ S w' ∧ ∀ T' : Array Value, T'.size = n → (∀ j, j ≠ d → T'[j]? = T[j]?) → T'[d]? = some (gw true V) → VH ops Q S fuel (listed.setIfInBounds i true) ⟨T', df⟩ w') : VH ops Q S (fuel + 1) listed ⟨T, df⟩ w := by
  refine ⟨wpAnyH_all hr (by simp) (fun j hj => ?_)⟩
  obtain rfl : j = i := by simpa using hj
  unfold wpOp
  rw [hi]
  simp only [hw, if_true]
  refine .inl ?_
  unfold Oper.wp
  rw [he, Oper.upon_enter]
  refine hc.mono ?_
  intro e w' hR
  obtain ⟨V, rfl, hS, hk'⟩ := hk e w' hR
  refine ⟨hS, ?_⟩
  rw [hd]
  exact (hk' (T.setIfInBounds d V) (by simp [hz]) (fun i hi => at_set_ne _ hi) (at_set _ (by omega))).out
end Go.Proofs.YtibedokegignhaaGreatDoor
