import Derived.Test.YtnhonkgondljjaaSo
import Derived.Shelf.Lay
import Derived.Shelf.Sort.Plain
import Derived.Sort.OwnSortedInts
import Derived.Ground.NamesProg
import Derived.Test.YtnhonkgondljjaaSk1
namespace Go.Proofs
open Go.Shelf Go.RowKit Go.Lib Go.Sort
def Try.lays189_ren : Go.Shelf.Ren := ⟨fun | 189 => 61 | 125 => 95 | 257 => 94 | 128 => 126 | 129 => 127 | 294 => 117 | 295 => 118 | 296 => 119 | 297 => 120 | 298 => 121 | 299 => 122 | 216 => 123 | 300 => 124 | 301 => 125 | 328 => 137 | 329 => 138 | 330 => 139 | 331 => 140 | 332 => 141 | 215 => 111 | 343 => 150 | n => n, fun | 28 => 83 | 3 => 3 | 46 => 156 | 0 => 0 | 51 => 180 | 53 => 25 | 4 => 4 | 183 => 173 | 182 => 172 | 131 => 177 | 5 => 5 | 9 => 9 | 218 => 188 | 222 => 192 | 228 => 201 | 229 => 202 | n => n, fun | n => n⟩
theorem Try.lays189 : Go.Proofs.Lays.n189 Try.prog Try.lays189_ren := {
  mixed := by kernel_rfl,
  f125 := Try.func95.trans (congrArg some (by kernel_rfl)),
  f128 := Try.func126.trans (congrArg some (by kernel_rfl)),
  f129 := Try.func127.trans (congrArg some (by kernel_rfl)),
  f189 := Try.func61.trans (congrArg some (by kernel_rfl)),
  f215 := Try.func111.trans (congrArg some (by kernel_rfl)),
  f216 := Try.func123.trans (congrArg some (by kernel_rfl)),
  f257 := Try.func94.trans (congrArg some (by kernel_rfl)),
  f294 := Try.func117.trans (congrArg some (by kernel_rfl)),
  f295 := Try.func118.trans (congrArg some (by kernel_rfl)),
  f296 := Try.func119.trans (congrArg some (by kernel_rfl)),
  f297 := Try.func120.trans (congrArg some (by kernel_rfl)),
  f298 := Try.func121.trans (congrArg some (by kernel_rfl)),
  f299 := Try.func122.trans (congrArg some (by kernel_rfl)),
  f300 := Try.func124.trans (congrArg some (by kernel_rfl)),
  f301 := Try.func125.trans (congrArg some (by kernel_rfl)),
  f328 := Try.func137.trans (congrArg some (by kernel_rfl)),
  f329 := Try.func138.trans (congrArg some (by kernel_rfl)),
  f330 := Try.func139.trans (congrArg some (by kernel_rfl)),
  f331 := Try.func140.trans (congrArg some (by kernel_rfl)),
  f332 := Try.func141.trans (congrArg some (by kernel_rfl)),
  f343 := Try.func150.trans (congrArg some (by kernel_rfl)),
  t0 := Try.underlying0,
  a0 := Try.isAgg0,
  z0 := Try.sizeOf0,
  v0 := Try.zeroValue0,
  t3 := Try.underlying3,
  a3 := Try.isAgg3,
  z3 := Try.sizeOf3,
  v3 := Try.zeroValue3,
  t4 := Try.underlying4,
  a4 := Try.isAgg4,
  z4 := Try.sizeOf4,
  v4 := Try.zeroValue4,
  t5 := Try.underlying5,
  a5 := Try.isAgg5,
  z5 := Try.sizeOf5,
  v5 := Try.zeroValue5,
  t9 := Try.underlying9,
  a9 := Try.isAgg9,
  z9 := Try.sizeOf9,
  v9 := Try.zeroValue9,
  t28 := Try.underlying83,
  a28 := Try.isAgg83,
  z28 := Try.sizeOf83,
  v28 := Try.zeroValue83,
  t46 := Try.underlying156,
  a46 := Try.isAgg156,
  z46 := Try.sizeOf156,
  v46 := Try.zeroValue156,
  t51 := Try.underlying180,
  a51 := Try.isAgg180,
  z51 := Try.sizeOf180,
  v51 := Try.zeroValue180,
  t53 := Try.underlying25,
  a53 := Try.isAgg25,
  z53 := Try.sizeOf25,
  v53 := Try.zeroValue25,
  t131 := Try.underlying177,
  a131 := Try.isAgg177,
  z131 := Try.sizeOf177,
  v131 := Try.zeroValue177,
  t182 := Try.underlying172,
  a182 := Try.isAgg172,
  z182 := Try.sizeOf172,
  v182 := Try.zeroValue172,
  t183 := Try.underlying173,
  a183 := Try.isAgg173,
  z183 := Try.sizeOf173,
  v183 := Try.zeroValue173,
  t218 := Try.underlying188,
  a218 := Try.isAgg188,
  z218 := Try.sizeOf188,
  v218 := Try.zeroValue188,
  t222 := Try.underlying192,
  a222 := Try.isAgg192,
  z222 := Try.sizeOf192,
  v222 := Try.zeroValue192,
  t228 := Try.underlying201,
  a228 := Try.isAgg201,
  z228 := Try.sizeOf201,
  v228 := Try.zeroValue201,
  t229 := Try.underlying202,
  a229 := Try.isAgg202,
  z229 := Try.sizeOf202,
  v229 := Try.zeroValue202 }
end Go.Proofs
namespace Go.Proofs.Ytnhonkgondljjaa
open Go.RowKit Go.Maps Go.Sort
open Classical
set_option linter.unusedVariables false
set_option linter.unusedSimpArgs false

theorem fl_ints : ∀ L : List Int, fl yI L = L.map (Value.int .i64)
  | [] => rfl
  | x :: r => by rw [fl, fl_ints r]; rfl
/-- Whole numbers from the least on. -/
def srt (L : List Int) : List Int := L.mergeSort (fun x y => decide (x ≤ y))
theorem srt_len (L : List Int) : (srt L).length = L.length := List.length_mergeSort L
set_option maxRecDepth 100000 in
/-- slices.Sort of a row of the call's own. -/
theorem sort_any (L : List Int) (n B g : Nat) (w : World) (hn : L.length = n) (h : OwnY yI B w (.slice (some ⟨g, 0, none⟩) n n) L) (hm : n * 8 ≤ 281474976710656) :
    Calls Try.prog 61 #[.slice (some ⟨g, 0, none⟩) n n] w fun e w' => e = .returned (.tuple #[]) ∧ OwnY yI B w' (.slice (some ⟨g, 0, none⟩) n n) (srt L) ∧ w.grownBy w' (some g) := by
  subst hn
  rcases h with ⟨h0, h1 | ⟨g1, cap, cur, e1, e2, e3, e4, e5, e6, e7⟩⟩
  · have := h1.1; cases this
  · injection e1 with q1 q2 q3
    injection q1 with q1
    cases q1
    subst q3
    have e7' : cur.toList.take L.length = L.map (Value.int .i64) := by
      rw [← fl_ints]
      rw [show L.length * yI.k = L.length from Nat.mul_one _] at e7
      exact e7
    have hc := Any.slices_Sort_int Try.lays189 g 0 L.length L w (holds_of_blockI e3 e7') (Array.getElem?_eq_some_iff.1 e3).1 (by omega)
    change Calls Try.prog 61 _ _ _ at hc
    refine hc.mono fun e w' hq => ?_
    obtain ⟨rfl, k, os, rfl⟩ := hq
    refine ⟨rfl, ?_, grownBy_sortedI _⟩
    unfold OwnY
    rw [srt_len, fl_ints]
    exact ownsRow_sortedI (ss := L) (ts := srt L) (srt_len L) e2 e3 e4 e5 (by rw [e6]; rfl)

end Go.Proofs.Ytnhonkgondljjaa

namespace Go.Proofs.Ytnhonkgondljjaa
open Go.RowKit Go.Maps
set_option linter.unusedVariables false
set_option linter.unusedSimpArgs false

/-- What f acknowledgements have reached. -/
def rch (f own : Int) (L : List Ak) : Int :=
  if f < 1 then max own 0 else if (L.length : Int) < f then 0 else max 0 (min own ((srt (L.map (·.p))).getD (L.length - f.toNat) 0))
set_option maxRecDepth 100000 in
set_option maxHeartbeats 1000000 in
theorem reached_any (f own : Int) (L : List Ak) (a : Option Addr) (n c : Nat) (w : World) (h : SlY yAkA w a n c L) (hm : n * 32 ≤ 140737488355328) :
    Calls Try.prog 27 #[.int .i64 f, .int .i64 own, .slice a n c] w fun e w' => e = .returned (.int .i64 (rch f own L)) ∧ Below w.heap.size w w' := by
  have hmx := h.max
  have hcp := h.cap
  have hln := h.len
  unfold maxLen at hmx
  have H := hide h
  have HN := hide hln
  clear h
  by_cases h1 : f < 1
  · have hr : Hid (rch f own L = max own 0) := by show _ = _; unfold rch; rw [if_pos h1]
    generalize rch f own L = R at *
    go_enter Try.func27, Try.ntmps27
    go_wp2
    go_ret
    exact ⟨by rw [hr.out]; rfl, Below.refl _ _⟩
  · by_cases h2 : (n : Int) < f
    · have hr : Hid (rch f own L = 0) := by show _ = _; unfold rch; rw [if_neg h1, hln, if_pos h2]
      generalize rch f own L = R at *
      go_enter Try.func27, Try.ntmps27
      go_wp2
      go_ret
      exact ⟨by rw [hr.out]; rfl, Below.refl _ _⟩
    · obtain ⟨F, rfl⟩ : ∃ F : Nat, f = (F : Int) := ⟨f.toNat, by omega⟩
      have hF1 : 1 ≤ F := by omega
      have hFn : F ≤ n := by omega
      have hr : Hid (rch (F : Int) own L = max 0 (min own ((srt (L.map (·.p))).getD (n - F) 0))) := by show _ = _; unfold rch; rw [if_neg h1, hln, if_neg h2, Int.toNat_natCast]
      generalize rch (F : Int) own L = R at *
      clear hln
      go_enter Try.func27, Try.ntmps27
      go_wp2_with (at_make; go_must (refine makeYs kI _ rfl (.tmp 21) rfl n rfl (by unfold maxLen; omega) (by show n * 8 ≤ _; omega) ?zk))
      intro w1 o1 b1
      have HO : Hid (OwnY yI w.heap.size w1 (.slice (some ⟨w.heap.size, 0, none⟩) n n) ((L.take 0).map (·.p) ++ List.replicate (n - 0) yI.z)) := by
        show OwnY _ _ _ _ _
        simpa using o1
      clear o1
      go_wp2
      go_loopw [25] (fun i wr => ∃ j : Nat, i = .int .i64 (j : Int) ∧ j ≤ n ∧ Hid (OwnY yI w.heap.size wr (.slice (some ⟨w.heap.size, 0, none⟩) n n) ((L.take j).map (·.p) ++ List.replicate (n - j) yI.z)) ∧ Below w.heap.size w wr) (fun i _ => n - (intOf i).toNat)
      case atStart => exact ⟨0, rfl, Nat.zero_le _, HO, b1⟩
      case round =>
        obtain ⟨j, rfl, hj, hO, hbl⟩ := hrel
        have hsz := hbl.size
        have hlt0 : w.heap.size < wr.heap.size := by
          obtain ⟨_, _, ee, _, _, _, h4⟩ := hO.out.form
          injection ee with ee
          obtain ⟨g', e2, _, h5⟩ := h4 _ ee.symm
          cases e2
          exact h5
        by_cases hlt : j < n
        · have hjl : j < L.length := by rw [HN.out]; exact hlt
          have hg : L[j]? = some L[j] := List.getElem?_eq_getElem hjl
          obtain ⟨q, o, rfl, hq, y0, y1, y2, y3⟩ := (H.out.later hbl).AkA hg
          have hl : ((L.take j).map (·.p)).length = j := by rw [List.length_map, List.length_take]; omega
          have hset : Hid (((L.take j).map (·.p) ++ List.replicate (n - j) yI.z).set j L[j].p = (L.take (j + 1)).map (·.p) ++ List.replicate (n - (j + 1)) yI.z) := by
            show _ = _
            rw [List.set_append_right _ _ (by omega), hl, Nat.sub_self, show n - j = (n - (j + 1)) + 1 by omega, List.replicate_succ, List.set_cons_zero, List.take_add_one, hg, List.map_append]
            simp only [Option.toList_some, List.map_cons, List.map_nil, List.append_assoc, List.cons_append, List.nil_append]
          have hget : Hid (((L.take j).map (·.p) ++ List.replicate (n - j) yI.z)[j]? = some yI.z) := by
            show _ = _
            rw [List.getElem?_append_right (by omega), hl, Nat.sub_self, show n - j = (n - (j + 1)) + 1 by omega, List.replicate_succ]
            rfl
          clear hg hl
          generalize L[j] = x at *
          generalize hX : (L.take j).map (·.p) ++ List.replicate (n - j) yI.z = XX at *
          clear hX
          have bA := hide (hbl.trans (((Below.refl _ wr).alloc (Nat.le_refl _) (.cells #[.int .i64 x.n, .int .u64 x.h, .int .u64 x.l, .int .i64 x.p] 55)).mono hsz))
          have OA := hide (hO.out.alloc (.cells #[.int .i64 x.n, .int .u64 x.h, .int .u64 x.l, .int .i64 x.p] 55))
          clear hO
          go_wp2_with (first
            | (refine storeY kI _ rfl 3 (.tmp 34) (.tmp 33) rfl w.heap.size w.heap.size n n XX j 0 yI.z x.p _ (by show Value.pointer (some ⟨w.heap.size, j, none⟩) = Value.pointer (some ⟨w.heap.size, j * 1 + 0, none⟩); rw [Nat.mul_one, Nat.add_zero]) rfl hget.out (by kernel_rfl) (by exact (by decide : 1 ≤ 1)) rfl OA.out ?_; intro w3 o3 u3 z3; have O3 := hide o3; have U3 := hide u3; clear o3 u3)
            | go_in)
          go_round
          case rel =>
            exact ⟨j + 1, by go_num, by omega, by show OwnY _ _ _ _ _; rw [← hset.out]; exact O3.out, bA.out.trans (U3.out.below (by simp; omega) (fun k e => by subst e; exact Nat.le_refl _))⟩
          case measure => simp [intOf]; omega
        · obtain rfl : j = n := by omega
          have O9 : OwnY yI w.heap.size wr (.slice (some ⟨w.heap.size, 0, none⟩) j j) (L.map (·.p)) := by
            have := hO.out
            rw [Nat.sub_self, List.replicate_zero, List.append_nil, List.take_of_length_le (by rw [HN.out]; exact Nat.le_refl _)] at this
            exact this
          have cs := hide (sort_any (L.map (·.p)) j w.heap.size w.heap.size wr (by rw [List.length_map, HN.out]) O9 (by omega))
          clear hO
          go_wp2_with fail
          refine cs.out.mono ?_
          rintro e w2 ⟨rfl, o2, g2⟩
          have B2 := hide (O9.grown hbl g2 hsz)
          have hix : j - F < (srt (L.map (·.p))).length := by rw [srt_len, List.length_map, HN.out]; omega
          have hgx : (srt (L.map (·.p)))[j - F]? = some ((srt (L.map (·.p))).getD (j - F) 0) := by rw [List.getD_eq_getElem?_getD, List.getElem?_eq_getElem hix]; rfl
          obtain ⟨q, o, ea, _, y0⟩ := (o2.sl' kI).int hgx
          cases ea
          rw [Nat.zero_add] at y0
          generalize (srt (L.map (·.p))).getD (j - F) 0 = p at *
          have hw1 : IntKind.i64.wrap ((j : Int) - (F : Int)) = ((j - F : Nat) : Int) := by rw [IntKind.wrap_i64]; omega
          have hq1 : ¬ (j ≤ j - F) := by omega
          have hq2 : j - F < j := by omega
          clear cs O9 o2 g2 hgx hix
          dsimp only
          go_wp2
          go_ret
          exact ⟨by rw [hr.out]; rfl, B2.out⟩

end Go.Proofs.Ytnhonkgondljjaa

namespace Go.Proofs.Ytnhonkgondljjaa
open Go.RowKit Go.Maps
set_option linter.unusedVariables false
set_option linter.unusedSimpArgs false

/-- How many have reached m. -/
def cnt (m : Int) (L : List Int) : Nat := (L.filter (fun p => decide (m ≤ p))).length
theorem cnt_perm {m : Int} {L M : List Int} (h : L.Perm M) : cnt m L = cnt m M := (h.filter _).length_eq
theorem srt_perm (L : List Int) : (srt L).Perm L := List.mergeSort_perm L _
theorem srt_sorted (L : List Int) : (srt L).Pairwise (· ≤ ·) := by
  have := List.pairwise_mergeSort (le := fun x y : Int => decide (x ≤ y)) (fun a b c h1 h2 => by simp at *; omega) (fun a b => by simp; omega) L
  exact this.imp (fun h => by simpa using h)
/-- In a list that rises the f greatest have reached m just if the least of them has. -/
theorem cnt_sorted : ∀ (S : List Int) (f : Nat) (m : Int), S.Pairwise (· ≤ ·) → 1 ≤ f → f ≤ S.length → (m ≤ S.getD (S.length - f) 0 ↔ f ≤ cnt m S)
  | [], f, m, _, h1, h2 => by simp at h2; omega
  | x :: r, f, m, hs, h1, h2 => by
    rw [List.pairwise_cons] at hs
    rw [List.length_cons] at h2 ⊢
    by_cases hf : f = r.length + 1
    · subst hf
      rw [Nat.sub_self, List.getD_cons_zero]
      constructor
      · intro hx
        have : (x :: r).filter (fun p => decide (m ≤ p)) = x :: r := by
          rw [List.filter_eq_self]
          intro y hy
          rcases List.mem_cons.1 hy with rfl | hy
          · simpa using hx
          · have := hs.1 y hy
            simp
            omega
        unfold cnt
        rw [this, List.length_cons]
        exact Nat.le_refl _
      · intro hc
        have hle : (x :: r).length ≤ ((x :: r).filter (fun p => decide (m ≤ p))).length := hc
        have := List.filter_eq_self.1 ((List.filter_sublist (l := x :: r) (p := fun p => decide (m ≤ p))).eq_of_length_le hle)
        have := this x (List.mem_cons_self ..)
        simpa using this
    · have ih := cnt_sorted r f m hs.2 h1 (by omega)
      rw [show r.length + 1 - f = (r.length - f) + 1 by omega, List.getD_cons_succ, ih]
      unfold cnt
      rw [List.filter_cons]
      split
      · rename_i hx
        have hx : m ≤ x := by simpa using hx
        have hall : r.filter (fun p => decide (m ≤ p)) = r := by
          rw [List.filter_eq_self]
          intro y hy
          have := hs.1 y hy
          simp
          omega
        rw [hall, List.length_cons]
        omega
      · exact Iff.rfl
theorem rch_ge {f own m : Int} {L : List Ak} (hf : 1 ≤ f) (hm : 1 ≤ m) : m ≤ rch f own L ↔ (m ≤ own ∧ f ≤ (cnt m (L.map (·.p)) : Int)) := by
  unfold rch
  rw [if_neg (by omega)]
  have hcl : cnt m (L.map (·.p)) ≤ L.length := by
    unfold cnt
    exact Nat.le_trans (List.length_filter_le _ _) (by rw [List.length_map]; exact Nat.le_refl _)
  by_cases h : (L.length : Int) < f
  · rw [if_pos h]
    omega
  · rw [if_neg h]
    obtain ⟨F, rfl⟩ : ∃ F : Nat, f = (F : Int) := ⟨f.toNat, by omega⟩
    have hl : (srt (L.map (·.p))).length = L.length := by rw [srt_len, List.length_map]
    have hc := cnt_sorted (srt (L.map (·.p))) F m (srt_sorted _) (by omega) (by omega)
    rw [hl, cnt_perm (srt_perm _)] at hc
    rw [Int.toNat_natCast]
    generalize (srt (L.map (·.p))).getD (L.length - F) 0 = p at *
    have : m ≤ max 0 (min own p) ↔ (m ≤ own ∧ m ≤ p) := by omega
    rw [this, hc]
    omega
theorem rch_nonneg (f own : Int) (L : List Ak) : 0 ≤ rch f own L := by
  unfold rch
  split
  · omega
  · split
    · omega
    · omega
theorem cnt_mono {m m' : Int} (h : m ≤ m') (L : List Int) : cnt m' L ≤ cnt m L := by
  unfold cnt
  induction L with
  | nil => exact Nat.le_refl _
  | cons x r ih =>
    rw [List.filter_cons, List.filter_cons]
    split
    · rename_i h1
      have h1 : m' ≤ x := by simpa using h1
      rw [if_pos (by simp; omega)]
      simp only [List.length_cons]
      omega
    · split
      · simp only [List.length_cons]
        omega
      · exact ih

end Go.Proofs.Ytnhonkgondljjaa

