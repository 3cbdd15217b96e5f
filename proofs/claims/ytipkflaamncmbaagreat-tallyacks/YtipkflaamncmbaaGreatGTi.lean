import Derived.Test.YtipkflaamncmbaaGreatSo
import Derived.Shelf.Lay
import Derived.Shelf.Sort.Plain
import Derived.Sort.OwnSortedInts
import Derived.Ground.NamesProg
import Derived.Test.YtipkflaamncmbaaGreatSk1
namespace Go.Proofs
open Go.Shelf Go.RowKit Go.Lib Go.Sort
def Tryz.lays189_ren : Go.Shelf.Ren := ⟨fun | 189 => 56 | 125 => 99 | 257 => 98 | 128 => 133 | 129 => 134 | 294 => 124 | 295 => 125 | 296 => 126 | 297 => 127 | 298 => 128 | 299 => 129 | 216 => 130 | 300 => 131 | 301 => 132 | 328 => 147 | 329 => 148 | 330 => 149 | 331 => 150 | 332 => 151 | 215 => 114 | 343 => 161 | n => n, fun | 28 => 95 | 3 => 3 | 46 => 153 | 0 => 0 | 51 => 184 | 53 => 25 | 4 => 4 | 183 => 177 | 182 => 176 | 131 => 181 | 5 => 5 | 9 => 9 | 218 => 195 | 222 => 199 | 228 => 208 | 229 => 163 | n => n, fun | n => n⟩
theorem Tryz.lays189 : Go.Proofs.Lays.n189 Tryz.prog Tryz.lays189_ren := {
  mixed := by kernel_rfl,
  f125 := Tryz.func99.trans (congrArg some (by kernel_rfl)),
  f128 := Tryz.func133.trans (congrArg some (by kernel_rfl)),
  f129 := Tryz.func134.trans (congrArg some (by kernel_rfl)),
  f189 := Tryz.func56.trans (congrArg some (by kernel_rfl)),
  f215 := Tryz.func114.trans (congrArg some (by kernel_rfl)),
  f216 := Tryz.func130.trans (congrArg some (by kernel_rfl)),
  f257 := Tryz.func98.trans (congrArg some (by kernel_rfl)),
  f294 := Tryz.func124.trans (congrArg some (by kernel_rfl)),
  f295 := Tryz.func125.trans (congrArg some (by kernel_rfl)),
  f296 := Tryz.func126.trans (congrArg some (by kernel_rfl)),
  f297 := Tryz.func127.trans (congrArg some (by kernel_rfl)),
  f298 := Tryz.func128.trans (congrArg some (by kernel_rfl)),
  f299 := Tryz.func129.trans (congrArg some (by kernel_rfl)),
  f300 := Tryz.func131.trans (congrArg some (by kernel_rfl)),
  f301 := Tryz.func132.trans (congrArg some (by kernel_rfl)),
  f328 := Tryz.func147.trans (congrArg some (by kernel_rfl)),
  f329 := Tryz.func148.trans (congrArg some (by kernel_rfl)),
  f330 := Tryz.func149.trans (congrArg some (by kernel_rfl)),
  f331 := Tryz.func150.trans (congrArg some (by kernel_rfl)),
  f332 := Tryz.func151.trans (congrArg some (by kernel_rfl)),
  f343 := Tryz.func161.trans (congrArg some (by kernel_rfl)),
  t0 := Tryz.underlying0,
  a0 := Tryz.isAgg0,
  z0 := Tryz.sizeOf0,
  v0 := Tryz.zeroValue0,
  t3 := Tryz.underlying3,
  a3 := Tryz.isAgg3,
  z3 := Tryz.sizeOf3,
  v3 := Tryz.zeroValue3,
  t4 := Tryz.underlying4,
  a4 := Tryz.isAgg4,
  z4 := Tryz.sizeOf4,
  v4 := Tryz.zeroValue4,
  t5 := Tryz.underlying5,
  a5 := Tryz.isAgg5,
  z5 := Tryz.sizeOf5,
  v5 := Tryz.zeroValue5,
  t9 := Tryz.underlying9,
  a9 := Tryz.isAgg9,
  z9 := Tryz.sizeOf9,
  v9 := Tryz.zeroValue9,
  t28 := Tryz.underlying95,
  a28 := Tryz.isAgg95,
  z28 := Tryz.sizeOf95,
  v28 := Tryz.zeroValue95,
  t46 := Tryz.underlying153,
  a46 := Tryz.isAgg153,
  z46 := Tryz.sizeOf153,
  v46 := Tryz.zeroValue153,
  t51 := Tryz.underlying184,
  a51 := Tryz.isAgg184,
  z51 := Tryz.sizeOf184,
  v51 := Tryz.zeroValue184,
  t53 := Tryz.underlying25,
  a53 := Tryz.isAgg25,
  z53 := Tryz.sizeOf25,
  v53 := Tryz.zeroValue25,
  t131 := Tryz.underlying181,
  a131 := Tryz.isAgg181,
  z131 := Tryz.sizeOf181,
  v131 := Tryz.zeroValue181,
  t182 := Tryz.underlying176,
  a182 := Tryz.isAgg176,
  z182 := Tryz.sizeOf176,
  v182 := Tryz.zeroValue176,
  t183 := Tryz.underlying177,
  a183 := Tryz.isAgg177,
  z183 := Tryz.sizeOf177,
  v183 := Tryz.zeroValue177,
  t218 := Tryz.underlying195,
  a218 := Tryz.isAgg195,
  z218 := Tryz.sizeOf195,
  v218 := Tryz.zeroValue195,
  t222 := Tryz.underlying199,
  a222 := Tryz.isAgg199,
  z222 := Tryz.sizeOf199,
  v222 := Tryz.zeroValue199,
  t228 := Tryz.underlying208,
  a228 := Tryz.isAgg208,
  z228 := Tryz.sizeOf208,
  v228 := Tryz.zeroValue208,
  t229 := Tryz.underlying163,
  a229 := Tryz.isAgg163,
  z229 := Tryz.sizeOf163,
  v229 := Tryz.zeroValue163 }
end Go.Proofs
namespace Go.Proofs.YtipkflaamncmbaaGreat
open Go.RowKit Go.Maps Go.Sort
open Classical
set_option linter.unusedVariables false
set_option linter.unusedSimpArgs false

theorem fl_ints : ∀ L : List Int, fl yI L = L.map (Value.int .i64)
  | [] => rfl
  | x :: r => by rw [fl, fl_ints r]; rfl
/-- Whole numbers from the least on. -/
def srt (L : List Int) : List Int := L.mergeSort (fun x y => decide (x ≤ y))
theorem srt_len (L : List Int) : (srt L).length = L.length := List.length_mergeSort L
set_option maxRecDepth 100000 in
/-- slices.Sort of a row of the call's own. -/
theorem sort_any (L : List Int) (n B g : Nat) (w : World) (hn : L.length = n) (h : OwnY yI B w (.slice (some ⟨g, 0, none⟩) n n) L) (hm : n * 8 ≤ 281474976710656) :
    Calls Tryz.prog 56 #[.slice (some ⟨g, 0, none⟩) n n] w fun e w' => e = .returned (.tuple #[]) ∧ OwnY yI B w' (.slice (some ⟨g, 0, none⟩) n n) (srt L) ∧ w.grownBy w' (some g) := by
  subst hn
  rcases h with ⟨h0, h1 | ⟨g1, cap, cur, e1, e2, e3, e4, e5, e6, e7⟩⟩
  · have := h1.1; cases this
  · injection e1 with q1 q2 q3
    injection q1 with q1
    cases q1
    subst q3
    have e7' : cur.toList.take L.length = L.map (Value.int .i64) := by
      rw [← fl_ints]
      rw [show L.length * yI.k = L.length from Nat.mul_one _] at e7
      exact e7
    have hc := Any.slices_Sort_int Tryz.lays189 g 0 L.length L w (holds_of_blockI e3 e7') (Array.getElem?_eq_some_iff.1 e3).1 (by omega)
    change Calls Tryz.prog 56 _ _ _ at hc
    refine hc.mono fun e w' hq => ?_
    obtain ⟨rfl, k, os, rfl⟩ := hq
    refine ⟨rfl, ?_, grownBy_sortedI _⟩
    unfold OwnY
    rw [srt_len, fl_ints]
    exact ownsRow_sortedI (ss := L) (ts := srt L) (srt_len L) e2 e3 e4 e5 (by rw [e6]; rfl)

end Go.Proofs.YtipkflaamncmbaaGreat

namespace Go.Proofs.YtipkflaamncmbaaGreat
open Go.RowKit Go.Maps
set_option linter.unusedVariables false
set_option linter.unusedSimpArgs false

/-- What f acknowledgements have reached. -/
def rch (f own : Int) (L : List Ak) : Int :=
  if f < 1 then max own 0 else if (L.length : Int) < f then 0 else max 0 (min own ((srt (L.map (·.p))).getD (L.length - f.toNat) 0))
set_option maxRecDepth 100000 in
set_option maxHeartbeats 1000000 in
theorem reached_any (f own : Int) (L : List Ak) (a : Option Addr) (n c : Nat) (w : World) (h : SlY yAkA w a n c L) (hm : n * 32 ≤ 140737488355328) :
    Calls Tryz.prog 15 #[.int .i64 f, .int .i64 own, .slice a n c] w fun e w' => e = .returned (.int .i64 (rch f own L)) ∧ Below w.heap.size w w' := by
  have hmx := h.max
  have hcp := h.cap
  have hln := h.len
  unfold maxLen at hmx
  have H := hide h
  have HN := hide hln
  clear h
  by_cases h1 : f < 1
  · have hr : Hid (rch f own L = max own 0) := by show _ = _; unfold rch; rw [if_pos h1]
    generalize rch f own L = R at *
    go_enter Tryz.func15, Tryz.ntmps15
    go_wp2
    go_ret
    exact ⟨by rw [hr.out]; rfl, Below.refl _ _⟩
  · by_cases h2 : (n : Int) < f
    · have hr : Hid (rch f own L = 0) := by show _ = _; unfold rch; rw [if_neg h1, hln, if_pos h2]
      generalize rch f own L = R at *
      go_enter Tryz.func15, Tryz.ntmps15
      go_wp2
      go_ret
      exact ⟨by rw [hr.out]; rfl, Below.refl _ _⟩
    · obtain ⟨F, rfl⟩ : ∃ F : Nat, f = (F : Int) := ⟨f.toNat, by omega⟩
      have hF1 : 1 ≤ F := by omega
      have hFn : F ≤ n := by omega
      have hr : Hid (rch (F : Int) own L = max 0 (min own ((srt (L.map (·.p))).getD (n - F) 0))) := by show _ = _; unfold rch; rw [if_neg h1, hln, if_neg h2, Int.toNat_natCast]
      generalize rch (F : Int) own L = R at *
      clear hln
      go_enter Tryz.func15, Tryz.ntmps15
      go_wp2_with (at_make; go_must (refine makeYs kI _ rfl (.tmp 21) rfl n rfl (by unfold maxLen; omega) (by show n * 8 ≤ _; omega) ?zk))
      intro w1 o1 b1
      have HO : Hid (OwnY yI w.heap.size w1 (.slice (some ⟨w.heap.size, 0, none⟩) n n) ((L.take 0).map (·.p) ++ List.replicate (n - 0) yI.z)) := by
        show OwnY _ _ _ _ _
        simpa using o1
      clear o1
      go_wp2
      go_loopw [25] (fun i wr => ∃ j : Nat, i = .int .i64 (j : Int) ∧ j ≤ n ∧ Hid (OwnY yI w.heap.size wr (.slice (some ⟨w.heap.size, 0, none⟩) n n) ((L.take j).map (·.p) ++ List.replicate (n - j) yI.z)) ∧ Below w.heap.size w wr) (fun i _ => n - (intOf i).toNat)
      case atStart => exact ⟨0, rfl, Nat.zero_le _, HO, b1⟩
      case round =>
        obtain ⟨j, rfl, hj, hO, hbl⟩ := hrel
        have hsz := hbl.size
        have hlt0 : w.heap.size < wr.heap.size := by
          obtain ⟨_, _, ee, _, _, _, h4⟩ := hO.out.form
          injection ee with ee
          obtain ⟨g', e2, _, h5⟩ := h4 _ ee.symm
          cases e2
          exact h5
        by_cases hlt : j < n
        · have hjl : j < L.length := by rw [HN.out]; exact hlt
          have hg : L[j]? = some L[j] := List.getElem?_eq_getElem hjl
          obtain ⟨q, o, rfl, hq, y0, y1, y2, y3⟩ := (H.out.later hbl).AkA hg
          have hl : ((L.take j).map (·.p)).length = j := by rw [List.length_map, List.length_take]; omega
          have hset : Hid (((L.take j).map (·.p) ++ List.replicate (n - j) yI.z).set j L[j].p = (L.take (j + 1)).map (·.p) ++ List.replicate (n - (j + 1)) yI.z) := by
            show _ = _
            rw [List.set_append_right _ _ (by omega), hl, Nat.sub_self, show n - j = (n - (j + 1)) + 1 by omega, List.replicate_succ, List.set_cons_zero, List.take_add_one, hg, List.map_append]
            simp only [Option.toList_some, List.map_cons, List.map_nil, List.append_assoc, List.cons_append, List.nil_append]
          have hget : Hid (((L.take j).map (·.p) ++ List.replicate (n - j) yI.z)[j]? = some yI.z) := by
            show _ = _
            rw [List.getElem?_append_right (by omega), hl, Nat.sub_self, show n - j = (n - (j + 1)) + 1 by omega, List.replicate_succ]
            rfl
          clear hg hl
          generalize L[j] = x at *
          generalize hX : (L.take j).map (·.p) ++ List.replicate (n - j) yI.z = XX at *
          clear hX
          have bA := hide (hbl.trans (((Below.refl _ wr).alloc (Nat.le_refl _) (.cells #[.int .i64 x.n, .int .u64 x.h, .int .u64 x.l, .int .i64 x.p] 29)).mono hsz))
          have OA := hide (hO.out.alloc (.cells #[.int .i64 x.n, .int .u64 x.h, .int .u64 x.l, .int .i64 x.p] 29))
          clear hO
          go_wp2_with (first
            | (refine storeY kI _ rfl 3 (.tmp 34) (.tmp 33) rfl w.heap.size w.heap.size n n XX j 0 yI.z x.p _ (by show Value.pointer (some ⟨w.heap.size, j, none⟩) = Value.pointer (some ⟨w.heap.size, j * 1 + 0, none⟩); rw [Nat.mul_one, Nat.add_zero]) rfl hget.out (by kernel_rfl) (by exact (by decide : 1 ≤ 1)) rfl OA.out ?_; intro w3 o3 u3 z3; have O3 := hide o3; have U3 := hide u3; clear o3 u3)
            | go_in)
          go_round
          case rel =>
            exact ⟨j + 1, by go_num, by omega, by show OwnY _ _ _ _ _; rw [← hset.out]; exact O3.out, bA.out.trans (U3.out.below (by simp; omega) (fun k e => by subst e; exact Nat.le_refl _))⟩
          case measure => simp [intOf]; omega
        · obtain rfl : j = n := by omega
          have O9 : OwnY yI w.heap.size wr (.slice (some ⟨w.heap.size, 0, none⟩) j j) (L.map (·.p)) := by
            have := hO.out
            rw [Nat.sub_self, List.replicate_zero, List.append_nil, List.take_of_length_le (by rw [HN.out]; exact Nat.le_refl _)] at this
            exact this
          have cs := hide (sort_any (L.map (·.p)) j w.heap.size w.heap.size wr (by rw [List.length_map, HN.out]) O9 (by omega))
          clear hO
          go_wp2_with fail
          refine cs.out.mono ?_
          rintro e w2 ⟨rfl, o2, g2⟩
          have B2 := hide (O9.grown hbl g2 hsz)
          have hix : j - F < (srt (L.map (·.p))).length := by rw [srt_len, List.length_map, HN.out]; omega
          have hgx : (srt (L.map (·.p)))[j - F]? = some ((srt (L.map (·.p))).getD (j - F) 0) := by rw [List.getD_eq_getElem?_getD, List.getElem?_eq_getElem hix]; rfl
          obtain ⟨q, o, ea, _, y0⟩ := (o2.sl' kI).int hgx
          cases ea
          rw [Nat.zero_add] at y0
          generalize (srt (L.map (·.p))).getD (j - F) 0 = p at *
          have hw1 : IntKind.i64.wrap ((j : Int) - (F : Int)) = ((j - F : Nat) : Int) := by rw [IntKind.wrap_i64]; omega
          have hq1 : ¬ (j ≤ j - F) := by omega
          have hq2 : j - F < j := by omega
          clear cs O9 o2 g2 hgx hix
          dsimp only
          go_wp2
          go_ret
          exact ⟨by rw [hr.out]; rfl, B2.out⟩

end Go.Proofs.YtipkflaamncmbaaGreat

namespace Go.Proofs.YtipkflaamncmbaaGreat
open Go.RowKit Go.Maps
set_option linter.unusedVariables false
set_option linter.unusedSimpArgs false

/-- How many have reached m. -/
def cnt (m : Int) (L : List Int) : Nat := (L.filter (fun p => decide (m ≤ p))).length
theorem cnt_perm {m : Int} {L M : List Int} (h : L.Perm M) : cnt m L = cnt m M := (h.filter _).length_eq
theorem srt_perm (L : List Int) : (srt L).Perm L := List.mergeSort_perm L _
theorem srt_sorted (L : List Int) : (srt L).Pairwise (· ≤ ·) := by
  have := List.pairwise_mergeSort (le := fun x y : Int => decide (x ≤ y)) (fun a b c h1 h2 => by simp at *; omega) (fun a b => by simp; omega) L
  exact this.imp (fun h => by simpa using h)
/-- In a list that rises the f greatest have reached m just if the least of them has. -/
theorem cnt_sorted : ∀ (S : List Int) (f : Nat) (m : Int), S.Pairwise (· ≤ ·) → 1 ≤ f → f ≤ S.length → (m ≤ S.getD (S.length - f) 0 ↔ f ≤ cnt m S)
  | [], f, m, _, h1, h2 => by simp at h2; omega
  | x :: r, f, m, hs, h1, h2 => by
    rw [List.pairwise_cons] at hs
    rw [List.length_cons] at h2 ⊢
    by_cases hf : f = r.length + 1
    · subst hf
      rw [Nat.sub_self, List.getD_cons_zero]
      constructor
      · intro hx
        have : (x :: r).filter (fun p => decide (m ≤ p)) = x :: r := by
          rw [List.filter_eq_self]
          intro y hy
          rcases List.mem_cons.1 hy with rfl | hy
          · simpa using hx
          · have := hs.1 y hy
            simp
            omega
        unfold cnt
        rw [this, List.length_cons]
        exact Nat.le_refl _
      · intro hc
        have hle : (x :: r).length ≤ ((x :: r).filter (fun p => decide (m ≤ p))).length := hc
        have := List.filter_eq_self.1 ((List.filter_sublist (l := x :: r) (p := fun p => decide (m ≤ p))).eq_of_length_le hle)
        have := this x (List.mem_cons_self ..)
        simpa using this
    · have ih := cnt_sorted r f m hs.2 h1 (by omega)
      rw [show r.length + 1 - f = (r.length - f) + 1 by omega, List.getD_cons_succ, ih]
      unfold cnt
      rw [List.filter_cons]
      split
      · rename_i hx
        have hx : m ≤ x := by simpa using hx
        have hall : r.filter (fun p => decide (m ≤ p)) = r := by
          rw [List.filter_eq_self]
          intro y hy
          have := hs.1 y hy
          simp
          omega
        rw [hall, List.length_cons]
        omega
      · exact Iff.rfl
theorem rch_ge {f own m : Int} {L : List Ak} (hf : 1 ≤ f) (hm : 1 ≤ m) : m ≤ rch f own L ↔ (m ≤ own ∧ f ≤ (cnt m (L.map (·.p)) : Int)) := by
  unfold rch
  rw [if_neg (by omega)]
  have hcl : cnt m (L.map (·.p)) ≤ L.length := by
    unfold cnt
    exact Nat.le_trans (List.length_filter_le _ _) (by rw [List.length_map]; exact Nat.le_refl _)
  by_cases h : (L.length : Int) < f
  · rw [if_pos h]
    omega
  · rw [if_neg h]
    obtain ⟨F, rfl⟩ : ∃ F : Nat, f = (F : Int) := ⟨f.toNat, by omega⟩
    have hl : (srt (L.map (·.p))).length = L.length := by rw [srt_len, List.length_map]
    have hc := cnt_sorted (srt (L.map (·.p))) F m (srt_sorted _) (by omega) (by omega)
    rw [hl, cnt_perm (srt_perm _)] at hc
    rw [Int.toNat_natCast]
    generalize (srt (L.map (·.p))).getD (L.length - F) 0 = p at *
    have : m ≤ max 0 (min own p) ↔ (m ≤ own ∧ m ≤ p) := by omega
    rw [this, hc]
    omega
theorem rch_nonneg (f own : Int) (L : List Ak) : 0 ≤ rch f own L := by
  unfold rch
  split
  · omega
  · split
    · omega
    · omega
theorem cnt_mono {m m' : Int} (h : m ≤ m') (L : List Int) : cnt m' L ≤ cnt m L := by
  unfold cnt
  induction L with
  | nil => exact Nat.le_refl _
  | cons x r ih =>
    rw [List.filter_cons, List.filter_cons]
    split
    · rename_i h1
      have h1 : m' ≤ x := by simpa using h1
      rw [if_pos (by simp; omega)]
      simp only [List.length_cons]
      omega
    · split
      · simp only [List.length_cons]
        omega
      · exact ih

end Go.Proofs.YtipkflaamncmbaaGreat

