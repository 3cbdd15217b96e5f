import Derived.Test.YtomiifnhcojilaaS11
namespace Go.Proofs.Ytomiifnhcojilaa
open Go.RowKit Go.Maps
open Classical
set_option linter.unusedVariables false
set_option linter.unusedSimpArgs false

theorem dg_vl : ∀ i, i < 16 → vl9 (dgN i) = (i : Int) := by decide
theorem dg_in : ∀ i, i < 16 → 0 ≤ dgN i ∧ dgN i < 256 := by decide
theorem vl_dg (c : Int) (h : 0 ≤ vl9 c) : dgN (vl9 c).toNat = c := by
  have a : ∀ k, k < 10 → dgN k = 48 + (k : Int) := by decide
  have b : ∀ k, k < 6 → dgN (10 + k) = 97 + (k : Int) := by decide
  unfold vl9 at *
  by_cases h1 : 48 ≤ c ∧ c ≤ 57
  · rw [if_pos h1, a _ (by omega)]
    omega
  · rw [if_neg h1] at *
    by_cases h2 : 97 ≤ c ∧ c ≤ 102
    · rw [if_pos h2, show (c - 87).toNat = 10 + (c - 97).toNat by omega, b _ (by omega)]
      omega
    · rw [if_neg h2] at h
      omega
theorem txt_str (l : List Int) (h : ∀ x ∈ l, 0 ≤ x ∧ x < 256) : txt (strOfNums l) = l := by
  unfold txt
  rw [strOfNums_data, List.map_map]
  conv => rhs; rw [← List.map_id l]
  apply List.map_congr_left
  intro x hx
  have := h x hx
  show (((UInt8.ofNat x.toNat).toNat : Nat) : Int) = x
  rw [UInt8.toNat_ofNat']
  omega
theorem str_txt (s : ByteArray) : strOfNums (txt s) = s := by
  have : (strOfNums (txt s)).data = s.data := by
    apply Array.toList_inj.1
    rw [strOfNums_data, txt, List.map_map]
    conv => rhs; rw [← List.map_id s.data.toList]
    apply List.map_congr_left
    intro x hx
    show UInt8.ofNat ((x.toNat : Int).toNat) = x
    rw [Int.toNat_natCast, UInt8.ofNat_toNat]
  cases s
  cases h : strOfNums (txt ⟨_⟩)
  rw [h] at this
  simp only at this
  rw [this]
theorem prF_cons (x : Int) (r : List Int) : prF (x :: r) = dgN (x.toNat / 16) :: dgN (x.toNat % 16) :: prF r := rfl
theorem prF_get : ∀ (h : List Int) (i n : Nat), h[i]? = some (n : Int) → (prF h).getD (2 * i) 0 = dgN (n / 16) ∧ (prF h).getD (2 * i + 1) 0 = dgN (n % 16)
  | [], i, n, e => by simp at e
  | x :: r, 0, n, e => by
    obtain rfl : x = (n : Int) := by simpa using e
    rw [prF_cons, Int.toNat_natCast]
    exact ⟨rfl, rfl⟩
  | x :: r, i + 1, n, e => by
    have := prF_get r i n (by simpa using e)
    rw [prF_cons, show 2 * (i + 1) = 2 * i + 1 + 1 by omega, show 2 * i + 1 + 1 + 1 = (2 * i + 1) + 1 + 1 by omega]
    simp only [List.getD_cons_succ]
    exact this
theorem prF_in (h : List Int) (hh : ∀ x ∈ h, 0 ≤ x ∧ x < 256) : ∀ x ∈ prF h, 0 ≤ x ∧ x < 256 := by
  intro x hx
  obtain ⟨y, hy, hm⟩ := List.mem_flatMap.1 hx
  have hb := hh y hy
  simp only [prN, List.mem_cons, List.not_mem_nil, or_false] at hm
  rcases hm with rfl | rfl
  · exact dg_in _ (by omega)
  · exact dg_in _ (by omega)
def pr9 (t : List Int) (i : Nat) : Int := vl9 (t.getD (2 * i) 0) * 16 + vl9 (t.getD (2 * i + 1) 0)
theorem set_rep (X : List Int) (k : Nat) (hX : X.length = k) (hk : k < 32) (v : Int) (u : Int) (m : Nat) : (X ++ u :: List.replicate m 0).set k v = X ++ v :: List.replicate m 0 ∧ (X ++ u :: List.replicate m 0).getD k 0 = u := by
  subst hX
  refine ⟨by rw [List.set_append_right _ _ (Nat.le_refl _), Nat.sub_self, List.set_cons_zero], ?_⟩
  rw [List.getD_eq_getElem?_getD, List.getElem?_append_right (Nat.le_refl _), Nat.sub_self]
  rfl
theorem hS9_two (t : List Int) : ∀ k, k ≤ 32 → (∀ i, i < 2 * k → 0 ≤ vl9 (t.getD i 0)) → hS9 t (2 * k) = (List.range k).map (pr9 t) ++ List.replicate (32 - k) 0
  | 0, _, _ => by simp [hS9]
  | k + 1, hk, hv => by
    have h1 := hv (2 * k) (by omega)
    have h2 := hv (2 * k + 1) (by omega)
    have l1 := vl9_lt (t.getD (2 * k) 0)
    have l2 := vl9_lt (t.getD (2 * k + 1) 0)
    have hX : ((List.range k).map (pr9 t)).length = k := by simp
    have e0 : List.replicate (32 - k) (0 : Int) = 0 :: List.replicate (32 - (k + 1)) 0 := by rw [show 32 - k = (32 - (k + 1)) + 1 by omega, List.replicate_succ]
    have i1 : hS9 t (2 * k + 1) = (List.range k).map (pr9 t) ++ vl9 (t.getD (2 * k) 0) :: List.replicate (32 - (k + 1)) 0 := by
      rw [hS9, hS9_two t k (by omega) (fun i hi => hv i (by omega)), e0, show 2 * k / 2 = k by omega, (set_rep _ k hX (by omega) _ 0 _).1, (set_rep _ k hX (by omega) 0 0 _).2]
      congr 2
      omega
    rw [show 2 * (k + 1) = (2 * k + 1) + 1 by omega, hS9, i1, show (2 * k + 1) / 2 = k by omega, (set_rep _ k hX (by omega) _ _ _).1, (set_rep _ k hX (by omega) 0 _ _).2, List.range_succ, List.map_append, List.append_assoc]
    congr 1
    show _ :: _ = pr9 t k :: _
    congr 1
    unfold pr9
    omega
theorem hS9_64 (t : List Int) (hv : ∀ i, i < 64 → 0 ≤ vl9 (t.getD i 0)) : hS9 t 64 = (List.range 32).map (pr9 t) := by
  have := hS9_two t 32 (Nat.le_refl _) hv
  rw [Nat.sub_self, List.replicate_zero, List.append_nil] at this
  exact this
theorem range_get (f : Nat → Int) {i : Nat} (hi : i < 32) : ((List.range 32).map f)[i]? = some (f i) := by
  rw [List.getElem?_map, List.getElem?_range hi]
  rfl
theorem prF_ok {h : List Int} (hh : Hb h) : ∀ i, i < 64 → 0 ≤ vl9 ((prF h).getD i 0) := fun i hi => by
  obtain ⟨n, hn, hx, _⟩ := hh.at_ (j := i / 2) (by omega)
  obtain ⟨g1, g2⟩ := prF_get h (i / 2) n hx
  rcases Nat.mod_two_eq_zero_or_one i with e | e
  · rw [show i = 2 * (i / 2) by omega, g1, dg_vl _ (by omega)]
    omega
  · rw [show i = 2 * (i / 2) + 1 by omega, g2, dg_vl _ (by omega)]
    omega
theorem hS9_print {h : List Int} (hh : Hb h) : hS9 (prF h) 64 = h := by
  rw [hS9_64 _ (prF_ok hh)]
  apply List.ext_getElem?
  intro i
  by_cases hi : i < 32
  · obtain ⟨n, hn, hx, _⟩ := hh.at_ hi
    obtain ⟨g1, g2⟩ := prF_get h i n hx
    rw [range_get _ hi, hx, pr9, g1, g2, dg_vl _ (by omega), dg_vl _ (by omega)]
    congr 1
    omega
  · rw [List.getElem?_eq_none (by simp; omega), List.getElem?_eq_none (by rw [hh.len]; omega)]
theorem pr9_in (t : List Int) (hv : ∀ i, i < 64 → 0 ≤ vl9 (t.getD i 0)) (i : Nat) (hi : i < 32) : 0 ≤ pr9 t i ∧ pr9 t i < 256 := by
  have h1 := hv (2 * i) (by omega)
  have h2 := hv (2 * i + 1) (by omega)
  have l1 := vl9_lt (t.getD (2 * i) 0)
  have l2 := vl9_lt (t.getD (2 * i + 1) 0)
  unfold pr9
  omega
theorem hb_hS9 (t : List Int) (hv : ∀ i, i < 64 → 0 ≤ vl9 (t.getD i 0)) : Hb (hS9 t 64) := ⟨hS9_len t 64, fun x hx => by
  rw [hS9_64 t hv] at hx
  obtain ⟨i, hi, rfl⟩ := List.mem_map.1 hx
  exact pr9_in t hv i (List.mem_range.1 hi)⟩
theorem prF_hS9 (t : List Int) (hl : t.length = 64) (hv : ∀ i, i < 64 → 0 ≤ vl9 (t.getD i 0)) : prF (hS9 t 64) = t := by
  have hlen : (prF (hS9 t 64)).length = 64 := by rw [prF_len, hS9_len]
  apply List.ext_getElem?
  intro i
  by_cases hi : i < 64
  · have hb := pr9_in t hv (i / 2) (by omega)
    have hg : (hS9 t 64)[i / 2]? = some (((pr9 t (i / 2)).toNat : Nat) : Int) := by rw [hS9_64 t hv, range_get _ (by omega), Int.toNat_of_nonneg hb.1]
    obtain ⟨g1, g2⟩ := prF_get _ (i / 2) _ hg
    have h1 := hv (2 * (i / 2)) (by omega)
    have h2 := hv (2 * (i / 2) + 1) (by omega)
    have l1 := vl9_lt (t.getD (2 * (i / 2)) 0)
    have l2 := vl9_lt (t.getD (2 * (i / 2) + 1) 0)
    have e : (prF (hS9 t 64)).getD i 0 = t.getD i 0 := by
      rcases Nat.mod_two_eq_zero_or_one i with e | e
      · rw [show i = 2 * (i / 2) by omega, g1, show (pr9 t (i / 2)).toNat / 16 = (vl9 (t.getD (2 * (i / 2)) 0)).toNat by unfold pr9; omega, vl_dg _ h1]
      · rw [show i = 2 * (i / 2) + 1 by omega, g2, show (pr9 t (i / 2)).toNat % 16 = (vl9 (t.getD (2 * (i / 2) + 1) 0)).toNat by unfold pr9; omega, vl_dg _ h2]
    rw [List.getD_eq_getElem?_getD, List.getD_eq_getElem?_getD, List.getElem?_eq_getElem (by omega), List.getElem?_eq_getElem (by omega)] at e
    rw [List.getElem?_eq_getElem (by omega), List.getElem?_eq_getElem (by omega)]
    simpa using e
  · rw [List.getElem?_eq_none (by omega), List.getElem?_eq_none (by omega)]
theorem PS.back {h : List Int} (hh : Hb h) {r : List Int × Int × Int} (k : PS (prF h) r) : r = (h, 0, 0) := by
  have hl : (prF h).length = 64 := by rw [prF_len, hh.len]
  have := k.one (s := (hS9 (prF h) 64, 0, 0)) (.inr ⟨fun i hi => prF_ok hh i (by omega), .inr ⟨hl, rfl⟩⟩)
  rw [hS9_print hh] at this
  exact this
theorem PS.ok {t : List Int} {r : List Int × Int × Int} (k : PS t r) (e : r.2.1 = 0) : prF r.1 = t ∧ r.2.2 = 0 ∧ Hb r.1 := by
  unfold PS at k
  have a1 := prF_hS9 t
  have a2 := hb_hS9 t
  generalize hS9 t 64 = X at *
  rcases k with ⟨j, _, _, _, rfl⟩ | ⟨hv, ⟨_, rfl⟩ | ⟨hl, rfl⟩⟩
  · cases e
  · cases e
  · exact ⟨a1 hl (fun i hi => hv i (by omega)), rfl, a2 (fun i hi => hv i (by omega))⟩
theorem PS.no {t : List Int} {r : List Int × Int × Int} (k : PS t r) (e : ¬ r.2.1 = 0) : r.1 = z32 ∧ 0 ≤ r.2.2 ∧ r.2.2 ≤ (t.length : Int) ∧ r.2.2 ≤ 64 := by
  unfold PS at k
  generalize hS9 t 64 = X at *
  rcases k with ⟨j, hj, _, _, rfl⟩ | ⟨hv, ⟨_, rfl⟩ | ⟨hl, rfl⟩⟩
  · exact ⟨rfl, by show (0 : Int) ≤ (j : Int); omega, by show (j : Int) ≤ _; omega, by show (j : Int) ≤ 64; omega⟩
  · exact ⟨rfl, by show (0 : Int) ≤ ((min t.length 64 : Nat) : Int); omega, by show ((min t.length 64 : Nat) : Int) ≤ _; omega, by show ((min t.length 64 : Nat) : Int) ≤ 64; omega⟩
  · exact absurd rfl e
/-- A text with one sign changed. -/
def chg (t : List Int) (k : Nat) (c : Int) : List Int := t.take k ++ [c] ++ t.drop (k + 1)
theorem PS.chg {h : List Int} (hh : Hb h) {k : Nat} (hk : k < 64) {c : Int} (hc : vl9 c < 0) {r : List Int × Int × Int} (q : PS (chg (prF h) k c) r) : r = (z32, 190, (k : Int)) := by
  have hl : (prF h).length = 64 := by rw [prF_len, hh.len]
  have hlt : ((prF h).take k).length = k := by rw [List.length_take]; omega
  have hcl : (Proofs.Ytomiifnhcojilaa.chg (prF h) k c).length = 64 := by simp only [Proofs.Ytomiifnhcojilaa.chg, List.length_append, List.length_take, List.length_drop, List.length_cons, List.length_nil]; omega
  refine q.one (.inl ⟨k, by omega, fun i hi => ?_, ?_, rfl⟩)
  · have : (Proofs.Ytomiifnhcojilaa.chg (prF h) k c).getD i 0 = (prF h).getD i 0 := by
      unfold Proofs.Ytomiifnhcojilaa.chg
      rw [List.getD_eq_getElem?_getD, List.getElem?_append_left (by rw [List.length_append]; omega), List.getElem?_append_left (by omega), List.getElem?_take, if_pos hi, ← List.getD_eq_getElem?_getD]
    rw [this]
    exact prF_ok hh i (by omega)
  · have : (Proofs.Ytomiifnhcojilaa.chg (prF h) k c).getD k 0 = c := by
      unfold Proofs.Ytomiifnhcojilaa.chg
      rw [List.getD_eq_getElem?_getD, List.getElem?_append_left (by rw [List.length_append, List.length_cons]; omega), List.getElem?_append_right (by omega), hlt, Nat.sub_self]
      rfl
    rw [this]
    exact hc
theorem txt_app (s t : ByteArray) : txt (s ++ t) = txt s ++ txt t := by
  unfold txt
  rw [ByteArray.data_append, Array.toList_append, List.map_append]
theorem txt_to (s : ByteArray) (k : Nat) : txt (s.extract 0 k) = (txt s).take k := by
  unfold txt
  rw [ByteArray.data_extract, Array.toList_extract, List.map_take]
  simp [List.extract_eq_take_drop]
theorem txt_from (s : ByteArray) (k : Nat) : txt (s.extract k s.size) = (txt s).drop k := by
  unfold txt
  rw [ByteArray.data_extract, Array.toList_extract, List.extract_eq_take_drop, List.take_of_length_le (by rw [List.length_drop, Array.length_toList]; exact Nat.le_refl _), List.map_drop]
theorem slS_to (s : ByteArray) (k : Nat) (h : k ≤ s.size) (w : World) : (Instr.sliceAt 9 (.string s) none (some (.int .i64 (k : Int))) none).run Try.prog w = .ok (.string (s.extract 0 k)) w := by
  have e1 : (0 : Int) ≤ (k : Int) := by omega
  have e2 : (k : Int) ≤ (s.size : Int) := by omega
  go_simp
theorem slS_from (s : ByteArray) (k : Nat) (h : k ≤ s.size) (w : World) : (Instr.sliceAt 9 (.string s) (some (.int .i64 (k : Int))) none none).run Try.prog w = .ok (.string (s.extract k s.size)) w := by
  have e1 : (0 : Int) ≤ (k : Int) := by omega
  have e2 : (k : Int) ≤ (s.size : Int) := by omega
  go_simp
theorem addS (x y : Operand) (s t : ByteArray) (h : s.size + t.size ≤ 1000) (w : World) : (do eqGuard .add 9 x y (.string s) (.string t); binOp .add 9 (.string s) (.string t) : Sem Value).run Try.prog w = .ok (.string (s ++ t)) w := by
  have e : (eqGuard .add 9 x y (.string s) (.string t)).run Try.prog w = .ok () w := by go_simp
  rw [Sem.run_bind, e, Result.andThen_ok]
  show (Op.stringOp .add s t).run Try.prog w = _
  unfold Op.stringOp
  simp only
  rw [if_neg (by show ¬ _ > (9223372036854775807 : Int); omega)]
  rfl
theorem neqS (x y : Operand) (s t : ByteArray) (w : World) : (do eqGuard .neq 9 x y (.string s) (.string t); binOp .neq 9 (.string s) (.string t) : Sem Value).run Try.prog w = .ok (.bool (!(s.toList == t.toList))) w := by go_simp
theorem bs1B (x : Int) (w : World) : (Instr.buildSlice 73 1 #[(0, .int .u8 x)]).run Try.prog w = .ok (.slice (some ⟨w.heap.size, 0, none⟩) 1 1) (w.alloc (.cells (([x] : List Int).map bV).toArray 5)) := by
  simp only [List.map_cons, List.map_nil, bV]
  go_simp
theorem vh_twoV {ops : Array Oper} {o o2 : Oper} {T : Array Value} {df : List Deferred} {w : World} {Q : Exit → Act → World → Prop} {S : World → Prop} {fuel d d2 n : Nat} {listed : Array Bool} (i j : Nat) (hr : Region.ready .any ops listed = [i, j]) (hi : ops[i]? = some o) (hj : ops[j]? = some o2)
    (V1 : Value) (w1 : World) (hw : Region.wanted o (yielded ops T) = true) (he : (execOp (⟨T, df⟩ : Act).eval o).run Try.prog w = .ok (.value V1) w1) (hd : o.dst = some d) (hz : T.size = n) (hn : d < n) (hS1 : S w1)
    (hk : ∀ T' : Array Value, T'.size = n → (∀ j, j ≠ d → T'[j]? = T[j]?) → T'[d]? = some (gw true V1) → VH ops Q S fuel (listed.setIfInBounds i true) ⟨T', df⟩ w1)
    (V : Value) (w2 : World) (hw2 : Region.wanted o2 (yielded ops T) = true) (he2 : (execOp (⟨T, df⟩ : Act).eval o2).run Try.prog w = .ok (.value V) w2) (hd2 : o2.dst = some d2) (hn2 : d2 < n) (hS2 : S w2)
    (hk2 : ∀ T' : Array Value, T'.size = n → (∀ j, j ≠ d2 → T'[j]? = T[j]?) → T'[d2]? = some (gw true V) → VH ops Q S fuel (listed.setIfInBounds j true) ⟨T', df⟩ w2) : VH ops Q S (fuel + 1) listed ⟨T, df⟩ w := by
  refine ⟨wpAnyH_all hr (by simp) (fun k hkm => ?_)⟩
  have hkm : k = i ∨ k = j := by simpa using hkm
  rcases hkm with rfl | rfl
  · unfold wpOp
    rw [hi]
    simp only [hw, if_true]
    refine .inl ?_
    unfold Oper.wp
    rw [he, Oper.upon_value]
    refine ⟨hS1, ?_⟩
    rw [hd]
    exact (hk (T.setIfInBounds d V1) (by simp [hz]) (fun i hi => at_set_ne _ hi) (at_set _ (by omega))).out
  · unfold wpOp
    rw [hj]
    simp only [hw2, if_true]
    refine .inl ?_
    unfold Oper.wp
    rw [he2, Oper.upon_value]
    refine ⟨hS2, ?_⟩
    rw [hd2]
    exact (hk2 (T.setIfInBounds d2 V) (by simp [hz]) (fun i hi => at_set_ne _ hi) (at_set _ (by omega))).out

end Go.Proofs.Ytomiifnhcojilaa
