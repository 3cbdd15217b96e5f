import Derived.Test.YtegkkoggfjgkbaaCo
namespace Go.Proofs.Ytegkkoggfjgkbaa.Wi
open Go.RowKit
set_option linter.unusedVariables false

/-- What reading a number from the head of bytes comes to: the error, the number, how many bytes. -/
def tnErr : List Int → Int
  | [] => 10
  | k :: d => if 8 < k then 12 else if (d.length : Int) < k then 10 else if 0 < k ∧ d.getD 0 0 = 0 then 12 else 0
def tnVal (l : List Int) : Nat := if tnErr l = 0 then M.rb ((l.drop 1).take (l.getD 0 0).toNat) else 0
def tnSize (l : List Int) : Nat := if tnErr l = 0 then 1 + (l.getD 0 0).toNat else 0
theorem tn_bad {l : List Int} (h : tnErr l ≠ 0) : tnVal l = 0 ∧ tnSize l = 0 := by unfold tnVal tnSize; rw [if_neg h, if_neg h]; exact ⟨rfl, rfl⟩
theorem ret3 {a b c : Int} {a' b' c' : Int} (h1 : a = a') (h2 : b = b') (h3 : c = c') : Ending.returned (.tuple #[.int .u64 a, .int .i64 b, .int .i64 c]) = .returned (.tuple #[.int .u64 a', .int .i64 b', .int .i64 c']) := by rw [h1, h2, h3]

/-- What a call of takeNumber comes to. -/
def TnPost (l : List Int) (w : World) (e : Ending) (w' : World) : Prop := e = .returned (.tuple #[.int .u64 (tnVal l), .int .i64 (tnSize l), .int .i64 (tnErr l)]) ∧ ∃ k, w' = w.drewN k
theorem TnPost.mk_bad {l : List Int} {w : World} {E : Int} (k : Nat) (h : tnErr l = E) (hE : E ≠ 0) : TnPost l w (.returned (.tuple #[.int .u64 0, .int .i64 0, .int .i64 E])) (w.drewN k) := by
  obtain ⟨h1, h2⟩ := tn_bad (l := l) (by rw [h]; exact hE)
  exact ⟨ret3 (by rw [h1]; rfl) (by rw [h2]; rfl) h.symm, k, rfl⟩

theorem tn_none (a : Option Addr) (c : Nat) (w : World) :
    Calls Try.prog 70 #[.slice a 0 c] w fun e w' => TnPost [] w e w' := by
  go_enter Try.func70, Try.ntmps70
  go_wp2
  go_ret3
  exact TnPost.mk_bad 0 rfl (by decide)

theorem rb_step64 (v : Nat) (z : Int) (hv : v < 72057594037927936) (h0 : 0 ≤ z) (h1 : z < 256) : bits .or .u64 ((v : Int) * 256 % 18446744073709551616) (z % 18446744073709551616) = ((v * 256 + z.toNat : Nat) : Int) := by
  obtain ⟨n, rfl⟩ := Int.eq_ofNat_of_zero_le h0
  have e1 : ((v : Int) * 256 % 18446744073709551616) = ((v * 2 ^ 8 : Nat) : Int) := by omega
  have e2 : ((n : Int) % 18446744073709551616) = (n : Int) := by omega
  rw [e1, e2, u64_or_nat _ _ (by omega) (by omega), M.or_low v n 8 (by omega)]
  simp

theorem tnErr_form {k : Int} {d : List Int} (h : 8 < k) : tnErr (k :: d) = 12 := by simp only [tnErr]; rw [if_pos h]
theorem tnErr_short {k : Int} {d : List Int} (h : ¬ 8 < k) (h2 : (d.length : Int) < k) : tnErr (k :: d) = 10 := by simp only [tnErr]; rw [if_neg h, if_pos h2]
theorem tnErr_zero {k : Int} {d : List Int} (h : ¬ 8 < k) (h2 : ¬ (d.length : Int) < k) (h3 : 0 < k) (h4 : d.getD 0 0 = 0) : tnErr (k :: d) = 12 := by simp only [tnErr]; rw [if_neg h, if_neg h2, if_pos ⟨h3, h4⟩]
theorem tnErr_ok {k : Int} {d : List Int} (h : ¬ 8 < k) (h2 : ¬ (d.length : Int) < k) (h3 : ¬ (0 < k ∧ d.getD 0 0 = 0)) : tnErr (k :: d) = 0 := by simp only [tnErr]; rw [if_neg h, if_neg h2, if_neg h3]
theorem TnPost.mk_ok {k : Int} {d : List Int} {w : World} (j : Nat) (h : tnErr (k :: d) = 0) {v s : Int} (hv : v = (M.rb (d.take k.toNat) : Nat)) (hs : s = ((1 + k.toNat : Nat) : Int)) : TnPost (k :: d) w (.returned (.tuple #[.int .u64 v, .int .i64 s, .int .i64 0])) (w.drewN j) := by
  refine ⟨ret3 ?_ ?_ h.symm, j, rfl⟩
  · unfold tnVal; rw [if_pos h, hv]; rfl
  · unfold tnSize; rw [if_pos h, hs]; rfl

set_option maxHeartbeats 400000 in
theorem tn_one (b o : Nat) (k : Int) (w : World) (hk0 : 0 ≤ k) (hk1 : k < 256) (h0 : w.cell? ⟨b, o, none⟩ = some (.int .u8 k)) :
    Calls Try.prog 70 #[.slice (some ⟨b, o, none⟩) 1 1] w fun e w' => TnPost [k] w e w' := by
  by_cases h8 : 8 < k
  · have H := hide (tnErr_form (d := []) h8)
    go_enter Try.func70, Try.ntmps70
    go_wp2
    go_quiet (fail)
    go_wp2
    go_ret3
    exact TnPost.mk_bad nq H.out (by decide)
  · by_cases hp : 0 < k
    · have H := hide (tnErr_short (d := []) h8 (by simpa using hp))
      go_enter Try.func70, Try.ntmps70
      go_wp2
      go_quiet (fail)
      go_wp2
      go_ret3
      exact TnPost.mk_bad nq H.out (by decide)
    · obtain rfl : k = 0 := by omega
      have H := hide (tnErr_ok (k := 0) (d := []) h8 (by simp) (by simp))
      go_enter Try.func70, Try.ntmps70
      go_wp2
      go_quiet (fail)
      go_wp2
      go_loop [7, 8, 36] (fun v _ i => v = .int .u64 0 ∧ i = .int .i64 0) (fun _ _ _ => 0)
      case atStart => exact ⟨rfl, rfl⟩
      case round =>
        obtain ⟨rfl, rfl⟩ := hrel
        go_wp2
        go_ret3
        exact TnPost.mk_ok nq H.out rfl rfl

set_option maxRecDepth 100000 in
set_option maxHeartbeats 1000000 in
theorem tn_more (b o n c : Nat) (k : Int) (d : List Int) (w : World) (hn : d.length = n) (hc : n + 1 ≤ c) (hc2 : 2 ≤ c) (hmx : c ≤ maxLen) (hr : Row w ⟨b, o, none⟩ (k :: d)) (hb : ∀ z ∈ k :: d, 0 ≤ z ∧ z < 256) :
    Calls Try.prog 70 #[.slice (some ⟨b, o, none⟩) (n + 1) c] w fun e w' => TnPost (k :: d) w e w' := by
  obtain ⟨hk0, hk1⟩ := hb k (by simp)
  unfold maxLen at hmx
  have h0 : w.cell? ⟨b, o, none⟩ = some (.int .u8 k) := hr 0 (by simp)
  have hd : ∀ i, i < n → w.cell? ⟨b, o + 1 + i, none⟩ = some (.int .u8 (d.getD i 0)) := by
    intro i hi
    have := hr (i + 1) (by simp; omega)
    rw [Addr.add_lit] at this
    rw [show o + 1 + i = o + (i + 1) from by omega, this]
    rfl
  have hnc : (n : Int) + 1 ≤ (c : Int) := by omega
  by_cases h8 : 8 < k
  · have H := hide (tnErr_form (d := d) h8)
    clear hr hd hb hn
    go_enter Try.func70, Try.ntmps70
    go_wp2
    go_quiet (fail)
    go_wp2
    go_ret3
    exact TnPost.mk_bad nq H.out (by decide)
  · by_cases hs : (n : Int) < k
    · have H := hide (tnErr_short (d := d) h8 (by rw [hn]; exact hs))
      clear hr hd hb hn
      go_enter Try.func70, Try.ntmps70
      go_wp2
      go_quiet (fail)
      go_wp2
      go_ret3
      exact TnPost.mk_bad nq H.out (by decide)
    · by_cases hz : 0 < k ∧ d.getD 0 0 = 0
      · have H := hide (tnErr_zero h8 (by rw [hn]; exact hs) hz.1 hz.2)
        have hd0 := hd 0 (by omega)
        rw [hz.2, Nat.add_zero] at hd0
        obtain ⟨hz1, _⟩ := hz
        clear hr hd hb hn
        go_enter Try.func70, Try.ntmps70
        go_wp2
        go_quiet (fail)
        go_wp2
        go_ret3
        exact TnPost.mk_bad nq H.out (by decide)
      · have H := hide (tnErr_ok h8 (by rw [hn]; exact hs) hz)
        obtain ⟨K, rfl⟩ := Int.eq_ofNat_of_zero_le hk0
        have hbd : ∀ z ∈ d, 0 ≤ z ∧ z < 256 := fun z hz => hb z (by simp [hz])
        have hKn : K ≤ n := by omega
        have hlen := hide hn
        by_cases hp : 0 < K
        · have hd0 := hd 0 (by omega)
          rw [Nat.add_zero] at hd0
          have hzb : (d[0]?.getD 0 == 0) = false := by
            rw [beq_eq_false_iff_ne]
            intro h
            exact hz ⟨by omega, h⟩
          have HD := hide hd
          clear hr hb hn hz hd
          go_enter Try.func70, Try.ntmps70
          go_wp2
          go_quiet (fail)
          go_wp2
          go_loop [7, 8, 36] (fun v _ i => ∃ j : Nat, j ≤ K ∧ i = .int .i64 j ∧ v = .int .u64 (M.rb (d.take j) : Nat)) (fun _ _ i => K - (intOf i).toNat)
          case atStart => exact ⟨0, Nat.zero_le _, rfl, rfl⟩
          case round =>
            obtain ⟨j, hj, rfl, rfl⟩ := hrel
            by_cases hlt : j < K
            · have hcell := HD.out j (by omega)
              have hdl : j < d.length := by rw [hlen.out]; omega
              have hz : 0 ≤ d.getD j 0 ∧ d.getD j 0 < 256 := hbd _ (by simp [List.getD, hdl])
              have hv : M.rb (d.take j) < 256 ^ 7 := Nat.lt_of_lt_of_le (M.rb_lt (d.take j) (fun z hz => hbd z (List.mem_of_mem_take hz))) (Nat.pow_le_pow_right (by omega) (by simp; omega))
              have HV := hide (rb_step64 (M.rb (d.take j)) (d.getD j 0) (by omega) hz.1 hz.2)
              have HT := hide (M.rb_take d j hdl)
              clear hv hz hdl
              go_wp2
              go_round
              case rel => exact ⟨j + 1, by omega, by go_num, int_eq (by rw [HT.out]; exact HV.out)⟩
              case measure => simp [intOf]; omega
            · obtain rfl : j = K := by omega
              go_wp2
              go_ret3
              exact TnPost.mk_ok nq H.out rfl (by simp)
        · obtain rfl : K = 0 := by omega
          clear hr hb hn hz hd
          go_enter Try.func70, Try.ntmps70
          go_wp2
          go_quiet (fail)
          go_wp2
          go_loop [7, 8, 36] (fun v _ i => v = .int .u64 0 ∧ i = .int .i64 0) (fun _ _ _ => 0)
          case atStart => exact ⟨rfl, rfl⟩
          case round =>
            obtain ⟨rfl, rfl⟩ := hrel
            go_wp2
            go_ret3
            exact TnPost.mk_ok nq H.out rfl rfl

theorem tn_any (a : Option Addr) (n c : Nat) (l : List Int) (w : World) (h : Hs w a n c l) (hm : c ≤ maxLen) :
    Calls Try.prog 70 #[.slice a n c] w fun e w' => TnPost l w e w' := by
  cases l with
  | nil =>
    obtain rfl : n = 0 := h.len.symm
    exact tn_none a c w
  | cons k d =>
    have hn : n = d.length + 1 := h.len.symm
    subst hn
    cases a with
    | none => cases (h.nil rfl).1
    | some x =>
      obtain ⟨b, o, rfl⟩ := h.flat (by omega)
      have hr := h.row _ rfl
      have hcap := h.cap
      by_cases hc : 2 ≤ c
      · exact tn_more b o d.length c k d w rfl hcap hc hm hr h.byte
      · obtain rfl : c = 1 := by omega
        obtain rfl : d = [] := List.eq_nil_of_length_eq_zero (by omega)
        obtain ⟨h1, h2⟩ := h.byte k (by simp)
        exact tn_one b o k w h1 h2 (hr 0 (by simp))
#print axioms tn_any

end Go.Proofs.Ytegkkoggfjgkbaa.Wi
