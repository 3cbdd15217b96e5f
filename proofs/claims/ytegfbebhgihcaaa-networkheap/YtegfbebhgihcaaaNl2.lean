import Derived.Test.YtegfbebhgihcaaaNl1
import Derived.BigQuiet
namespace Go.Proofs.Ytegfbebhgihcaaa
open Go.RowKit Go.Maps
set_option linter.unusedVariables false
set_option linter.unusedSimpArgs false

set_option maxRecDepth 100000 in
set_option maxHeartbeats 1000000 in
theorem fit_own (x : Ap) (w : World) (hx : x.In w) (hs : x.s.length ≤ 140737488355328) : Calls Try.prog 24 #[x.val] w fun e w' => ∃ y : Ap, e = .returned y.val ∧ y.pk = ⟨ad5 x.t, x.s.take 32768, ad5 x.f⟩ ∧ y.In w' ∧ (∀ z, y.a = some z → w.heap.size ≤ z.block ∧ z.block < w'.heap.size) ∧ Below w.heap.size w w' := by
  have HT : ∀ o o', Hid (Calls Try.prog 72 #[x.val] ((w.alloc o).alloc o') fun e w' => ∃ y : Ap, e = .returned y.val ∧ y.pk = x.pk ∧ OwnY yU ((w.alloc o).alloc o').heap.size w' (.slice y.a y.s.length y.c) y.s ∧ Below ((w.alloc o).alloc o').heap.size ((w.alloc o).alloc o') w') := fun o o' => twin_any x _ ((SlY.alloc8 hx _).alloc8 _) hs
  obtain ⟨f, t, a, c, s⟩ := x
  unfold Ap.val at HT ⊢
  dsimp only at hs HT ⊢
  clear hx
  go_enter Try.func24, Try.ntmps24
  go_wp2_with fail
  refine (HT _ _).out.mono ?_
  rintro e w1 ⟨y, rfl, hy, ho, hb⟩
  obtain ⟨f2, t2, a2, c2, s2⟩ := y
  unfold Ap.pk at hy
  injection hy with h1 h2 h3
  dsimp only at h1 h2 h3
  subst h1 h2 h3
  have ha1 := fun v => hide (address_any f2 v)
  have ha2 := fun v => hide (address_any t2 v)
  have hz1 : w.heap.size + 1 + 1 ≤ w1.heap.size := by have := hb.size; simp at this; omega
  have Q1 : B3 w1 w.heap.size (.int .i64 f2) (.int .i64 t2) (.slice a s2.length c) := ((B3.new w _ _ _ _).bel ((Below.refl _ _).alloc (Nat.le_refl _) _)).bel hb
  have Q2 : B3 w1 (w.heap.size + 1) (.int .i64 0) (.int .i64 0) (.slice none 0 0) := by
    have := (B3.new (w.alloc (.cells #[.int .i64 f2, .int .i64 t2, .slice a s2.length c] 46)) (.int .i64 0) (.int .i64 0) (.slice none 0 0) 46).bel hb
    simpa using this
  have HO := hide ho
  have HB : Hid (Below w.heap.size w w1) := (bel8 ((Below.refl _ _).alloc (Nat.le_refl _) _) (Nat.le_refl _) _).trans (hb.mono (by simp; omega))
  have hcp : s2.length ≤ c2 := (ho.sl' kU).cap
  have KU : Hid (∀ v, Upd (fun k => k = w.heap.size ∨ k = w.heap.size + 1) w1 v → SlY yU v a2 s2.length c2 s2 ∧ Below w.heap.size w v) := fun v u => ⟨(HO.out.upd1 u (fun k hk e => by have := (HO.out.blk k hk).1; simp at this; omega)).sl' kU, HB.out.trans (u.below HB.out.size (fun k hk => by omega))⟩
  have KZ : Hid (∀ v : World, w1.heap.size ≤ v.heap.size → ∀ z, a2 = some z → w.heap.size ≤ z.block ∧ z.block < v.heap.size) := fun v hv z hz => by
    have := HO.out.blk z.block (by rw [hz]; rfl)
    simp at this
    omega
  have nq : ¬ w.heap.size + 1 = w.heap.size := by omega
  obtain ⟨_, c0, c1, c3, q1⟩ := Q1
  have HQ2 := hide Q2
  have HQ1 : Hid (B3 w1 w.heap.size (.int .i64 f2) (.int .i64 t2) (.slice a s2.length c)) := ⟨by omega, c0, c1, c3, q1⟩
  clear ho hb HT Q2
  go_wp2_with fail
  refine (ha1 _).out.mono ?_
  rintro e v1 ⟨rfl, rfl⟩
  have G1 := ((HQ1.out.set0 (.int .i64 f2)).set1 (.int .i64 t2)).set2 (.slice a2 s2.length c2)
  have U1 := set3 w1 w.heap.size (.int .i64 f2) (.int .i64 t2) (.slice a2 s2.length c2)
  clear c0 c1 c3 q1
  generalize ((w1.setCell ⟨w.heap.size, 0, none⟩ (.int .i64 f2)).setCell ⟨w.heap.size, 1, none⟩ (.int .i64 t2)).setCell ⟨w.heap.size, 2, none⟩ (.slice a2 s2.length c2) = X1 at *
  have HU1 := hide U1
  have HG1 := hide G1
  obtain ⟨_, c0, c1, c3, q1⟩ := G1
  clear U1
  go_wp2_with fail
  refine (ha2 _).out.mono ?_
  rintro e v2 ⟨rfl, rfl⟩
  have G2 := HG1.out.set0 (.int .i64 (ad5 f2))
  have HU2 := hide (HU1.out.trans (upd1 X1 w.heap.size 0 (.int .i64 (ad5 f2))))
  clear c0 c1 c3 q1
  generalize X1.setCell ⟨w.heap.size, 0, none⟩ (.int .i64 (ad5 f2)) = X2 at *
  have HG2 := hide G2
  obtain ⟨_, c0, c1, c3, q1⟩ := G2
  by_cases hlong : (32768 : Int) < (s2.length : Int)
  · have d1 : decide ((32768 : Int) < (s2.length : Int)) = true := decide_eq_true hlong
    have hc32 : (32768 : Int) ≤ (c2 : Int) := by omega
    have hc33 : 32768 ≤ c2 := by omega
    have hc34 : 32768 ≤ s2.length := by omega
    have HU3 := hide ((HU2.out.trans (upd1 X2 w.heap.size 1 (.int .i64 (ad5 t2)))).trans (upd1 _ w.heap.size 2 (.slice a2 32768 c2)))
    have R3 := hide (HQ2.out.upd HU3.out nq)
    have r3 := R3.out.c0
    have r4 := R3.out.c1
    have r5 := R3.out.c2
    have r6 := R3.out.fr
    have HU4 := hide ((HU3.out.mono (fun k _ e => .inl e)).trans ((set3 _ (w.heap.size + 1) (.int .i64 (ad5 f2)) (.int .i64 (ad5 t2)) (.slice a2 32768 c2)).mono (fun k _ e => Or.inr e)) : Upd (fun k => k = w.heap.size ∨ k = w.heap.size + 1) w1 _)
    go_wp2
    refine bodyPost_ret (v := .agg #[.int .i64 (ad5 f2), .int .i64 (ad5 t2), .slice a2 32768 c2]) (by simp [results, Try.results24, go_sem, r3, r4, r5]) rfl ⟨⟨ad5 f2, ad5 t2, a2, c2, s2.take 32768⟩, ?_, rfl, ?_, KZ.out _ HU4.out.size, (KU.out _ HU4.out).2⟩
    · have : (s2.take 32768).length = 32768 := by rw [List.length_take]; omega
      dsimp only
      rw [this]
    · have h := (KU.out _ HU4.out).1.take 32768 hc34
      show SlY yU _ a2 (s2.take 32768).length c2 (s2.take 32768)
      rw [List.length_take, Nat.min_eq_left hc34]
      exact h
  · have d1 : decide ((32768 : Int) < (s2.length : Int)) = false := decide_eq_false hlong
    have htk : s2.take 32768 = s2 := List.take_of_length_le (by omega)
    have HTK := hide htk
    clear htk
    have HU3 := hide (HU2.out.trans (upd1 X2 w.heap.size 1 (.int .i64 (ad5 t2))))
    have R3 := hide (HQ2.out.upd HU3.out nq)
    have r3 := R3.out.c0
    have r4 := R3.out.c1
    have r5 := R3.out.c2
    have r6 := R3.out.fr
    have HU4 := hide ((HU3.out.mono (fun k _ e => .inl e)).trans ((set3 _ (w.heap.size + 1) (.int .i64 (ad5 f2)) (.int .i64 (ad5 t2)) (.slice a2 s2.length c2)).mono (fun k _ e => Or.inr e)) : Upd (fun k => k = w.heap.size ∨ k = w.heap.size + 1) w1 _)
    go_wp2
    refine bodyPost_ret (v := .agg #[.int .i64 (ad5 f2), .int .i64 (ad5 t2), .slice a2 s2.length c2]) (by simp [results, Try.results24, go_sem, r3, r4, r5]) rfl ⟨⟨ad5 f2, ad5 t2, a2, c2, s2⟩, rfl, ?_, (KU.out _ HU4.out).1, KZ.out _ HU4.out.size, (KU.out _ HU4.out).2⟩
    unfold Ap.pk
    dsimp only
    rw [HTK.out]

/-- Is there one with this address and these bytes? -/
def wasB (K : List Ap) (x : Ap) : Bool := K.any (fun z => decide (z.t = x.t) && decide (z.s = x.s))
theorem wasB_iff (K : List Ap) (x : Ap) : wasB K x = true ↔ ∃ z ∈ K, z.t = x.t ∧ z.s = x.s := by
  unfold wasB
  rw [List.any_eq_true]
  constructor
  · rintro ⟨z, h1, h2⟩
    exact ⟨z, h1, by simpa using h2⟩
  · rintro ⟨z, h1, h2⟩
    exact ⟨z, h1, by simpa using h2⟩
theorem wasB_take {K : List Ap} {x z : Ap} {j : Nat} (h : wasB (K.take j) x = false) (hz : K[j]? = some z) (hn : (decide (z.t = x.t) && decide (z.s = x.s)) = false) : wasB (K.take (j + 1)) x = false := by
  unfold wasB at *
  rw [List.take_add_one, hz, List.any_append, h]
  simpa using hn
theorem wasB_hit {K : List Ap} {x z : Ap} {j : Nat} (hz : K[j]? = some z) (h1 : z.t = x.t) (h2 : z.s = x.s) : wasB K x = true := (wasB_iff K x).2 ⟨z, List.mem_of_getElem? hz, h1, h2⟩
set_option maxRecDepth 100000 in
set_option maxHeartbeats 2000000 in
theorem was_any (K : List Ap) (a : Option Addr) (c : Nat) (x : Ap) (w : World) (h : SlY yA w a K.length c K) (hin : ∀ z ∈ K, z.In w) (hx : x.In w) : Calls Try.prog 27 #[.slice a K.length c, x.val] w fun e w' => e = .returned (.bool (wasB K x)) ∧ Below w.heap.size w w' := by
  have hmx : K.length ≤ maxLen := Nat.le_trans h.cap h.max
  unfold maxLen at hmx
  have HK := hide h
  have HI := hide hin
  have HX := hide hx
  clear h hin hx
  obtain ⟨r, hr⟩ : ∃ r, r = wasB K x := ⟨_, rfl⟩
  rw [← hr]
  have HR := hide hr
  clear hr
  unfold Ap.val
  go_enter Try.func27, Try.ntmps27
  have B1 := (Below.refl _ w).alloc (Nat.le_refl _) (.cells #[.int .i64 x.f, .int .i64 x.t, .slice x.a x.s.length x.c] 46)
  have HB1 := hide B1
  have HX1 := hide (B3.new w (.int .i64 x.f) (.int .i64 x.t) (.slice x.a x.s.length x.c) 46)
  clear B1
  go_wp2_with fail
  generalize w.alloc (.cells #[.int .i64 x.f, .int .i64 x.t, .slice x.a x.s.length x.c] 46) = w1 at *
  generalize hq : w.heap.size = q at *
  have I0 : Hid (wasB (K.take 0) x = false ∧ Below w1.heap.size w1 w1) := ⟨rfl, Below.refl _ _⟩
  go_loopw [5] (fun i wr => ∃ j : Nat, i = .int .i64 (j : Int) ∧ j ≤ K.length ∧ Hid (wasB (K.take j) x = false ∧ Below w1.heap.size w1 wr)) (fun i _ => K.length - (intOf i).toNat)
  case atStart => exact ⟨0, rfl, Nat.zero_le _, I0⟩
  case round =>
    obtain ⟨j, rfl, hj, HJ⟩ := hrel
    clear I0
    by_cases hlt : j < K.length
    · have d1 : decide ((j : Int) < (K.length : Int)) = true := decide_eq_true (by omega)
      have i1 : (j : Int) < (K.length : Int) := by omega
      have hw1 : IntKind.i64.wrap ((j : Int) + 1) = ((j + 1 : Nat) : Int) := by rw [IntKind.wrap_i64]; omega
      have hg := List.getElem?_eq_getElem hlt
      generalize hze : K[j] = z at hg
      have hzm : z ∈ K := List.mem_of_getElem? hg
      obtain ⟨p, o, ha, hp, hlie⟩ := HK.out.place (by intro e; rw [e] at hlt; simp at hlt)
      subst ha
      have hqz : q ≤ w1.heap.size := by rw [← hq]; exact HB1.out.size
      have bb : Below q w wr := HB1.out.trans (HJ.out.2.mono hqz)
      have hp' : p < q := by rw [← hq]; exact hp
      have l1 : wr.cell? ⟨p, o + j * 3 + 1, none⟩ = some (.int .i64 z.t) := (bb.cell (p := ⟨p, _, none⟩) hp').trans (hlie _ _ hg 1 _ rfl)
      have l2 : wr.cell? ⟨p, o + j * 3 + 2, none⟩ = some (.slice z.a z.s.length z.c) := (bb.cell (p := ⟨p, _, none⟩) hp').trans (hlie _ _ hg 2 _ rfl)
      have X3 := HX1.out.bel HJ.out.2
      have l3 := X3.c1
      have l4 := X3.c2
      have bb' : ∀ n, Below w.heap.size w (wr.drewN n) := fun n => by rw [hq]; exact bb.trans ⟨rfl, rfl, rfl, Nat.le_refl _, fun _ _ => rfl⟩
      have v1 : ∀ n, (convert 44 9 (.slice z.a z.s.length z.c)).run Try.prog (wr.drewN n) = .ok (.string (bst z.s)) (wr.drewN n) := fun n => conv_u (SlY.later (HI.out z hzm) (bb' n))
      have v2 : ∀ n, (convert 44 9 (.slice x.a x.s.length x.c)).run Try.prog (wr.drewN n) = .ok (.string (bst x.s)) (wr.drewN n) := fun n => conv_u (SlY.later HX.out (bb' n))
      have hbe := bst_eq z.s x.s
      have HG := hide hg
      have HBB := hide bb
      have HBD := hide HJ.out.2
      have HN := hide HJ.out.1
      clear X3 bb bb' hqz hlie hzm hze hg HJ
      by_cases ht : z.t = x.t
      · have dt : (z.t == x.t) = true := by simp [ht]
        have HT := hide ht
        clear ht
        by_cases hs : z.s = x.s
        · have ds : decide (z.s = x.s) = true := decide_eq_true hs
          have HF : Hid (r = true) := by show _ = _; rw [HR.out]; exact wasB_hit HG.out HT.out hs
          rw [ds] at hbe
          clear hs ds
          go_wp2_with fail
          go_quiet (fail)
          go_wp2
          go_ret
          exact ⟨by rw [HF.out]; rfl, by rw [hq]; exact HBB.out.trans ⟨rfl, rfl, rfl, Nat.le_refl _, fun _ _ => rfl⟩⟩
        · have ds : decide (z.s = x.s) = false := decide_eq_false hs
          have HF : Hid (wasB (K.take (j + 1)) x = false) := wasB_take HN.out HG.out (by simp [hs])
          rw [ds] at hbe
          clear hs ds
          go_wp2_with fail
          go_quiet (fail)
          go_wp2
          exact ⟨⟨j + 1, by go_num, by omega, HF.out, HBD.out.trans ⟨rfl, rfl, rfl, Nat.le_refl _, fun _ _ => rfl⟩⟩, by simp [intOf]; omega⟩
      · have dt : (z.t == x.t) = false := by simp [ht]
        have HF : Hid (wasB (K.take (j + 1)) x = false) := wasB_take HN.out HG.out (by simp [ht])
        clear ht
        go_wp2_with fail
        go_quiet (fail)
        go_wp2
        exact ⟨⟨j + 1, by go_num, by omega, HF.out, HBD.out.trans ⟨rfl, rfl, rfl, Nat.le_refl _, fun _ _ => rfl⟩⟩, by simp [intOf]; omega⟩
    · have d1 : decide ((j : Int) < (K.length : Int)) = false := decide_eq_false (by omega)
      have hj2 : j = K.length := by omega
      have HF : Hid (r = false ∧ Below q w wr) := by
        have h1 := HJ.out.1
        rw [hj2, List.take_length] at h1
        exact ⟨by rw [HR.out]; exact h1, HB1.out.trans (HJ.out.2.mono (show q ≤ w1.heap.size by rw [← hq]; exact HB1.out.size))⟩
      clear HJ hj2
      go_wp2
      go_ret
      exact ⟨by rw [HF.out.1]; rfl, by rw [hq]; exact HF.out.2⟩

end Go.Proofs.Ytegfbebhgihcaaa
