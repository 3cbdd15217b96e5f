import Derived.Test.YtkfkkajeoocbbaaGreatDoorF12
set_option maxRecDepth 100000
set_option linter.unusedVariables false
set_option linter.unusedSimpArgs false
namespace Go.Proofs.YtkfkkajeoocbbaaGreatDoor
open Go.RowKit Go.Maps Go.Shelf
open Classical
structure Ms9 where
  m : Mg
  la : Option Addr
  lc : Nat
  L : List En
  va : Option Addr
  vc : Nat
  V : List (Int × Int)
def Ms9.val (x : Ms9) : Value := x.m.val (.slice x.la x.L.length x.lc) (.slice x.va x.V.length x.vc)
def Ms9.cs (x : Ms9) : List Value := x.m.cs (.slice x.la x.L.length x.lc) (.slice x.va x.V.length x.vc)
structure Ms9.In (w : World) (x : Ms9) : Prop where
  l : SlY yE w x.la x.L.length x.lc x.L
  v : SlY yD w x.va x.V.length x.vc x.V
structure Ms9.Fit (x : Ms9) : Prop where
  le : ∀ e ∈ x.L, e.fits
  ee : x.m.e.fits
  ll : x.L.length * 48 ≤ 140737488351232
  vl : x.V.length * 16 ≤ 140737488351232
theorem Ms9.In.later {w w' : World} {x : Ms9} (h : x.In w) (hb : Below w.heap.size w w') : x.In w' := ⟨h.l.later hb, h.v.later hb⟩
abbrev MB9 (w : World) (q : Nat) (x : Ms9) : Prop := BX7 w q x.cs
theorem bxM9 (x : Ms9) (w : World) : (Instr.box 70 x.val).run Tryz.prog w = .ok (.pointer (some ⟨w.heap.size, 0, none⟩)) (w.alloc (.cells x.cs.toArray 70)) := rfl
theorem MB9.ld {w : World} {q : Nat} {x : Ms9} (h : MB9 w q x) : (Instr.loadAt 70 (.pointer (some ⟨q, 0, none⟩))).run Tryz.prog w = .ok x.val w :=
  run_loadAt_mid (P := Tryz.prog) w q 0 70 x.cs _ (fun j v hv => by rw [Nat.zero_add]; exact h.cell j v hv) Tryz.underlying70 rfl (by kernel_rfl)
theorem ldKd9 {w : World} {q i : Nat} {z : Int} (h : w.cell? ⟨q, i, none⟩ = some (.int .i64 z)) : (Instr.loadAt 62 (.pointer (some ⟨q, i, none⟩))).run Tryz.prog w = .ok (.int .i64 z) w := by go_simp
theorem faM9_0 (q : Nat) (w : World) : (Instr.fieldAt 70 (.pointer (some ⟨q, 0, none⟩)) 0).run Tryz.prog w = .ok (.pointer (some ⟨q, 0, none⟩)) w := by go_simp
theorem faM9_1 (q : Nat) (w : World) : (Instr.fieldAt 70 (.pointer (some ⟨q, 0, none⟩)) 1).run Tryz.prog w = .ok (.pointer (some ⟨q, 1, none⟩)) w := by go_simp
theorem faM9_10 (q : Nat) (w : World) : (Instr.fieldAt 70 (.pointer (some ⟨q, 0, none⟩)) 10).run Tryz.prog w = .ok (.pointer (some ⟨q, 17, none⟩)) w := by go_simp
def zV9 : Vo9 := ⟨0, none, 0, []⟩
theorem alV9 (w : World) : (Instr.alloc 106 true (.tuple #[])).run Tryz.prog w = .ok (.pointer (some ⟨w.heap.size, 0, none⟩)) (w.alloc (.cells zV9.cs.toArray 106)) := by
  go_simp
  first | done | rfl
theorem bdV9 (n : Int) (a : Option Addr) (k c : Nat) (w : World) : (Instr.build 106 #[(0, .int .i64 n), (1, .slice a k c)]).run Tryz.prog w = .ok (.agg #[.int .i64 n, .slice a k c]) w := by
  go_simp
  first | done | rfl
theorem stV9 {w : World} {q : Nat} {x : Vo9} (h : VB9 w q x) (y : Vo9) : (Instr.storeAt 106 (.pointer (some ⟨q, 0, none⟩)) y.val).run Tryz.prog w = .ok () (sets w q 0 y.cs) := by
  have := run_storeAt_mid (P := Tryz.prog) w q 0 106 y.cs.toArray (fun j hj => ⟨by rw [Nat.zero_add, h.cell j _ (List.getElem?_eq_getElem (show j < x.cs.length from hj))]; rfl, by rw [Nat.zero_add]; exact h.free j⟩) (by kernel_rfl) (by first | rfl | (simp [Vo9.cs]; first | done | rfl | exact ⟨rfl, rfl⟩))
  rw [setCells_sets] at this
  exact this
theorem VB9.put {w : World} {q : Nat} {x : Vo9} (h : VB9 w q x) (y : Vo9) : VB9 (sets w q 0 y.cs) q y := by
  have h1 := BX7.set h (j := 0) (by simp [Vo9.cs]) (.int .i64 y.n)
  have h2 := BX7.set h1 (j := 1) (by simp [Vo9.cs]) (.slice y.a y.D.length y.c)
  exact h2
theorem updV9 (w : World) (q : Nat) (y : Vo9) : Upd (fun k => k = q) w (sets w q 0 y.cs) := ((Upd.refl (fun k => k = q) w).setCell (p := ⟨q, 0, none⟩) (.inl rfl) _).setCell (p := ⟨q, 1, none⟩) (.inl rfl) _
theorem vh_twoV9 {ops : Array Oper} {o o2 : Oper} {T : Array Value} {df : List Deferred} {w : World} {Q : Exit → Act → World → Prop} {S : World → Prop} {fuel d d2 n : Nat} {listed : Array Bool} (i j : Nat) (hr : Region.ready .any ops listed = [i, j]) (hi : ops[i]? = some o) (hj : ops[j]? = some o2)
    (V1 : Value) (w1 : World) (hw : Region.wanted o (yielded ops T) = true) (he : (execOp (⟨T, df⟩ : Act).eval o).run Tryz.prog w = .ok (.value V1) w1) (hd : o.dst = some d) (hz : T.size = n) (hn : d < n) (hS1 : S w1)
    (hk : ∀ T' : Array Value, T'.size = n → (∀ j, j ≠ d → T'[j]? = T[j]?) → T'[d]? = some (gw true V1) → VH ops Q S fuel (listed.setIfInBounds i true) ⟨T', df⟩ w1)
    (V : Value) (w2 : World) (hw2 : Region.wanted o2 (yielded ops T) = true) (he2 : (execOp (⟨T, df⟩ : Act).eval o2).run Tryz.prog w = .ok (.value V) w2) (hd2 : o2.dst = some d2) (hn2 : d2 < n) (hS2 : S w2)
    (hk2 : ∀ T' : Array Value, T'.size = n → (∀ j, j ≠ d2 → T'[j]? = T[j]?) → T'[d2]? = some (gw true V) → VH ops Q S fuel (listed.setIfInBounds j true) ⟨T', df⟩ w2) : VH ops Q S (fuel + 1) listed ⟨T, df⟩ w := by
  refine ⟨wpAnyH_all hr (by simp) (fun k hkm => ?_)⟩
  have hkm : k = i ∨ k = j := by simpa using hkm
  rcases hkm with rfl | rfl
  · unfold wpOp
    rw [hi]
    simp only [hw, if_true]
    refine .inl ?_
    unfold Oper.wp
    rw [he, Oper.upon_value]
    refine ⟨hS1, ?_⟩
    rw [hd]
    exact (hk (T.setIfInBounds d V1) (by simp [hz]) (fun i hi => at_set_ne _ hi) (at_set _ (by omega))).out
  · unfold wpOp
    rw [hj]
    simp only [hw2, if_true]
    refine .inl ?_
    unfold Oper.wp
    rw [he2, Oper.upon_value]
    refine ⟨hS2, ?_⟩
    rw [hd2]
    exact (hk2 (T.setIfInBounds d2 V) (by simp [hz]) (fun i hi => at_set_ne _ hi) (at_set _ (by omega))).out
theorem ex_bs2_9 {o : Oper} {ρ : Operand → Value} {s : TypeId} {x y : Operand} {X Y V : Value} {w w' : World} (ho : o.op = .buildSlice s 2 #[(0, x), (1, y)]) (hx : ρ x = X) (hy : ρ y = Y) (hr : (Instr.buildSlice s 2 #[(0, X), (1, Y)]).run Tryz.prog w = .ok V w') : (execOp ρ o).run Tryz.prog w = .ok (.value V) w' := by
  unfold execOp
  simp only [ho, List.map_toArray, List.map_cons, List.map_nil, hx, hy, Sem.run_bind, hr, Result.andThen_ok]
  rfl
theorem bsVV9 (a b : Option Addr) {n m c k : Nat} (w : World) : (Instr.buildSlice 52 2 #[(0, .slice a n c), (1, .slice b m k)]).run Tryz.prog w = .ok (.slice (some ⟨w.heap.size, 0, none⟩) 2 2) (w.alloc (.cells #[.slice a n c, .slice b m k] 30)) := by
  go_simp
  first | done | rfl
def mine9 (s : Sta) : Vo9 := ⟨s.self, s.va, s.vc, s.V⟩
def thr9 (m : Ms9) : Vo9 := ⟨m.m.nd, m.va, m.vc, m.V⟩
def hear9 (s : Sta) (m : Ms9) : Bool := !ovB9 s.V (thr9 m) && !ovB9 m.V (mine9 s)
def Cg.cf (c : Cg) : Cf := ⟨c.F, c.R, c.P, c.u⟩
def adM9 (c : Cg) (m : Ms9) : Int := ckM c.cf m.m m.L m.V
def adE9 (c : Cg) (s : Sta) (m : Ms9) : Int := if s.ckE c = 0 then adM9 c m else s.ckE c
def adB9 (c : Cg) (s : Sta) (m : Ms9) : Bool := !btB m.m.k || (!decide (m.m.nd = s.self) && (c.u || hear9 s m))
def adV9 (c : Cg) (s : Sta) (m : Ms9) : List (Int × Int) := if (btB m.m.k && (!decide (m.m.nd = s.self) && (!c.u && hear9 s m))) = true then jn9 s.V m.V else s.V
def Ad9 (B : Nat) (c : Cg) (s : Sta) (m : Ms9) (t : Sta) (b : Bool) (w : World) : Prop :=
  (adE9 c s m ≠ 0 ∧ t = zS8 ∧ b = false) ∨ (adE9 c s m = 0 ∧ t.Kn B s (adV9 c s m) w ∧ t.Lo B ∧ b = adB9 c s m)
theorem mcheck9 (c : Cg) (m : Ms9) (w : World) (hT : Tab w) (hM : m.In w) (hF : m.Fit) : Calls Tryz.prog 43 #[c.val, m.val] w fun e w' => e = .returned (.int .i64 (adM9 c m)) ∧ Below w.heap.size w w' :=
  checkM_any c.cf m.m m.la m.va m.lc m.vc m.L m.V w hT hM.l hF.le hM.v hF.ee
theorem between9 (x : Int) (w : World) (hT : Tab w) : Calls Tryz.prog 49 #[.int .i64 x] w fun e w' => e = .returned (.bool (btB x)) ∧ Below w.heap.size w w' :=
  (between7 x w hT).mono fun e w' h => ⟨h.1, by rw [h.2]; exact Below.refl _ _⟩
theorem tab_vec9 : ∀ k, k < 15 → 3 ≤ k → k ≤ 12 → tabA k 9 = 20 := by decide
theorem adlen9 {c : Cg} {s : Sta} {m : Ms9} (h1 : s.ckE c = 0) (h2 : adM9 c m = 0) (h3 : btB m.m.k = true) : (1 ≤ s.V.length ∧ s.V.length ≤ 7) ∧ m.V.length = s.V.length := by
  have hok : c.okB = true := by
    unfold Sta.ckE at h1
    cases e : c.okB with
    | true => rfl
    | false => rw [e] at h1; simp at h1
  obtain ⟨n1, n2, n3⟩ := Cg.nd_ok hok
  have hs : s.stB c = true := by
    unfold Sta.ckE at h1
    rw [hok] at h1
    cases e : s.stB c with
    | true => rfl
    | false => rw [e] at h1; simp at h1
  simp only [Sta.stB, Bool.and_eq_true] at hs
  have hn := hs.1.1.1
  simp only [Sta.numB, Bool.and_eq_true, decide_eq_true_eq] at hn
  have hv : (s.V.length : Int) = c.nd := by
    have h := hn.1.1.1.1.1.2
    by_cases e : (s.V.length : Int) = c.nd
    · exact e
    · rw [if_neg e] at h; omega
  have hk : 3 ≤ m.m.k ∧ m.m.k ≤ 12 := by simpa [btB] using h3
  unfold adM9 ckM at h2
  split at h2
  · omega
  · split at h2
    · omega
    · split at h2
      · rename_i hall
        have h9 := List.all_eq_true.1 hall 9 (by simp)
        obtain ⟨k, hk'⟩ := Int.eq_ofNat_of_zero_le (show 0 ≤ m.m.k by omega)
        have ht : tabA m.m.k.toNat 9 = 20 := by rw [hk']; exact tab_vec9 k (by omega) (by omega) (by omega)
        rw [ht] at h9
        have h8 : (m.V.length : Int) = 2 * c.F + 1 := of_decide_eq_true h9
        omega
      · omega
set_option maxHeartbeats 1000000 in
theorem mayhear9 (s : Sta) (m : Ms9) (w : World) (hI : s.In w) (hM : m.In w) : Calls Tryz.prog 81 #[s.val, m.val] w fun e w' => e = .returned (.bool (hear9 s m)) ∧ Below w.heap.size w w' := by
  go_enter Tryz.func81, Tryz.ntmps81
  go_upto_region 0 with fail
  refine wp_region_lit ?_
  refine vl_gen (fun T => T.size = 29 ∧ T[0]? = some (gw true (s.val)) ∧ T[1]? = some (gw true (m.val))) ⟨rfl, rfl, rfl⟩ (fun Z0 ⟨hz, s0, s1⟩ => ?_)
  obtain ⟨w1, hw1⟩ : ∃ y, y = w.alloc (.cells s.cs.toArray 36) := ⟨_, rfl⟩
  have hb : Below w.heap.size w w1 := by rw [hw1]; exact (Below.refl _ _).alloc (Nat.le_refl _) _
  have hs1 : w1.heap.size = w.heap.size + 1 := by rw [hw1]; simp
  have HS : SB7 w1 (w.heap.size) s := by rw [hw1]; exact BX7.new _ _ _
  refine vw (.pointer (some ⟨w.heap.size, 0, none⟩)) w1 (want_none rfl) (ex_box8 rfl (ev s0 rfl) (by rw [hw1]; exact bxS7 _ _)) rfl hz (by decide) (fun Z1 zz kk s2x => ?_)
  replace s1 := ku s1
  clear kk hz s0 hw1
  have hz := zz
  have s2 := s2x
  clear zz s2x
  have hB := hb
  clear hb
  obtain ⟨w2, hw2⟩ : ∃ y, y = w1.alloc (.cells m.cs.toArray 70) := ⟨_, rfl⟩
  have hb : Below w1.heap.size w1 w2 := by rw [hw2]; exact (Below.refl _ _).alloc (Nat.le_refl _) _
  have hs2 : w2.heap.size = w.heap.size + 2 := by rw [hw2]; simp; omega
  have HM : MB9 w2 (w.heap.size + 1) m := by rw [hw2, ← hs1]; exact BX7.new _ _ _
  refine vw (.pointer (some ⟨w.heap.size + 1, 0, none⟩)) w2 (want_none rfl) (ex_box8 rfl (ev s1 rfl) (by rw [hw2, ← hs1]; exact bxM9 _ _)) rfl hz (by decide) (fun Z2 zz kk s3x => ?_)
  replace s2 := ku s2
  clear kk hz s1 hw2
  have hz := zz
  have s3 := s3x
  clear zz s3x
  have hB := hB.trans (hb.mono (by omega))
  have HS := HS.bel hb
  clear hb
  have hv0 : Below w2.heap.size w2 w2 := Below.refl _ _
  refine vt (.bool false) (ex_assign rfl rfl) hz (fun Ya zz kk s4 => ?_)
  replace s2 := ku s2
  replace s3 := ku s3
  replace hz := zz
  clear kk zz
  clear s4
  refine wpList_nil ?_
  have hb0 : Below w2.heap.size w2 w2.drew := (Below.refl _ _).drew
  have hB := hB.trans (hb0.mono (by omega))
  have hS : SB7 w2.drew (w.heap.size) s ∧ MB9 w2.drew (w.heap.size + 1) m := ⟨HS.bel hb0, HM.bel hb0⟩
  have hzd : w2.drew.heap.size = w.heap.size + 2 := hs2
  clear hb0 HS HM hv0
  go_upto_region 1 with fail
  refine v_cut9 (fun T v => T.size = 29 ∧ T[2]? = some (gw true (.pointer (some ⟨w.heap.size, 0, none⟩))) ∧ T[3]? = some (gw true (.pointer (some ⟨w.heap.size + 1, 0, none⟩))) ∧ ∃ (q5 q6 : Nat), T[5]? = some (gw true (.pointer (some ⟨q5, 0, none⟩))) ∧ T[6]? = some (gw true (.pointer (some ⟨q6, 0, none⟩))) ∧ Hid (VB9 v q5 (mine9 s) ∧ VB9 v q6 (thr9 m) ∧ SB7 v (w.heap.size) s ∧ MB9 v (w.heap.size + 1) m ∧ Below w.heap.size w v)) ?_ ?_
  · refine vh_start (fun v => SB7 v (w.heap.size) s ∧ MB9 v (w.heap.size + 1) m) (by kernel_rfl) ?_
    obtain ⟨wd, hwd⟩ : ∃ y, y = w2.drew := ⟨_, rfl⟩
    rw [← hwd] at hS hB hzd ⊢
    clear hwd
    refine vh_take 0 true (.pointer (some ⟨w.heap.size, 0, none⟩)) rfl (by kernel_rfl) (by kernel_rfl) (by kernel_rfl) (want_none rfl) (fun hc v hv => ex_fa rfl (ev s2 rfl) (faS0 _ _)) rfl hz (by decide) hS (fun R1 zz kk s7 => ?_)
    replace s2 := ku s2
    replace s3 := ku s3
    replace hz := zz
    clear kk zz
    refine vh_take 1 true (.int .i64 s.self) rfl (by kernel_rfl) (by kernel_rfl) (by kernel_rfl) (want_none rfl) (fun hc v hv => ex_ld rfl (ev s7 rfl) (ldI8 (hv.1.cell 0 _ rfl))) rfl hz (by decide) hS (fun R2 zz kk s8 => ?_)
    replace s2 := ku s2
    replace s3 := ku s3
    replace s7 := ku s7
    replace hz := zz
    clear kk zz
    refine vh_take 2 true (.pointer (some ⟨w.heap.size, 6, none⟩)) rfl (by kernel_rfl) (by kernel_rfl) (by kernel_rfl) (want_none rfl) (fun hc v hv => ex_fa rfl (ev s2 rfl) (faS6 _ _)) rfl hz (by decide) hS (fun R3 zz kk s9 => ?_)
    replace s2 := ku s2
    replace s3 := ku s3
    replace s7 := ku s7
    replace s8 := ku s8
    replace hz := zz
    clear kk zz
    refine vh_take 3 true (.slice s.va s.V.length s.vc) rfl (by kernel_rfl) (by kernel_rfl) (by kernel_rfl) (want_none rfl) (fun hc v hv => ex_ld rfl (ev s9 rfl) (ldV8 (hv.1.cell 6 _ rfl))) rfl hz (by decide) hS (fun R4 zz kk s10 => ?_)
    replace s2 := ku s2
    replace s3 := ku s3
    replace s7 := ku s7
    replace s8 := ku s8
    replace s9 := ku s9
    replace hz := zz
    clear kk zz
    refine vh_take 4 true (Vo9.val (mine9 s)) rfl (by kernel_rfl) (by kernel_rfl) (by kernel_rfl) (want_none rfl) (fun hc v hv => ex_buildP rfl (by simp only [List.map_toArray, List.map_cons, List.map_nil, (ev s8 rfl), (ev s10 rfl)] <;> rfl) (bdV9 _ _ _ _ _)) rfl hz (by decide) hS (fun R5 zz kk s11 => ?_)
    replace s2 := ku s2
    replace s3 := ku s3
    replace s7 := ku s7
    replace s8 := ku s8
    replace s9 := ku s9
    replace s10 := ku s10
    replace hz := zz
    clear kk zz
    refine vh_take 5 true (.pointer (some ⟨w.heap.size + 1, 1, none⟩)) rfl (by kernel_rfl) (by kernel_rfl) (by kernel_rfl) (want_none rfl) (fun hc v hv => ex_fa rfl (ev s3 rfl) (faM9_1 _ _)) rfl hz (by decide) hS (fun R6 zz kk s12 => ?_)
    replace s2 := ku s2
    replace s3 := ku s3
    replace s7 := ku s7
    replace s8 := ku s8
    replace s9 := ku s9
    replace s10 := ku s10
    replace s11 := ku s11
    replace hz := zz
    clear kk zz
    refine vh_take 6 true (.int .i64 m.m.nd) rfl (by kernel_rfl) (by kernel_rfl) (by kernel_rfl) (want_none rfl) (fun hc v hv => ex_ld rfl (ev s12 rfl) (ldI8 (hv.2.cell 1 _ rfl))) rfl hz (by decide) hS (fun R7 zz kk s13 => ?_)
    replace s2 := ku s2
    replace s3 := ku s3
    replace s7 := ku s7
    replace s8 := ku s8
    replace s9 := ku s9
    replace s10 := ku s10
    replace s11 := ku s11
    replace s12 := ku s12
    replace hz := zz
    clear kk zz
    refine vh_take 7 true (.pointer (some ⟨w.heap.size + 1, 17, none⟩)) rfl (by kernel_rfl) (by kernel_rfl) (by kernel_rfl) (want_none rfl) (fun hc v hv => ex_fa rfl (ev s3 rfl) (faM9_10 _ _)) rfl hz (by decide) hS (fun R8 zz kk s14 => ?_)
    replace s2 := ku s2
    replace s3 := ku s3
    replace s7 := ku s7
    replace s8 := ku s8
    replace s9 := ku s9
    replace s10 := ku s10
    replace s11 := ku s11
    replace s12 := ku s12
    replace s13 := ku s13
    replace hz := zz
    clear kk zz
    refine vh_take 8 true (.slice m.va m.V.length m.vc) rfl (by kernel_rfl) (by kernel_rfl) (by kernel_rfl) (want_none rfl) (fun hc v hv => ex_ld rfl (ev s14 rfl) (ldV8 (hv.2.cell 17 _ rfl))) rfl hz (by decide) hS (fun R9 zz kk s15 => ?_)
    replace s2 := ku s2
    replace s3 := ku s3
    replace s7 := ku s7
    replace s8 := ku s8
    replace s9 := ku s9
    replace s10 := ku s10
    replace s11 := ku s11
    replace s12 := ku s12
    replace s13 := ku s13
    replace s14 := ku s14
    replace hz := zz
    clear kk zz
    refine vh_take 9 true (Vo9.val (thr9 m)) rfl (by kernel_rfl) (by kernel_rfl) (by kernel_rfl) (want_none rfl) (fun hc v hv => ex_buildP rfl (by simp only [List.map_toArray, List.map_cons, List.map_nil, (ev s13 rfl), (ev s15 rfl)] <;> rfl) (bdV9 _ _ _ _ _)) rfl hz (by decide) hS (fun R10 zz kk s16 => ?_)
    replace s2 := ku s2
    replace s3 := ku s3
    replace s7 := ku s7
    replace s8 := ku s8
    replace s9 := ku s9
    replace s10 := ku s10
    replace s11 := ku s11
    replace s12 := ku s12
    replace s13 := ku s13
    replace s14 := ku s14
    replace s15 := ku s15
    replace hz := zz
    clear kk zz
    obtain ⟨q5, hq5⟩ : ∃ z, z = wd.heap.size := ⟨_, rfl⟩
    obtain ⟨wa, hwa⟩ : ∃ y, y = wd.alloc (.cells zV9.cs.toArray 106) := ⟨_, rfl⟩
    have bwa : Below wd.heap.size wd wa := by rw [hwa]; exact (Below.refl _ _).alloc (Nat.le_refl _) _
    have HQq5 : VB9 wa q5 zV9 := by rw [hwa, hq5]; exact BX7.new _ _ _
    have zwa := bwa.size
    have hS5 := And.intro (hS.1.bel bwa) (hS.2.bel bwa)
    have lwa := HQq5.lt
    obtain ⟨q6, hq6⟩ : ∃ z, z = wd.heap.size := ⟨_, rfl⟩
    obtain ⟨wb, hwb⟩ : ∃ y, y = wd.alloc (.cells zV9.cs.toArray 106) := ⟨_, rfl⟩
    have bwb : Below wd.heap.size wd wb := by rw [hwb]; exact (Below.refl _ _).alloc (Nat.le_refl _) _
    have HQq6 : VB9 wb q6 zV9 := by rw [hwb, hq6]; exact BX7.new _ _ _
    have zwb := bwb.size
    have hS6 := And.intro (hS.1.bel bwb) (hS.2.bel bwb)
    have lwb := HQq6.lt
    refine vh_twoV9 10 11 (by kernel_rfl) rfl rfl (.pointer (some ⟨q5, 0, none⟩)) wa (want_none rfl) (ex_al rfl (by rw [hwa, hq5]; exact alV9 _)) rfl hz (by decide) hS5 ?_ (.pointer (some ⟨q6, 0, none⟩)) wb (want_none rfl) (ex_al rfl (by rw [hwb, hq6]; exact alV9 _)) rfl (by decide) hS6 ?_
    · skip
      clear hwb bwb HQq6 zwb hS6 lwb hq6 wb q6
      intro R11 zz kk s5x
      replace s2 := ku s2
      replace s3 := ku s3
      replace s7 := ku s7
      replace s8 := ku s8
      replace s9 := ku s9
      replace s10 := ku s10
      replace s11 := ku s11
      replace s12 := ku s12
      replace s13 := ku s13
      replace s14 := ku s14
      replace s15 := ku s15
      replace s16 := ku s16
      clear kk hz
      have hz := zz
      have s5 := s5x
      clear zz s5x
      clear hS
      have hS := hS5
      have hB := hB.trans (bwa.mono (by omega))
      clear hwa
      obtain ⟨q6, hq6⟩ : ∃ z, z = wa.heap.size := ⟨_, rfl⟩
      obtain ⟨wf, hwf⟩ : ∃ y, y = wa.alloc (.cells zV9.cs.toArray 106) := ⟨_, rfl⟩
      have bwf : Below wa.heap.size wa wf := by rw [hwf]; exact (Below.refl _ _).alloc (Nat.le_refl _) _
      have HQq6 : VB9 wf q6 zV9 := by rw [hwf, hq6]; exact BX7.new _ _ _
      have zwf := bwf.size
      have hS7 := And.intro (hS.1.bel bwf) (hS.2.bel bwf)
      have lwf := HQq6.lt
      have HQq5 := HQq5.bel bwf
      refine vh_val8 11 (.pointer (some ⟨q6, 0, none⟩)) wf rfl (by kernel_rfl) (want_none rfl) (ex_al rfl (by rw [hwf, hq6]; exact alV9 _)) rfl hz (by decide) hS7 (fun R12 zz kk s6 => ?_)
      replace s2 := ku s2
      replace s3 := ku s3
      replace s7 := ku s7
      replace s8 := ku s8
      replace s9 := ku s9
      replace s10 := ku s10
      replace s11 := ku s11
      replace s12 := ku s12
      replace s13 := ku s13
      replace s14 := ku s14
      replace s15 := ku s15
      replace s16 := ku s16
      replace s5 := ku s5
      replace hz := zz
      clear kk zz
      clear hS
      have hS := hS7
      have hB := hB.trans (bwf.mono (by omega))
      clear hwf hS7
      have HPq5 := VB9.put HQq5 (mine9 s)
      have UPq5 := updV9 wf q5 (mine9 s)
      have hS8 := And.intro (hS.1.upd UPq5 (by show ¬ w.heap.size = q5; omega)) (hS.2.upd UPq5 (by show ¬ w.heap.size + 1 = q5; omega))
      refine vh_store8 12 (sets wf q5 0 (Vo9.cs (mine9 s))) rfl (by kernel_rfl) (want_none rfl) (ex_st rfl (ev s5 rfl) (ev s11 rfl) (stV9 HQq5 (mine9 s))) rfl hS8 ?_
      obtain ⟨wc, hwc⟩ : ∃ v, v = sets wf q5 0 (Vo9.cs (mine9 s)) := ⟨_, rfl⟩
      rw [← hwc] at HPq5 UPq5 hS8 ⊢
      clear hwc
      have hB := hB.trans (UPq5.below (B := w.heap.size) (by omega) (fun k hk => by omega))
      have zz9 := UPq5.size
      clear hS
      have hS := hS8
      clear hS8
      have HQq6 := HQq6.upd UPq5 (by show ¬ q6 = q5; omega)
      have HPq6 := VB9.put HQq6 (thr9 m)
      have UPq6 := updV9 wc q6 (thr9 m)
      have hS8 := And.intro (hS.1.upd UPq6 (by show ¬ w.heap.size = q6; omega)) (hS.2.upd UPq6 (by show ¬ w.heap.size + 1 = q6; omega))
      refine vh_store8 13 (sets wc q6 0 (Vo9.cs (thr9 m))) rfl (by kernel_rfl) (want_none rfl) (ex_st rfl (ev s6 rfl) (ev s16 rfl) (stV9 HQq6 (thr9 m))) rfl hS8 ?_
      obtain ⟨we, hwe⟩ : ∃ v, v = sets wc q6 0 (Vo9.cs (thr9 m)) := ⟨_, rfl⟩
      rw [← hwe] at HPq6 UPq6 hS8 ⊢
      clear hwe
      have hB := hB.trans (UPq6.below (B := w.heap.size) (by omega) (fun k hk => by omega))
      have zz9 := UPq6.size
      clear hS
      have hS := hS8
      clear hS8
      have HPq5 := HPq5.upd UPq6 (by show ¬ q5 = q6; omega)
      refine vh_done (by kernel_rfl) ?_
      exact ⟨_, rfl, hz, s2, s3, q5, q6, s5, s6, HPq5, HPq6, hS.1, hS.2, hB⟩
    · skip
      clear hwa bwa HQq5 zwa hS5 lwa hq5 wa q5
      intro R13 zz kk s6x
      replace s2 := ku s2
      replace s3 := ku s3
      replace s7 := ku s7
      replace s8 := ku s8
      replace s9 := ku s9
      replace s10 := ku s10
      replace s11 := ku s11
      replace s12 := ku s12
      replace s13 := ku s13
      replace s14 := ku s14
      replace s15 := ku s15
      replace s16 := ku s16
      clear kk hz
      have hz := zz
      have s6 := s6x
      clear zz s6x
      clear hS
      have hS := hS6
      have hB := hB.trans (bwb.mono (by omega))
      clear hwb
      obtain ⟨q5, hq5⟩ : ∃ z, z = wb.heap.size := ⟨_, rfl⟩
      obtain ⟨wf, hwf⟩ : ∃ y, y = wb.alloc (.cells zV9.cs.toArray 106) := ⟨_, rfl⟩
      have bwf : Below wb.heap.size wb wf := by rw [hwf]; exact (Below.refl _ _).alloc (Nat.le_refl _) _
      have HQq5 : VB9 wf q5 zV9 := by rw [hwf, hq5]; exact BX7.new _ _ _
      have zwf := bwf.size
      have hS7 := And.intro (hS.1.bel bwf) (hS.2.bel bwf)
      have lwf := HQq5.lt
      have HQq6 := HQq6.bel bwf
      refine vh_val8 10 (.pointer (some ⟨q5, 0, none⟩)) wf rfl (by kernel_rfl) (want_none rfl) (ex_al rfl (by rw [hwf, hq5]; exact alV9 _)) rfl hz (by decide) hS7 (fun R14 zz kk s5 => ?_)
      replace s2 := ku s2
      replace s3 := ku s3
      replace s7 := ku s7
      replace s8 := ku s8
      replace s9 := ku s9
      replace s10 := ku s10
      replace s11 := ku s11
      replace s12 := ku s12
      replace s13 := ku s13
      replace s14 := ku s14
      replace s15 := ku s15
      replace s16 := ku s16
      replace s6 := ku s6
      replace hz := zz
      clear kk zz
      clear hS
      have hS := hS7
      have hB := hB.trans (bwf.mono (by omega))
      clear hwf hS7
      have HPq5 := VB9.put HQq5 (mine9 s)
      have UPq5 := updV9 wf q5 (mine9 s)
      have hS8 := And.intro (hS.1.upd UPq5 (by show ¬ w.heap.size = q5; omega)) (hS.2.upd UPq5 (by show ¬ w.heap.size + 1 = q5; omega))
      refine vh_store8 12 (sets wf q5 0 (Vo9.cs (mine9 s))) rfl (by kernel_rfl) (want_none rfl) (ex_st rfl (ev s5 rfl) (ev s11 rfl) (stV9 HQq5 (mine9 s))) rfl hS8 ?_
      obtain ⟨wc, hwc⟩ : ∃ v, v = sets wf q5 0 (Vo9.cs (mine9 s)) := ⟨_, rfl⟩
      rw [← hwc] at HPq5 UPq5 hS8 ⊢
      clear hwc
      have hB := hB.trans (UPq5.below (B := w.heap.size) (by omega) (fun k hk => by omega))
      have zz9 := UPq5.size
      clear hS
      have hS := hS8
      clear hS8
      have HQq6 := HQq6.upd UPq5 (by show ¬ q6 = q5; omega)
      have HPq6 := VB9.put HQq6 (thr9 m)
      have UPq6 := updV9 wc q6 (thr9 m)
      have hS8 := And.intro (hS.1.upd UPq6 (by show ¬ w.heap.size = q6; omega)) (hS.2.upd UPq6 (by show ¬ w.heap.size + 1 = q6; omega))
      refine vh_store8 13 (sets wc q6 0 (Vo9.cs (thr9 m))) rfl (by kernel_rfl) (want_none rfl) (ex_st rfl (ev s6 rfl) (ev s16 rfl) (stV9 HQq6 (thr9 m))) rfl hS8 ?_
      obtain ⟨we, hwe⟩ : ∃ v, v = sets wc q6 0 (Vo9.cs (thr9 m)) := ⟨_, rfl⟩
      rw [← hwe] at HPq6 UPq6 hS8 ⊢
      clear hwe
      have hB := hB.trans (UPq6.below (B := w.heap.size) (by omega) (fun k hk => by omega))
      have zz9 := UPq6.size
      clear hS
      have hS := hS8
      clear hS8
      have HPq5 := HPq5.upd UPq6 (by show ¬ q5 = q6; omega)
      refine vh_done (by kernel_rfl) ?_
      exact ⟨_, rfl, hz, s2, s3, q5, q6, s5, s6, HPq5, HPq6, hS.1, hS.2, hB⟩
  · clear hz s2 s3 hS hB hzd
    intro T9 z1 hJ
    obtain ⟨hz, s2, s3, q5, q6, s5, s6, HI9⟩ := hJ
    obtain ⟨H5, H6, HS, HM, hB⟩ := HI9.out
    clear HI9
    have hv0 : Below z1.heap.size z1 z1 := Below.refl _ _
    have hzz := hB.size
    go_upto_region 2 with fail
    refine wp_region_lit ?_
    refine vt (.pointer (some ⟨w.heap.size, 6, none⟩)) (ex_fa rfl (ev s2 rfl) (faS6 _ _)) hz (fun Yb zz kk s17 => ?_)
    replace s3 := ku s3
    replace s5 := ku s5
    replace s6 := ku s6
    replace hz := zz
    clear kk zz s2
    refine vt (.slice s.va s.V.length s.vc) (ex_ld rfl (ev s17 rfl) (ldV8 ((HS.bel hv0).cell 6 _ rfl))) hz (fun Yc zz kk s18 => ?_)
    replace s3 := ku s3
    replace s5 := ku s5
    replace s6 := ku s6
    replace hz := zz
    clear kk zz s17 Yb
    refine vt (Vo9.val (thr9 m)) (ex_ld rfl (ev s6 rfl) (VB9.ld (H6.bel hv0))) hz (fun Yd zz kk s19 => ?_)
    replace s3 := ku s3
    replace s5 := ku s5
    replace s18 := ku s18
    replace hz := zz
    clear kk zz s6 Yc
    refine vcall true (.bool (ovB9 s.V (thr9 m))) (want_none rfl) (fun hc => ex_call rfl (by simp only [List.map_toArray, List.map_cons, List.map_nil, (ev s18 rfl), (ev s19 rfl), evc] <;> rfl) rfl) (fun hc => over9 s.V s.va s.vc (thr9 m) z1 ((hI.later (hB.trans (hv0.mono hzz))).v) ((hM.later (hB.trans (hv0.mono hzz))).v)) rfl hz (by decide) (fun Ye x1 hb zz kk s20 => ?_)
    have hx1 := hv0.trans (hb.mono hv0.size)
    clear hb
    replace s3 := ku s3
    replace s5 := ku s5
    replace hz := zz
    clear kk zz s18 s19 Yd
    refine vt (.bool (!(ovB9 s.V (thr9 m)))) (ex_not rfl (ev s20 rfl)) hz (fun Yf zz kk s21 => ?_)
    replace s3 := ku s3
    replace s5 := ku s5
    replace hz := zz
    clear kk zz s20 Ye
    refine vt _ (ex_move rfl (ev s21 rfl)) hz (fun Yg zz kk s22 => ?_)
    replace s3 := ku s3
    replace s5 := ku s5
    replace hz := zz
    clear kk zz s21 Yf
    refine vl _ (.pointer (some ⟨w.heap.size + 1, 17, none⟩)) (want_g rfl rfl s22) (fun hc => ex_fa rfl (ev s3 rfl) (faM9_10 _ _)) rfl hz (by decide) (fun Yh zz kk s23 => ?_)
    replace s5 := ku s5
    replace s22 := ku s22
    replace hz := zz
    clear kk zz s3 Yg
    refine vl _ (.slice m.va m.V.length m.vc) (want_g rfl rfl s22) (fun hc => ex_ld rfl (ev s23 hc) (ldV8 ((HM.bel hx1).cell 17 _ rfl))) rfl hz (by decide) (fun Yi zz kk s24 => ?_)
    replace s5 := ku s5
    replace s22 := ku s22
    replace hz := zz
    clear kk zz s23 Yh
    refine vl _ (Vo9.val (mine9 s)) (want_g rfl rfl s22) (fun hc => ex_ld rfl (ev s5 rfl) (VB9.ld (H5.bel hx1))) rfl hz (by decide) (fun Yj zz kk s25 => ?_)
    replace s22 := ku s22
    replace s24 := ku s24
    replace hz := zz
    clear kk zz s5 Yi
    refine vcall (true && ((!(ovB9 s.V (thr9 m))) == true)) (.bool (ovB9 m.V (mine9 s))) (want_g rfl rfl s22) (fun hc => ex_call rfl (by simp only [List.map_toArray, List.map_cons, List.map_nil, (ev s24 hc), (ev s25 hc), evc] <;> rfl) rfl) (fun hc => over9 m.V m.va m.vc (mine9 s) x1 ((hM.later (hB.trans (hx1.mono hzz))).v) ((hI.later (hB.trans (hx1.mono hzz))).v)) rfl hz (by decide) (fun Yk x2 hb zz kk s26 => ?_)
    have hx2 := hx1.trans (hb.mono hx1.size)
    clear hb
    replace s22 := ku s22
    replace hz := zz
    clear kk zz s24 s25 Yj
    refine vl _ (.bool (!(ovB9 m.V (mine9 s)))) (want_g rfl rfl s22) (fun hc => ex_not rfl (ev s26 hc)) rfl hz (by decide) (fun Yl zz kk s27 => ?_)
    replace s22 := ku s22
    replace hz := zz
    clear kk zz s26 Yk
    refine vt (.bool ((!(ovB9 s.V (thr9 m))) && (!(ovB9 m.V (mine9 s))))) (ex_and rfl s22 s27 rfl) hz (fun Ym zz kk s28 => ?_)
    replace hz := zz
    clear kk zz s22 s27 Yl
    refine vt _ (ex_assign rfl (ev s28 rfl)) hz (fun Yn zz kk s4 => ?_)
    replace hz := zz
    clear kk zz s28 Ym
    refine wpList_nil ?_
    go_wp2
    refine bodyPost_ret (results_tmp rfl _ _ _) rfl ⟨?_, hB.trans (hx2.mono hzz)⟩
    rw [getD_of s4]
    rfl
set_option maxHeartbeats 1000000 in
theorem admit9 (c : Cg) (s : Sta) (m : Ms9) (w : World) (hI : s.In w) (hF : s.Fit) (hM : m.In w) (hMF : m.Fit) (hT : Tab w) : Calls Tryz.prog 31 #[c.val, s.val, m.val] w fun e w' => ∃ (t : Sta) (b : Bool), e = .returned (.tuple #[t.val, .bool b, .int .i64 (adE9 c s m)]) ∧ t.In w' ∧ Ad9 w.heap.size c s m t b w' ∧ Below w.heap.size w w' := by
  go_enter Tryz.func31, Tryz.ntmps31
  go_upto_region 0 with fail
  refine wp_region_lit ?_
  refine vl_gen (fun T => T.size = 66 ∧ T[0]? = some (gw true (c.val)) ∧ T[1]? = some (gw true (s.val)) ∧ T[2]? = some (gw true (m.val))) ⟨rfl, rfl, rfl, rfl⟩ (fun Z0 ⟨hz, s0, s1, s2⟩ => ?_)
  obtain ⟨w1, hw1⟩ : ∃ y, y = w.alloc (.cells c.cs.toArray 23) := ⟨_, rfl⟩
  have hb : Below w.heap.size w w1 := by rw [hw1]; exact (Below.refl _ _).alloc (Nat.le_refl _) _
  have hs1 : w1.heap.size = w.heap.size + 1 := by rw [hw1]; simp
  have HC : CB7 w1 (w.heap.size) c := by rw [hw1]; exact BX7.new _ _ _
  refine vw (.pointer (some ⟨w.heap.size, 0, none⟩)) w1 (want_none rfl) (ex_box8 rfl (ev s0 rfl) (by rw [hw1]; exact bxC7 _ _)) rfl hz (by decide) (fun Z1 zz kk s3x => ?_)
  replace s1 := ku s1
  replace s2 := ku s2
  clear kk hz s0 hw1
  have hz := zz
  have s3 := s3x
  clear zz s3x
  have hB := hb
  clear hb
  obtain ⟨w2, hw2⟩ : ∃ y, y = w1.alloc (.cells s.cs.toArray 36) := ⟨_, rfl⟩
  have hb : Below w1.heap.size w1 w2 := by rw [hw2]; exact (Below.refl _ _).alloc (Nat.le_refl _) _
  have hs2 : w2.heap.size = w.heap.size + 2 := by rw [hw2]; simp; omega
  have HS : SB7 w2 (w.heap.size + 1) s := by rw [hw2, ← hs1]; exact BX7.new _ _ _
  refine vw (.pointer (some ⟨w.heap.size + 1, 0, none⟩)) w2 (want_none rfl) (ex_box8 rfl (ev s1 rfl) (by rw [hw2, ← hs1]; exact bxS7 _ _)) rfl hz (by decide) (fun Z2 zz kk s4x => ?_)
  replace s2 := ku s2
  replace s3 := ku s3
  clear kk hz s1 hw2
  have hz := zz
  have s4 := s4x
  clear zz s4x
  have hB := hB.trans (hb.mono (by omega))
  have HC := HC.bel hb
  clear hb
  obtain ⟨w3, hw3⟩ : ∃ y, y = w2.alloc (.cells m.cs.toArray 70) := ⟨_, rfl⟩
  have hb : Below w2.heap.size w2 w3 := by rw [hw3]; exact (Below.refl _ _).alloc (Nat.le_refl _) _
  have hs3 : w3.heap.size = w.heap.size + 3 := by rw [hw3]; simp; omega
  have HM : MB9 w3 (w.heap.size + 2) m := by rw [hw3, ← hs2]; exact BX7.new _ _ _
  refine vw (.pointer (some ⟨w.heap.size + 2, 0, none⟩)) w3 (want_none rfl) (ex_box8 rfl (ev s2 rfl) (by rw [hw3, ← hs2]; exact bxM9 _ _)) rfl hz (by decide) (fun Z3 zz kk s5x => ?_)
  replace s3 := ku s3
  replace s4 := ku s4
  clear kk hz s2 hw3
  have hz := zz
  have s5 := s5x
  clear zz s5x
  have hB := hB.trans (hb.mono (by omega))
  have HC := HC.bel hb
  have HS := HS.bel hb
  clear hb
  have hv0 : Below w3.heap.size w3 w3 := Below.refl _ _
  obtain ⟨w4, hw4⟩ : ∃ y, y = w3.alloc (.cells zS8.cs.toArray 36) := ⟨_, rfl⟩
  have hb : Below w3.heap.size w3 w4 := by rw [hw4]; exact (Below.refl _ _).alloc (Nat.le_refl _) _
  have HZ : SB7 w4 (w.heap.size + 3) zS8 := by rw [hw4, ← hs3]; exact BX7.new _ _ _
  have hz4 : w4.heap.size = w.heap.size + 4 := by rw [hw4]; simp; omega
  refine vw (.pointer (some ⟨w.heap.size + 3, 0, none⟩)) w4 (want_none rfl) (ex_al rfl (by rw [hw4, ← hs3]; exact al12 _)) rfl hz (by decide) (fun Ya zz kk s6 => ?_)
  replace s3 := ku s3
  replace s4 := ku s4
  replace s5 := ku s5
  replace hz := zz
  clear kk zz
  refine vt (.bool false) (ex_assign rfl rfl) hz (fun Yb zz kk s7 => ?_)
  replace s3 := ku s3
  replace s4 := ku s4
  replace s5 := ku s5
  replace s6 := ku s6
  replace hz := zz
  clear kk zz Ya
  refine vt (.int .i64 0) (ex_assign rfl rfl) hz (fun Yc zz kk s8 => ?_)
  replace s3 := ku s3
  replace s4 := ku s4
  replace s5 := ku s5
  replace s6 := ku s6
  replace hz := zz
  clear kk zz s7 Yb
  clear s8
  refine wpList_nil ?_
  have hB := hB.trans (hb.mono (by omega))
  have HS := HS.bel hb
  have HC := HC.bel hb
  have HM := HM.bel hb
  clear hb hw4 hv0
  have hv0 : Below w4.heap.size w4 w4 := Below.refl _ _
  have hzc : w4.heap.size ≤ w4.heap.size := Nat.le_refl _
  have HI := hI.later hB
  have hT4 := hT.later hB hT.lt
  go_upto_region 1 with fail
  refine wp_region_lit ?_
  refine vt (c.val) (ex_ld rfl (ev s3 rfl) (CB7.ld (HC.bel hv0))) hz (fun Yd zz kk s13 => ?_)
  replace s3 := ku s3
  replace s4 := ku s4
  replace s5 := ku s5
  replace s6 := ku s6
  replace hz := zz
  clear kk zz
  refine vt (s.val) (ex_ld rfl (ev s4 rfl) (SB7.ld (HS.bel hv0))) hz (fun Ye zz kk s14 => ?_)
  replace s3 := ku s3
  replace s4 := ku s4
  replace s5 := ku s5
  replace s6 := ku s6
  replace s13 := ku s13
  replace hz := zz
  clear kk zz Yd
  refine vcall true (.int .i64 (s.ckE c)) (want_none rfl) (fun hc => ex_call rfl (by simp only [List.map_toArray, List.map_cons, List.map_nil, (ev s13 rfl), (ev s14 rfl), evc] <;> rfl) rfl) (fun hc => check8 c s w4 (HI.later hv0) hF) rfl hz (by decide) (fun Yf x1 hb zz kk s15 => ?_)
  have hx1 := hv0.trans (hb.mono hv0.size)
  clear hb
  replace s3 := ku s3
  replace s4 := ku s4
  replace s5 := ku s5
  replace s6 := ku s6
  replace hz := zz
  clear kk zz s13 s14 Ye
  refine vt _ (ex_assign rfl (ev s15 rfl)) hz (fun Yg zz kk s9 => ?_)
  replace s3 := ku s3
  replace s4 := ku s4
  replace s5 := ku s5
  replace s6 := ku s6
  replace hz := zz
  clear kk zz s15 Yf
  refine wpList_nil ?_
  go_upto_region 2 with fail
  refine wp_region_lit ?_
  refine vt _ (ex_move rfl (ev s9 rfl)) hz (fun Yh zz kk s16 => ?_)
  replace s3 := ku s3
  replace s4 := ku s4
  replace s5 := ku s5
  replace s6 := ku s6
  replace s9 := ku s9
  replace hz := zz
  clear kk zz
  refine vt (.bool (!decide ((s.ckE c) = 0))) (ex_bin rfl (ev s16 rfl) rfl (neqN8 _ _ _ _ _)) hz (fun Yi zz kk s17 => ?_)
  replace s3 := ku s3
  replace s4 := ku s4
  replace s5 := ku s5
  replace s6 := ku s6
  replace s9 := ku s9
  replace hz := zz
  clear kk zz s16 Yh
  refine wpList_nil ?_
  go_upto_region 3 with fail
  cases e17 : decide (s.ckE c = 0)
  · refine wp_cond_true ((ev s17 rfl).trans (by rw [e17]; rfl)) ?_
    have hne := of_decide_eq_false e17
    have hEE : adE9 c s m = s.ckE c := if_neg hne
    go_upto_region 3 with fail
    refine wp_region_lit ?_
    refine vt (zS8.val) (ex_build rfl (bd12 _)) hz (fun Yj zz kk s18 => ?_)
    replace s6 := ku s6
    replace s9 := ku s9
    replace hz := zz
    clear kk zz s3 s4 s5
    refine vt _ (ex_move rfl (ev s9 rfl)) hz (fun Yk zz kk s19 => ?_)
    replace s6 := ku s6
    replace s18 := ku s18
    replace hz := zz
    clear kk zz s9 Yj
    refine vs (sets x1 (w.heap.size + 3) 0 (Sta.cs zS8)) (want_none rfl) (ex_st rfl (ev s6 rfl) (ev s18 rfl) (st12 (HZ.bel hx1) zS8)) rfl ?_
    have HP := SB7.put (HZ.bel hx1) zS8
    have UP := upd12 x1 (w.heap.size + 3) zS8
    obtain ⟨u9, hu9⟩ : ∃ v, v = sets x1 (w.heap.size + 3) 0 (Sta.cs zS8) := ⟨_, rfl⟩
    rw [← hu9] at HP UP ⊢
    clear hu9
    refine vt (.bool false) (ex_assign rfl rfl) hz (fun Yl zz kk s7 => ?_)
    replace s6 := ku s6
    replace s19 := ku s19
    replace hz := zz
    clear kk zz s18 Yk
    refine vt _ (ex_assign rfl (ev s19 rfl)) hz (fun Ym zz kk s8 => ?_)
    replace s6 := ku s6
    replace s7 := ku s7
    replace hz := zz
    clear kk zz s19 Yl
    refine wpList_nil ?_
    have hB9 := hide ((hB.trans (hx1.mono (by omega))).trans (UP.below (by have := hx1.size; omega) (fun k hk => by omega)))
    go_wp2
    refine bodyPost_ret (results_sta3 rfl (getD_of s6) (getD_of s7) (getD_of s8) HP) rfl ?_
    rw [hEE]
    exact ⟨zS8, false, rfl, zS8_in _, .inl ⟨by rw [hEE]; exact hne, rfl, rfl⟩, hB9.out⟩
  · refine wp_cond_false ((ev s17 rfl).trans (by rw [e17]; rfl)) ?_
    clear s17 s9
    have hE0 := of_decide_eq_true e17
    have hEE : adE9 c s m = adM9 c m := if_pos hE0
    have hB := hB.trans (hx1.mono (by omega))
    have HS := HS.bel hx1
    have HC := HC.bel hx1
    have HM := HM.bel hx1
    have HZ := HZ.bel hx1
    have hzc := hx1.size
    have hv1 : Below x1.heap.size x1 x1 := Below.refl _ _
    go_upto_region 4 with fail
    refine wp_region_lit ?_
    refine vt (c.val) (ex_ld rfl (ev s3 rfl) (CB7.ld (HC.bel hv1))) hz (fun Yn zz kk s20 => ?_)
    replace s3 := ku s3
    replace s4 := ku s4
    replace s5 := ku s5
    replace s6 := ku s6
    replace hz := zz
    clear kk zz
    refine vt (m.val) (ex_ld rfl (ev s5 rfl) (MB9.ld (HM.bel hv1))) hz (fun Yo zz kk s21 => ?_)
    replace s3 := ku s3
    replace s4 := ku s4
    replace s5 := ku s5
    replace s6 := ku s6
    replace s20 := ku s20
    replace hz := zz
    clear kk zz Yn
    refine vcall true (.int .i64 (adM9 c m)) (want_none rfl) (fun hc => ex_call rfl (by simp only [List.map_toArray, List.map_cons, List.map_nil, (ev s20 rfl), (ev s21 rfl), evc] <;> rfl) rfl) (fun hc => mcheck9 c m x1 (hT.later (hB.trans (hv1.mono (by omega))) hT.lt) (hM.later (hB.trans (hv1.mono (by omega)))) hMF) rfl hz (by decide) (fun Yp x2 hb zz kk s22 => ?_)
    have hx2 := hv1.trans (hb.mono hv1.size)
    clear hb
    replace s3 := ku s3
    replace s4 := ku s4
    replace s5 := ku s5
    replace s6 := ku s6
    replace hz := zz
    clear kk zz s20 s21 Yo
    refine vt _ (ex_assign rfl (ev s22 rfl)) hz (fun Yq zz kk s10 => ?_)
    replace s3 := ku s3
    replace s4 := ku s4
    replace s5 := ku s5
    replace s6 := ku s6
    replace hz := zz
    clear kk zz s22 Yp
    refine wpList_nil ?_
    go_upto_region 5 with fail
    refine wp_region_lit ?_
    refine vt _ (ex_move rfl (ev s10 rfl)) hz (fun Yr zz kk s23 => ?_)
    replace s3 := ku s3
    replace s4 := ku s4
    replace s5 := ku s5
    replace s6 := ku s6
    replace s10 := ku s10
    replace hz := zz
    clear kk zz
    refine vt (.bool (!decide ((adM9 c m) = 0))) (ex_bin rfl (ev s23 rfl) rfl (neqN8 _ _ _ _ _)) hz (fun Ys zz kk s24 => ?_)
    replace s3 := ku s3
    replace s4 := ku s4
    replace s5 := ku s5
    replace s6 := ku s6
    replace s10 := ku s10
    replace hz := zz
    clear kk zz s23 Yr
    refine wpList_nil ?_
    go_upto_region 6 with fail
    cases e24 : decide (adM9 c m = 0)
    · refine wp_cond_true ((ev s24 rfl).trans (by rw [e24]; rfl)) ?_
      have hne := of_decide_eq_false e24
      go_upto_region 6 with fail
      refine wp_region_lit ?_
      refine vt (zS8.val) (ex_build rfl (bd12 _)) hz (fun Yt zz kk s25 => ?_)
      replace s6 := ku s6
      replace s10 := ku s10
      replace hz := zz
      clear kk zz s3 s4 s5
      refine vt _ (ex_move rfl (ev s10 rfl)) hz (fun Yu zz kk s26 => ?_)
      replace s6 := ku s6
      replace s25 := ku s25
      replace hz := zz
      clear kk zz s10 Yt
      refine vs (sets x2 (w.heap.size + 3) 0 (Sta.cs zS8)) (want_none rfl) (ex_st rfl (ev s6 rfl) (ev s25 rfl) (st12 (HZ.bel hx2) zS8)) rfl ?_
      have HP := SB7.put (HZ.bel hx2) zS8
      have UP := upd12 x2 (w.heap.size + 3) zS8
      obtain ⟨u9, hu9⟩ : ∃ v, v = sets x2 (w.heap.size + 3) 0 (Sta.cs zS8) := ⟨_, rfl⟩
      rw [← hu9] at HP UP ⊢
      clear hu9
      refine vt (.bool false) (ex_assign rfl rfl) hz (fun Yv zz kk s7 => ?_)
      replace s6 := ku s6
      replace s26 := ku s26
      replace hz := zz
      clear kk zz s25 Yu
      refine vt _ (ex_assign rfl (ev s26 rfl)) hz (fun Yw zz kk s8 => ?_)
      replace s6 := ku s6
      replace s7 := ku s7
      replace hz := zz
      clear kk zz s26 Yv
      refine wpList_nil ?_
      have hB9 := hide ((hB.trans (hx2.mono (by omega))).trans (UP.below (by have := hx2.size; omega) (fun k hk => by omega)))
      go_wp2
      refine bodyPost_ret (results_sta3 rfl (getD_of s6) (getD_of s7) (getD_of s8) HP) rfl ?_
      rw [hEE]
      exact ⟨zS8, false, rfl, zS8_in _, .inl ⟨by rw [hEE]; exact hne, rfl, rfl⟩, hB9.out⟩
    refine wp_cond_false ((ev s24 rfl).trans (by rw [e24]; rfl)) ?_
    clear s24 s10
    have hM0 := of_decide_eq_true e24
    have hE9 : adE9 c s m = 0 := hEE.trans hM0
    have hB := hB.trans (hx2.mono (by omega))
    have HS := HS.bel hx2
    have HC := HC.bel hx2
    have HM := HM.bel hx2
    have HZ := HZ.bel hx2
    have hzc := hx2.size
    have hv2 : Below x2.heap.size x2 x2 := Below.refl _ _
    go_upto_region 7 with fail
    refine wp_region_lit ?_
    refine vt (.pointer (some ⟨w.heap.size + 2, 0, none⟩)) (ex_fa rfl (ev s5 rfl) (faM9_0 _ _)) hz (fun Yx zz kk s28 => ?_)
    replace s3 := ku s3
    replace s4 := ku s4
    replace s5 := ku s5
    replace s6 := ku s6
    replace hz := zz
    clear kk zz
    refine vt (.int .i64 m.m.k) (ex_ld rfl (ev s28 rfl) (ldKd9 ((HM.bel hv2).cell 0 _ rfl))) hz (fun Yy zz kk s29 => ?_)
    replace s3 := ku s3
    replace s4 := ku s4
    replace s5 := ku s5
    replace s6 := ku s6
    replace hz := zz
    clear kk zz s28 Yx
    refine vcall true (.bool (btB m.m.k)) (want_none rfl) (fun hc => ex_call rfl (by simp only [List.map_toArray, List.map_cons, List.map_nil, (ev s29 rfl), evc] <;> rfl) rfl) (fun hc => between9 m.m.k x2 (hT.later (hB.trans (hv2.mono (by omega))) hT.lt)) rfl hz (by decide) (fun Yz x3 hb zz kk s30 => ?_)
    have hx3 := hv2.trans (hb.mono hv2.size)
    clear hb
    replace s3 := ku s3
    replace s4 := ku s4
    replace s5 := ku s5
    replace s6 := ku s6
    replace hz := zz
    clear kk zz s29 Yy
    refine vt (.bool (!(btB m.m.k))) (ex_not rfl (ev s30 rfl)) hz (fun Y0 zz kk s31 => ?_)
    replace s3 := ku s3
    replace s4 := ku s4
    replace s5 := ku s5
    replace s6 := ku s6
    replace hz := zz
    clear kk zz s30 Yz
    refine vt _ (ex_assign rfl (ev s31 rfl)) hz (fun Y1 zz kk s27 => ?_)
    replace s3 := ku s3
    replace s4 := ku s4
    replace s5 := ku s5
    replace s6 := ku s6
    replace hz := zz
    clear kk zz s31 Y0
    refine wpList_nil ?_
    go_upto_region 8 with fail
    cases eb : btB m.m.k
    · refine wp_cond_true ((ev s27 rfl).trans (by rw [eb]; rfl)) ?_
      clear s27
      go_upto_region 8 with fail
      refine wp_region_lit ?_
      refine vt (s.val) (ex_ld rfl (ev s4 rfl) (SB7.ld (HS.bel hx3))) hz (fun Y2 zz kk s32 => ?_)
      replace s6 := ku s6
      replace hz := zz
      clear kk zz s3 s4 s5
      refine vcallP (want_none rfl) (ex_call rfl (by simp only [List.map_toArray, List.map_cons, List.map_nil, (ev s32 rfl), evc] <;> rfl) rfl) (copied8 s x3 (hI.later (hB.trans (hx3.mono (by omega)))) hF) rfl hz (by decide) ?_
      rintro e x9 ⟨t, rfl, hk, hlo, bk⟩
      refine ⟨_, rfl, fun Y3 zz kk s33 => ?_⟩
      have zk := hx3.size
      have zk2 := bk.size
      have hB := (hB.trans (hx3.mono (by omega))).trans (bk.mono (by omega))
      have HZ := (HZ.bel hx3).bel bk
      replace s6 := ku s6
      replace hz := zz
      clear kk zz s32 Y2
      refine vs (sets x9 (w.heap.size + 3) 0 (Sta.cs t)) (want_none rfl) (ex_st rfl (ev s6 rfl) (ev s33 rfl) (st12 HZ t)) rfl ?_
      have HP := SB7.put HZ t
      have UP := upd12 x9 (w.heap.size + 3) t
      obtain ⟨u9, hu9⟩ : ∃ v, v = sets x9 (w.heap.size + 3) 0 (Sta.cs t) := ⟨_, rfl⟩
      rw [← hu9] at HP UP ⊢
      clear hu9
      refine vt (.bool true) (ex_assign rfl rfl) hz (fun Y4 zz kk s7 => ?_)
      replace s6 := ku s6
      replace hz := zz
      clear kk zz s33 Y3
      refine vt (.int .i64 0) (ex_assign rfl rfl) hz (fun Y5 zz kk s8 => ?_)
      replace s6 := ku s6
      replace s7 := ku s7
      replace hz := zz
      clear kk zz Y4
      refine wpList_nil ?_
      have hk := hk.set8 UP (by omega) hlo
      have hB9 := hide (hB.trans (UP.below (by omega) (fun k hk => by omega)))
      go_wp2
      refine bodyPost_ret (results_sta3 rfl (getD_of s6) (getD_of s7) (getD_of s8) HP) rfl ?_
      rw [hE9]
      exact ⟨t, true, rfl, hk.inn, .inr ⟨hE9, by rw [show adV9 c s m = s.V from by unfold adV9; rw [eb]; rfl]; exact hk.low8 (by omega), hlo.low (by omega), by unfold adB9; rw [eb]; rfl⟩, hB9.out⟩
    refine wp_cond_false ((ev s27 rfl).trans (by rw [eb]; rfl)) ?_
    clear s27
    have hB := hB.trans (hx3.mono (by omega))
    have HS := HS.bel hx3
    have HC := HC.bel hx3
    have HM := HM.bel hx3
    have HZ := HZ.bel hx3
    have hzc := hx3.size
    have hv3 : Below x3.heap.size x3 x3 := Below.refl _ _
    go_upto_region 9 with fail
    refine wp_region_lit ?_
    refine vt (.pointer (some ⟨w.heap.size + 2, 1, none⟩)) (ex_fa rfl (ev s5 rfl) (faM9_1 _ _)) hz (fun Y6 zz kk s35 => ?_)
    replace s3 := ku s3
    replace s4 := ku s4
    replace s5 := ku s5
    replace s6 := ku s6
    replace hz := zz
    clear kk zz
    refine vt (.int .i64 m.m.nd) (ex_ld rfl (ev s35 rfl) (ldI8 ((HM.bel hv3).cell 1 _ rfl))) hz (fun Y7 zz kk s36 => ?_)
    replace s3 := ku s3
    replace s4 := ku s4
    replace s5 := ku s5
    replace s6 := ku s6
    replace hz := zz
    clear kk zz s35 Y6
    refine vt (.pointer (some ⟨w.heap.size + 1, 0, none⟩)) (ex_fa rfl (ev s4 rfl) (faS0 _ _)) hz (fun Y8 zz kk s37 => ?_)
    replace s3 := ku s3
    replace s4 := ku s4
    replace s5 := ku s5
    replace s6 := ku s6
    replace s36 := ku s36
    replace hz := zz
    clear kk zz Y7
    refine vt (.int .i64 s.self) (ex_ld rfl (ev s37 rfl) (ldI8 ((HS.bel hv3).cell 0 _ rfl))) hz (fun Y9 zz kk s38 => ?_)
    replace s3 := ku s3
    replace s4 := ku s4
    replace s5 := ku s5
    replace s6 := ku s6
    replace s36 := ku s36
    replace hz := zz
    clear kk zz s37 Y8
    refine vt (.bool (decide (m.m.nd = s.self))) (ex_bin rfl (ev s36 rfl) (ev s38 rfl) (eqlC _ _ _ _ _)) hz (fun Yba zz kk s39 => ?_)
    replace s3 := ku s3
    replace s4 := ku s4
    replace s5 := ku s5
    replace s6 := ku s6
    replace hz := zz
    clear kk zz s36 s38 Y9
    refine vt _ (ex_assign rfl (ev s39 rfl)) hz (fun Ybb zz kk s34 => ?_)
    replace s3 := ku s3
    replace s4 := ku s4
    replace s5 := ku s5
    replace s6 := ku s6
    replace hz := zz
    clear kk zz s39 Yba
    refine wpList_nil ?_
    go_upto_region 10 with fail
    cases en : decide (m.m.nd = s.self)
    rotate_left
    · refine wp_cond_true ((ev s34 rfl).trans (congrArg Value.bool en)) ?_
      clear s34
      go_upto_region 10 with fail
      refine wp_region_lit ?_
      refine vt (s.val) (ex_ld rfl (ev s4 rfl) (SB7.ld (HS.bel hv3))) hz (fun Ybc zz kk s40 => ?_)
      replace s6 := ku s6
      replace hz := zz
      clear kk zz s3 s4 s5
      refine vcallP (want_none rfl) (ex_call rfl (by simp only [List.map_toArray, List.map_cons, List.map_nil, (ev s40 rfl), evc] <;> rfl) rfl) (copied8 s x3 (hI.later (hB.trans (hv3.mono (by omega)))) hF) rfl hz (by decide) ?_
      rintro e x9 ⟨t, rfl, hk, hlo, bk⟩
      refine ⟨_, rfl, fun Ybd zz kk s41 => ?_⟩
      have zk := hv3.size
      have zk2 := bk.size
      have hB := (hB.trans (hv3.mono (by omega))).trans (bk.mono (by omega))
      have HZ := (HZ.bel hv3).bel bk
      replace s6 := ku s6
      replace hz := zz
      clear kk zz s40 Ybc
      refine vs (sets x9 (w.heap.size + 3) 0 (Sta.cs t)) (want_none rfl) (ex_st rfl (ev s6 rfl) (ev s41 rfl) (st12 HZ t)) rfl ?_
      have HP := SB7.put HZ t
      have UP := upd12 x9 (w.heap.size + 3) t
      obtain ⟨u9, hu9⟩ : ∃ v, v = sets x9 (w.heap.size + 3) 0 (Sta.cs t) := ⟨_, rfl⟩
      rw [← hu9] at HP UP ⊢
      clear hu9
      refine vt (.bool false) (ex_assign rfl rfl) hz (fun Ybe zz kk s7 => ?_)
      replace s6 := ku s6
      replace hz := zz
      clear kk zz s41 Ybd
      refine vt (.int .i64 0) (ex_assign rfl rfl) hz (fun Ybf zz kk s8 => ?_)
      replace s6 := ku s6
      replace s7 := ku s7
      replace hz := zz
      clear kk zz Ybe
      refine wpList_nil ?_
      have hk := hk.set8 UP (by omega) hlo
      have hB9 := hide (hB.trans (UP.below (by omega) (fun k hk => by omega)))
      go_wp2
      refine bodyPost_ret (results_sta3 rfl (getD_of s6) (getD_of s7) (getD_of s8) HP) rfl ?_
      rw [hE9]
      exact ⟨t, false, rfl, hk.inn, .inr ⟨hE9, by rw [show adV9 c s m = s.V from by unfold adV9; rw [eb, en]; rfl]; exact hk.low8 (by omega), hlo.low (by omega), by unfold adB9; rw [eb, en]; rfl⟩, hB9.out⟩
    refine wp_cond_false ((ev s34 rfl).trans (congrArg Value.bool en)) ?_
    clear s34
    go_upto_region 11 with fail
    refine wp_region_lit ?_
    refine vt (.pointer (some ⟨w.heap.size, 3, none⟩)) (ex_fa rfl (ev s3 rfl) (faC3 _ _)) hz (fun Ybg zz kk s43 => ?_)
    replace s3 := ku s3
    replace s4 := ku s4
    replace s5 := ku s5
    replace s6 := ku s6
    replace hz := zz
    clear kk zz
    refine vt (.bool c.u) (ex_ld rfl (ev s43 rfl) (ldU8 ((HC.bel hv3).cell 3 _ rfl))) hz (fun Ybh zz kk s44 => ?_)
    replace s3 := ku s3
    replace s4 := ku s4
    replace s5 := ku s5
    replace s6 := ku s6
    replace hz := zz
    clear kk zz s43 Ybg
    refine vt _ (ex_assign rfl (ev s44 rfl)) hz (fun Ybi zz kk s42 => ?_)
    replace s3 := ku s3
    replace s4 := ku s4
    replace s5 := ku s5
    replace s6 := ku s6
    replace hz := zz
    clear kk zz s44 Ybh
    refine wpList_nil ?_
    go_upto_region 12 with fail
    cases eu : c.u
    rotate_left
    · refine wp_cond_true ((ev s42 rfl).trans (congrArg Value.bool eu)) ?_
      clear s42
      go_upto_region 12 with fail
      refine wp_region_lit ?_
      refine vt (s.val) (ex_ld rfl (ev s4 rfl) (SB7.ld (HS.bel hv3))) hz (fun Ybj zz kk s45 => ?_)
      replace s6 := ku s6
      replace hz := zz
      clear kk zz s3 s4 s5
      refine vcallP (want_none rfl) (ex_call rfl (by simp only [List.map_toArray, List.map_cons, List.map_nil, (ev s45 rfl), evc] <;> rfl) rfl) (copied8 s x3 (hI.later (hB.trans (hv3.mono (by omega)))) hF) rfl hz (by decide) ?_
      rintro e x9 ⟨t, rfl, hk, hlo, bk⟩
      refine ⟨_, rfl, fun Ybk zz kk s46 => ?_⟩
      have zk := hv3.size
      have zk2 := bk.size
      have hB := (hB.trans (hv3.mono (by omega))).trans (bk.mono (by omega))
      have HZ := (HZ.bel hv3).bel bk
      replace s6 := ku s6
      replace hz := zz
      clear kk zz s45 Ybj
      refine vs (sets x9 (w.heap.size + 3) 0 (Sta.cs t)) (want_none rfl) (ex_st rfl (ev s6 rfl) (ev s46 rfl) (st12 HZ t)) rfl ?_
      have HP := SB7.put HZ t
      have UP := upd12 x9 (w.heap.size + 3) t
      obtain ⟨u9, hu9⟩ : ∃ v, v = sets x9 (w.heap.size + 3) 0 (Sta.cs t) := ⟨_, rfl⟩
      rw [← hu9] at HP UP ⊢
      clear hu9
      refine vt (.bool true) (ex_assign rfl rfl) hz (fun Ybl zz kk s7 => ?_)
      replace s6 := ku s6
      replace hz := zz
      clear kk zz s46 Ybk
      refine vt (.int .i64 0) (ex_assign rfl rfl) hz (fun Ybm zz kk s8 => ?_)
      replace s6 := ku s6
      replace s7 := ku s7
      replace hz := zz
      clear kk zz Ybl
      refine wpList_nil ?_
      have hk := hk.set8 UP (by omega) hlo
      have hB9 := hide (hB.trans (UP.below (by omega) (fun k hk => by omega)))
      go_wp2
      refine bodyPost_ret (results_sta3 rfl (getD_of s6) (getD_of s7) (getD_of s8) HP) rfl ?_
      rw [hE9]
      exact ⟨t, true, rfl, hk.inn, .inr ⟨hE9, by rw [show adV9 c s m = s.V from by unfold adV9; rw [eb, en, eu]; rfl]; exact hk.low8 (by omega), hlo.low (by omega), by unfold adB9; rw [eb, en, eu]; rfl⟩, hB9.out⟩
    refine wp_cond_false ((ev s42 rfl).trans (congrArg Value.bool eu)) ?_
    clear s42
    go_upto_region 13 with fail
    refine wp_region_lit ?_
    refine vt (s.val) (ex_ld rfl (ev s4 rfl) (SB7.ld (HS.bel hv3))) hz (fun Ybn zz kk s48 => ?_)
    replace s3 := ku s3
    replace s4 := ku s4
    replace s5 := ku s5
    replace s6 := ku s6
    replace hz := zz
    clear kk zz
    refine vt (m.val) (ex_ld rfl (ev s5 rfl) (MB9.ld (HM.bel hv3))) hz (fun Ybo zz kk s49 => ?_)
    replace s3 := ku s3
    replace s4 := ku s4
    replace s5 := ku s5
    replace s6 := ku s6
    replace s48 := ku s48
    replace hz := zz
    clear kk zz Ybn
    refine vcall true (.bool (hear9 s m)) (want_none rfl) (fun hc => ex_call rfl (by simp only [List.map_toArray, List.map_cons, List.map_nil, (ev s48 rfl), (ev s49 rfl), evc] <;> rfl) rfl) (fun hc => mayhear9 s m x3 (hI.later (hB.trans (hv3.mono (by omega)))) (hM.later (hB.trans (hv3.mono (by omega))))) rfl hz (by decide) (fun Ybp x4 hb zz kk s50 => ?_)
    have hx4 := hv3.trans (hb.mono hv3.size)
    clear hb
    replace s3 := ku s3
    replace s4 := ku s4
    replace s5 := ku s5
    replace s6 := ku s6
    replace hz := zz
    clear kk zz s48 s49 Ybo
    refine vt (.bool (!(hear9 s m))) (ex_not rfl (ev s50 rfl)) hz (fun Ybq zz kk s51 => ?_)
    replace s3 := ku s3
    replace s4 := ku s4
    replace s5 := ku s5
    replace s6 := ku s6
    replace hz := zz
    clear kk zz s50 Ybp
    refine vt _ (ex_assign rfl (ev s51 rfl)) hz (fun Ybr zz kk s47 => ?_)
    replace s3 := ku s3
    replace s4 := ku s4
    replace s5 := ku s5
    replace s6 := ku s6
    replace hz := zz
    clear kk zz s51 Ybq
    refine wpList_nil ?_
    go_upto_region 14 with fail
    cases eh : hear9 s m
    · refine wp_cond_true ((ev s47 rfl).trans (by rw [eh]; rfl)) ?_
      clear s47
      go_upto_region 14 with fail
      refine wp_region_lit ?_
      refine vt (s.val) (ex_ld rfl (ev s4 rfl) (SB7.ld (HS.bel hx4))) hz (fun Ybs zz kk s52 => ?_)
      replace s6 := ku s6
      replace hz := zz
      clear kk zz s3 s4 s5
      refine vcallP (want_none rfl) (ex_call rfl (by simp only [List.map_toArray, List.map_cons, List.map_nil, (ev s52 rfl), evc] <;> rfl) rfl) (copied8 s x4 (hI.later (hB.trans (hx4.mono (by omega)))) hF) rfl hz (by decide) ?_
      rintro e x9 ⟨t, rfl, hk, hlo, bk⟩
      refine ⟨_, rfl, fun Ybt zz kk s53 => ?_⟩
      have zk := hx4.size
      have zk2 := bk.size
      have hB := (hB.trans (hx4.mono (by omega))).trans (bk.mono (by omega))
      have HZ := (HZ.bel hx4).bel bk
      replace s6 := ku s6
      replace hz := zz
      clear kk zz s52 Ybs
      refine vs (sets x9 (w.heap.size + 3) 0 (Sta.cs t)) (want_none rfl) (ex_st rfl (ev s6 rfl) (ev s53 rfl) (st12 HZ t)) rfl ?_
      have HP := SB7.put HZ t
      have UP := upd12 x9 (w.heap.size + 3) t
      obtain ⟨u9, hu9⟩ : ∃ v, v = sets x9 (w.heap.size + 3) 0 (Sta.cs t) := ⟨_, rfl⟩
      rw [← hu9] at HP UP ⊢
      clear hu9
      refine vt (.bool false) (ex_assign rfl rfl) hz (fun Ybu zz kk s7 => ?_)
      replace s6 := ku s6
      replace hz := zz
      clear kk zz s53 Ybt
      refine vt (.int .i64 0) (ex_assign rfl rfl) hz (fun Ybv zz kk s8 => ?_)
      replace s6 := ku s6
      replace s7 := ku s7
      replace hz := zz
      clear kk zz Ybu
      refine wpList_nil ?_
      have hk := hk.set8 UP (by omega) hlo
      have hB9 := hide (hB.trans (UP.below (by omega) (fun k hk => by omega)))
      go_wp2
      refine bodyPost_ret (results_sta3 rfl (getD_of s6) (getD_of s7) (getD_of s8) HP) rfl ?_
      rw [hE9]
      exact ⟨t, false, rfl, hk.inn, .inr ⟨hE9, by rw [show adV9 c s m = s.V from by unfold adV9; rw [eb, en, eu, eh]; rfl]; exact hk.low8 (by omega), hlo.low (by omega), by unfold adB9; rw [eb, en, eu, eh]; rfl⟩, hB9.out⟩
    refine wp_cond_false ((ev s47 rfl).trans (by rw [eh]; rfl)) ?_
    clear s47
    have hB := hB.trans (hx4.mono (by omega))
    have HS := HS.bel hx4
    have HC := HC.bel hx4
    have HM := HM.bel hx4
    have HZ := HZ.bel hx4
    have hzc := hx4.size
    have hv4 : Below x4.heap.size x4 x4 := Below.refl _ _
    obtain ⟨hv7, hlm⟩ := adlen9 hE0 hM0 eb
    obtain ⟨y5, hy5⟩ : ∃ y, y = x4.alloc (.cells #[.slice s.va s.V.length s.vc, .slice m.va m.V.length m.vc] 30) := ⟨_, rfl⟩
    have b5 : Below x4.heap.size x4 y5 := by rw [hy5]; exact (Below.refl _ _).alloc (Nat.le_refl _) _
    have k0 : y5.cell? ⟨x4.heap.size, 0, none⟩ = some (.slice s.va s.V.length s.vc) := by rw [hy5]; exact cell_box7 _ _ _ _ _ rfl
    have k1 : y5.cell? ⟨x4.heap.size, 1, none⟩ = some (.slice m.va m.V.length m.vc) := by rw [hy5]; exact cell_box7 _ _ _ _ _ rfl
    have z5 := b5.size
    have hB5 := hB.trans (b5.mono (by omega))
    go_upto_region 15 with fail
    refine wp_region_lit ?_
    refine vt (.pointer (some ⟨w.heap.size + 1, 6, none⟩)) (ex_fa rfl (ev s4 rfl) (faS6 _ _)) hz (fun Ybw zz kk s55 => ?_)
    replace s4 := ku s4
    replace s5 := ku s5
    replace s6 := ku s6
    replace hz := zz
    clear kk zz s3
    refine vt (.slice s.va s.V.length s.vc) (ex_ld rfl (ev s55 rfl) (ldV8 ((HS.bel hv4).cell 6 _ rfl))) hz (fun Ybx zz kk s56 => ?_)
    replace s4 := ku s4
    replace s5 := ku s5
    replace s6 := ku s6
    replace hz := zz
    clear kk zz s55 Ybw
    refine vt (.pointer (some ⟨w.heap.size + 2, 17, none⟩)) (ex_fa rfl (ev s5 rfl) (faM9_10 _ _)) hz (fun Yby zz kk s57 => ?_)
    replace s4 := ku s4
    replace s6 := ku s6
    replace s56 := ku s56
    replace hz := zz
    clear kk zz s5 Ybx
    refine vt (.slice m.va m.V.length m.vc) (ex_ld rfl (ev s57 rfl) (ldV8 ((HM.bel hv4).cell 17 _ rfl))) hz (fun Ybz zz kk s58 => ?_)
    replace s4 := ku s4
    replace s6 := ku s6
    replace s56 := ku s56
    replace hz := zz
    clear kk zz s57 Yby
    refine vw (.slice (some ⟨x4.heap.size, 0, none⟩) 2 2) y5 (want_none rfl) (ex_bs2_9 rfl (ev s56 rfl) (ev s58 rfl) (by rw [hy5]; exact bsVV9 _ _ _)) rfl hz (by decide) (fun Yb0 zz kk s59 => ?_)
    replace s4 := ku s4
    replace s6 := ku s6
    replace hz := zz
    clear kk zz s56 s58 Ybz
    refine vcallP (want_none rfl) (ex_call rfl (by simp only [List.map_toArray, List.map_cons, List.map_nil, (ev s59 rfl), evc] <;> rfl) rfl) (merge9 s.V m.V s.va m.va s.vc m.vc _ y5 (hI.later hB5).v (hM.later hB5).v hlm hv7 k0 k1) rfl hz (by decide) ?_
    rintro e y6 ⟨gm, rfl, oJ, bJ⟩
    refine ⟨_, rfl, fun Yb1 zz kk s60 => ?_⟩
    have z6 := bJ.size
    have hB := hB5.trans (bJ.mono (by omega))
    have HS := (HS.bel b5).bel bJ
    have HZ := (HZ.bel b5).bel bJ
    clear b5 k0 k1 hy5
    replace s4 := ku s4
    replace s6 := ku s6
    replace hz := zz
    clear kk zz s59 Yb0
    refine vt _ (ex_move rfl (ev s60 rfl)) hz (fun Yb2 zz kk s54 => ?_)
    replace s4 := ku s4
    replace s6 := ku s6
    replace hz := zz
    clear kk zz s60 Yb1
    refine vt (.slice (some ⟨gm, 0, none⟩) s.V.length s.V.length) (ex_ext8 rfl (ev s54 rfl) rfl) hz (fun Yb3 zz kk s61 => ?_)
    replace s4 := ku s4
    replace s6 := ku s6
    replace s54 := ku s54
    replace hz := zz
    clear kk zz Yb2
    refine vt (.int .i64 0) (ex_ext8 rfl (ev s54 rfl) rfl) hz (fun Yb4 zz kk s62 => ?_)
    replace s4 := ku s4
    replace s6 := ku s6
    replace s61 := ku s61
    replace hz := zz
    clear kk zz s54 Yb3
    refine vt _ (ex_assign rfl (ev s61 rfl)) hz (fun Yb5 zz kk s11 => ?_)
    replace s4 := ku s4
    replace s6 := ku s6
    replace s62 := ku s62
    replace hz := zz
    clear kk zz s61 Yb4
    refine vt _ (ex_assign rfl (ev s62 rfl)) hz (fun Yb6 zz kk s12 => ?_)
    replace s4 := ku s4
    replace s6 := ku s6
    replace s11 := ku s11
    replace hz := zz
    clear kk zz s62 Yb5
    clear s12
    refine wpList_nil ?_
    have hvy : Below y6.heap.size y6 y6 := Below.refl _ _
    have ej := jn9_length s.V m.V
    have oS : SlY yD y6 (some ⟨gm, 0, none⟩) (jn9 s.V m.V).length s.V.length (jn9 s.V m.V) := ej.symm ▸ oJ.sl' kD
    rw [show (Value.slice (some ⟨gm, 0, none⟩) s.V.length s.V.length) = .slice (some ⟨gm, 0, none⟩) (jn9 s.V m.V).length s.V.length from by rw [ej]] at s11
    go_upto_region 16 with fail
    refine wp_region_lit ?_
    refine vt (s.val) (ex_ld rfl (ev s4 rfl) (SB7.ld (HS.bel hvy))) hz (fun Yb7 zz kk s63 => ?_)
    replace s6 := ku s6
    replace s11 := ku s11
    replace hz := zz
    clear kk zz s4
    refine vt _ (ex_move rfl (ev s11 rfl)) hz (fun Yb8 zz kk s64 => ?_)
    replace s6 := ku s6
    replace s63 := ku s63
    replace hz := zz
    clear kk zz s11 Yb7
    refine vcallP (want_none rfl) (ex_call rfl (by simp only [List.map_toArray, List.map_cons, List.map_nil, (ev s63 rfl), (ev s64 rfl), evc] <;> rfl) rfl) (knowing8 s (some ⟨gm, 0, none⟩) s.V.length (jn9 s.V m.V) y6 (hI.later hB) hF oS (by omega)) rfl hz (by decide) ?_
    rintro e x9 ⟨t, rfl, hk, hlo, bk⟩
    refine ⟨_, rfl, fun Yb9 zz kk s65 => ?_⟩
    have zk2 := bk.size
    have hB := hB.trans (bk.mono (by omega))
    have HZ := HZ.bel bk
    replace s6 := ku s6
    replace hz := zz
    clear kk zz s63 s64 Yb8
    refine vs (sets x9 (w.heap.size + 3) 0 (Sta.cs t)) (want_none rfl) (ex_st rfl (ev s6 rfl) (ev s65 rfl) (st12 HZ t)) rfl ?_
    have HP := SB7.put HZ t
    have UP := upd12 x9 (w.heap.size + 3) t
    obtain ⟨u9, hu9⟩ : ∃ v, v = sets x9 (w.heap.size + 3) 0 (Sta.cs t) := ⟨_, rfl⟩
    rw [← hu9] at HP UP ⊢
    clear hu9
    refine vt (.bool true) (ex_assign rfl rfl) hz (fun Yca zz kk s7 => ?_)
    replace s6 := ku s6
    replace hz := zz
    clear kk zz s65 Yb9
    refine vt (.int .i64 0) (ex_assign rfl rfl) hz (fun Ycb zz kk s8 => ?_)
    replace s6 := ku s6
    replace s7 := ku s7
    replace hz := zz
    clear kk zz Yca
    refine wpList_nil ?_
    have hk := hk.set8 UP (by omega) hlo
    have hB9 := hide (hB.trans (UP.below (by omega) (fun k hk => by omega)))
    go_wp2
    refine bodyPost_ret (results_sta3 rfl (getD_of s6) (getD_of s7) (getD_of s8) HP) rfl ?_
    rw [hE9]
    exact ⟨t, true, rfl, hk.inn, .inr ⟨hE9, by rw [show adV9 c s m = jn9 s.V m.V from by unfold adV9; rw [eb, en, eu, eh]; rfl]; exact hk.low8 (by omega), hlo.low (by omega), by unfold adB9; rw [eb, en, eu, eh]; rfl⟩, hB9.out⟩
theorem ex_mk9 {o : Oper} {ρ : Operand → Value} {s : TypeId} {x y : Operand} {X Y V : Value} {w w' : World} (ho : o.op = .makeSlice s x y) (hx : ρ x = X) (hy : ρ y = Y) (hr : (Instr.makeSlice s X Y).run Tryz.prog w = .ok V w') : (execOp ρ o).run Tryz.prog w = .ok (.value V) w' := by
  unfold execOp
  simp only [ho, hx, hy, Sem.run_bind, hr, Result.andThen_ok]
  rfl
theorem mkD9 (n : Nat) (hn : n ≤ 7) (w : World) : ∃ w', (Instr.makeSlice 30 (.int .i64 (n : Int)) (.int .i64 (n : Int))).run Tryz.prog w = .ok (.slice (some ⟨w.heap.size, 0, none⟩) n n) w' ∧ OwnY yD w.heap.size w' (.slice (some ⟨w.heap.size, 0, none⟩) n n) (List.replicate n (0, 0)) ∧ Below w.heap.size w w' := by
  obtain ⟨zv, hinfo, hzc⟩ := kD.info
  obtain ⟨i0, hi, hz0, hz1, hz2⟩ := info_parts hinfo
  have hr := run_make (P := Tryz.prog) w yD.ST yD.T i0 zv kD.und hi hz0 .i64 .i64 n n (by omega) (Int.le_refl _) (room_int hz2 (by show n * 16 ≤ _; omega)) (by omega)
  rw [Int.toNat_natCast, hz1] at hr
  refine ⟨_, hr, ?_, (Below.refl _ _).alloc (Nat.le_refl _) _⟩
  unfold OwnY at *
  rw [List.length_replicate, show List.replicate n ((0 : Int), (0 : Int)) = List.replicate n yD.z from rfl, ← madeY kD hzc]
  exact World.ownsRow_lit w _ n (Nat.le_refl _) (by unfold maxLen; omega) (size_madeCells _ _)
theorem results_sta2_9 {fn : Func} {i j : Tmp} {q : Nat} {t : Sta} {x : Value} {tmps : Array Value} {w : World} (h : fn.results = #[.cell i 36, .tmp j]) (hq : tmps.getD i undef = .pointer (some ⟨q, 0, none⟩)) (hj : tmps.getD j undef = x) (hb : SB7 w q t) : (results fn tmps).run Tryz.prog w = .ok (.tuple #[t.val, x]) w := by
  have := run_loadVar_mid (P := Tryz.prog) w q 0 36 t.cs _ (fun j v hv => by rw [Nat.zero_add]; exact hb.cell j v hv) Tryz.underlying36 rfl (by kernel_rfl)
  simp only [results, h]
  simp only [Array.getD_eq_getD_getElem?] at hq hj
  simp [Sem.run_bind, Result.andThen, hq, hj, asAddr, this]
  rfl
def fvE9 (c : Cg) (x : Int) : Int := if c.okB = true then (if inB x 0 (c.nd - 1) = true then 0 else 3) else 1
def Fv9 (B : Nat) (c : Cg) (x : Int) (v : Value) (w : World) : Prop := (fvE9 c x ≠ 0 ∧ v = .slice none 0 0) ∨ (fvE9 c x = 0 ∧ ∃ g n, c.nd = ((n : Nat) : Int) ∧ v = .slice (some ⟨g, 0, none⟩) n n ∧ OwnY yD B w v (List.replicate n (0, 0)))
def vst9 (x st : Int) (g n : Nat) (V : List (Int × Int)) : Sta := ⟨x, st, 0, 0, none, 0, [], 0, some ⟨g, 0, none⟩, n, V, 0, none, 0, [], none, 0, [], none, 0, [], none, 0, []⟩
def fst9 (x st : Int) (g n : Nat) : Sta := vst9 x st g n (List.replicate n (0, 0))
theorem vst9_in {w : World} {x st : Int} {g n : Nat} {V : List (Int × Int)} (h : SlY yD w (some ⟨g, 0, none⟩) V.length n V) : (vst9 x st g n V).In w := ⟨nil_sl8 _ _, h, nil_sl8 _ _, nil_sl8 _ _, nil_sl8 _ _, nil_sl8 _ _, (fun x h => by cases h), (fun x h => by cases h)⟩
theorem fst9_in {w : World} {x st : Int} {g n : Nat} (h : SlY yD w (some ⟨g, 0, none⟩) n n (List.replicate n (0, 0))) : (fst9 x st g n).In w := vst9_in (by rw [List.length_replicate]; exact h)
def Fs9 (B : Nat) (c : Cg) (x st : Int) (t : Sta) (w : World) : Prop := (fvE9 c x ≠ 0 ∧ t = zS8) ∨ (fvE9 c x = 0 ∧ ∃ g n, c.nd = ((n : Nat) : Int) ∧ t = fst9 x st g n ∧ OwnY yD B w (.slice (some ⟨g, 0, none⟩) n n) (List.replicate n (0, 0)))
theorem bdS9 (x k : Int) (g n : Nat) (V : List (Int × Int)) (w : World) : (Instr.build 36 #[(0, .int .i64 x), (1, .int .i64 k), (6, .slice (some ⟨g, 0, none⟩) V.length n)]).run Tryz.prog w = .ok (vst9 x k g n V).val w := by
  unfold vst9 Sta.val
  go_simp
  first | done | rfl
theorem bdF9 (x k : Int) (g n : Nat) (w : World) : (Instr.build 36 #[(0, .int .i64 x), (1, .int .i64 k), (6, .slice (some ⟨g, 0, none⟩) n n)]).run Tryz.prog w = .ok (fst9 x k g n).val w := by
  have := bdS9 x k g n (List.replicate n (0, 0)) w
  rw [List.length_replicate] at this
  exact this
set_option maxHeartbeats 1000000 in
theorem new9 (n : Nat) (w : World) (hn : 1 ≤ n ∧ n ≤ 7) : Calls Tryz.prog 118 #[.int .i64 (n : Int)] w fun e w' => ∃ g, e = .returned (.tuple #[.slice (some ⟨g, 0, none⟩) n n, .int .i64 0]) ∧ OwnY yD w.heap.size w' (.slice (some ⟨g, 0, none⟩) n n) (List.replicate n (0, 0)) ∧ Below w.heap.size w w' := by
  go_enter Tryz.func118, Tryz.ntmps118
  go_upto_region 0 with fail
  refine wp_region_lit ?_
  refine vl_gen (fun T => T.size = 9 ∧ T[0]? = some (gw true (.int .i64 (n : Int)))) ⟨rfl, rfl⟩ (fun Z0 ⟨hz, s0⟩ => ?_)
  have hB : Below w.heap.size w w := Below.refl _ _
  have hv0 : Below w.heap.size w w := Below.refl _ _
  have hin : inB (n : Int) 1 7 = true := inB_iff.2 (by omega)
  refine vt (.slice none 0 0) (ex_assign rfl rfl) hz (fun Ya zz kk s2 => ?_)
  replace s0 := ku s0
  replace hz := zz
  clear kk zz
  refine vt (.int .i64 0) (ex_assign rfl rfl) hz (fun Yb zz kk s3 => ?_)
  replace s0 := ku s0
  replace hz := zz
  clear kk zz s2 Ya
  clear s3
  refine wpList_nil ?_
  go_upto_region 1 with fail
  refine wp_region_lit ?_
  refine vt _ (ex_move rfl (ev s0 rfl)) hz (fun Yc zz kk s4 => ?_)
  replace s0 := ku s0
  replace hz := zz
  clear kk zz
  refine vcall true (.bool (inB ((n : Int)) 1 7)) (want_none rfl) (fun hc => ex_call rfl (by simp only [List.map_toArray, List.map_cons, List.map_nil, (ev s4 rfl), evc] <;> rfl) rfl) (fun hc => groupmay9 ((n : Int)) w) rfl hz (by decide) (fun Yd x1 hb zz kk s5 => ?_)
  have hx1 := hv0.trans (hb.mono hv0.size)
  clear hb
  replace s0 := ku s0
  replace hz := zz
  clear kk zz s4 Yc
  refine vt (.bool (!(inB ((n : Int)) 1 7))) (ex_not rfl (ev s5 rfl)) hz (fun Ye zz kk s6 => ?_)
  replace s0 := ku s0
  replace hz := zz
  clear kk zz s5 Yd
  refine wpList_nil ?_
  go_upto_region 3 with fail
  refine wp_cond_false ((ev s6 rfl).trans (congrArg Value.bool (show ((!(inB ((n : Int)) 1 7))) = false by rw [hin]; rfl))) ?_
  clear s6
  have hB := hB.trans (hx1.mono (by omega))
  obtain ⟨y, hmk, oY, bY⟩ := mkD9 n hn.2 x1
  have zz0 := hx1.size
  go_upto_region 3 with fail
  refine wp_region_lit ?_
  refine vt _ (ex_move rfl (ev s0 rfl)) hz (fun Yf zz kk s7 => ?_)
  replace hz := zz
  clear kk zz s0
  refine vw (.slice (some ⟨x1.heap.size, 0, none⟩) n n) y (want_none rfl) (ex_mk9 rfl (ev s7 rfl) (ev s7 rfl) hmk) rfl hz (by decide) (fun Yg zz kk s8 => ?_)
  replace hz := zz
  clear kk zz s7 Yf
  refine vt _ (ex_assign rfl (ev s8 rfl)) hz (fun Yh zz kk s2 => ?_)
  replace hz := zz
  clear kk zz s8 Yg
  refine vt (.int .i64 0) (ex_assign rfl rfl) hz (fun Yi zz kk s3 => ?_)
  replace s2 := ku s2
  replace hz := zz
  clear kk zz Yh
  refine wpList_nil ?_
  have hB9 := hide (hB.trans (bY.mono (by omega)))
  go_wp2
  refine bodyPost_ret (results_two9 rfl (getD_of s2) (getD_of s3)) rfl ?_
  exact ⟨_, rfl, oY.low (by omega), hB9.out⟩
set_option maxHeartbeats 1000000 in
theorem firstvector9 (c : Cg) (x : Int) (w : World)  : Calls Tryz.prog 55 #[c.val, .int .i64 x] w fun e w' => ∃ v, e = .returned (.tuple #[v, .int .i64 (fvE9 c x)]) ∧ Fv9 w.heap.size c x v w' ∧ Below w.heap.size w w' := by
  go_enter Tryz.func55, Tryz.ntmps55
  go_upto_region 0 with fail
  refine wp_region_lit ?_
  refine vl_gen (fun T => T.size = 22 ∧ T[0]? = some (gw true (c.val)) ∧ T[1]? = some (gw true (.int .i64 x))) ⟨rfl, rfl, rfl⟩ (fun Z0 ⟨hz, s0, s1⟩ => ?_)
  obtain ⟨w1, hw1⟩ : ∃ y, y = w.alloc (.cells c.cs.toArray 23) := ⟨_, rfl⟩
  have hb : Below w.heap.size w w1 := by rw [hw1]; exact (Below.refl _ _).alloc (Nat.le_refl _) _
  have hs1 : w1.heap.size = w.heap.size + 1 := by rw [hw1]; simp
  have HC : CB7 w1 (w.heap.size) c := by rw [hw1]; exact BX7.new _ _ _
  refine vw (.pointer (some ⟨w.heap.size, 0, none⟩)) w1 (want_none rfl) (ex_box8 rfl (ev s0 rfl) (by rw [hw1]; exact bxC7 _ _)) rfl hz (by decide) (fun Z1 zz kk s2x => ?_)
  replace s1 := ku s1
  clear kk hz s0 hw1
  have hz := zz
  have s2 := s2x
  clear zz s2x
  have hB := hb
  clear hb
  have hv0 : Below w1.heap.size w1 w1 := Below.refl _ _
  refine vt (.slice none 0 0) (ex_assign rfl rfl) hz (fun Ya zz kk s4 => ?_)
  replace s1 := ku s1
  replace s2 := ku s2
  replace hz := zz
  clear kk zz
  refine vt (.int .i64 0) (ex_assign rfl rfl) hz (fun Yb zz kk s5 => ?_)
  replace s1 := ku s1
  replace s2 := ku s2
  replace hz := zz
  clear kk zz s4 Ya
  clear s5
  refine wpList_nil ?_
  go_upto_region 1 with fail
  refine wp_region_lit ?_
  refine vt (c.val) (ex_ld rfl (ev s2 rfl) (CB7.ld (HC.bel hv0))) hz (fun Yc zz kk s7 => ?_)
  replace s1 := ku s1
  replace s2 := ku s2
  replace hz := zz
  clear kk zz
  refine vcall true (.int .i64 c.er) (want_none rfl) (fun hc => ex_call rfl (by simp only [List.map_toArray, List.map_cons, List.map_nil, (ev s7 rfl), evc] <;> rfl) rfl) (fun hc => checkconfig8 c w1) rfl hz (by decide) (fun Yd x1 hb zz kk s8 => ?_)
  have hx1 := hv0.trans (hb.mono hv0.size)
  clear hb
  replace s1 := ku s1
  replace s2 := ku s2
  replace hz := zz
  clear kk zz s7 Yc
  refine vt (.bool (!decide (c.er = 0))) (ex_bin rfl (ev s8 rfl) rfl (neqN8 _ _ _ _ _)) hz (fun Ye zz kk s9 => ?_)
  replace s1 := ku s1
  replace s2 := ku s2
  replace hz := zz
  clear kk zz s8 Yd
  refine vt _ (ex_assign rfl (ev s9 rfl)) hz (fun Yf zz kk s6 => ?_)
  replace s1 := ku s1
  replace s2 := ku s2
  replace hz := zz
  clear kk zz s9 Ye
  refine wpList_nil ?_
  go_upto_region 2 with fail
  cases eo : c.okB
  · refine wp_cond_true ((ev s6 rfl).trans (by unfold Cg.er; rw [eo]; rfl)) ?_
    clear s6
    go_upto_region 2 with fail
    refine wp_region_lit ?_
    refine vt (.slice none 0 0) (ex_assign rfl rfl) hz (fun Yg zz kk s4 => ?_)
    replace hz := zz
    clear kk zz s1 s2
    refine vt (.int .i64 1) (ex_assign rfl rfl) hz (fun Yh zz kk s5 => ?_)
    replace s4 := ku s4
    replace hz := zz
    clear kk zz Yg
    refine wpList_nil ?_
    have hB9 := hide (hB.trans (hx1.mono (by omega)))
    go_wp2
    refine bodyPost_ret (results_two9 rfl (getD_of s4) (getD_of s5)) rfl ?_
    have hE : fvE9 c x = 1 := by unfold fvE9; rw [eo]; rfl
    rw [hE]
    exact ⟨_, rfl, .inl ⟨by rw [hE]; omega, rfl⟩, hB9.out⟩
  · refine wp_cond_false ((ev s6 rfl).trans (by unfold Cg.er; rw [eo]; rfl)) ?_
    clear s6
    obtain ⟨n1, n2, n3⟩ := Cg.nd_ok eo
    go_upto_region 3 with fail
    refine wp_region_lit ?_
    refine vt _ (ex_move rfl (ev s1 rfl)) hz (fun Yi zz kk s11 => ?_)
    replace s1 := ku s1
    replace s2 := ku s2
    replace hz := zz
    clear kk zz
    refine vt (c.val) (ex_ld rfl (ev s2 rfl) (CB7.ld (HC.bel hx1))) hz (fun Yj zz kk s12 => ?_)
    replace s1 := ku s1
    replace s2 := ku s2
    replace s11 := ku s11
    replace hz := zz
    clear kk zz Yi
    refine vcall true (.int .i64 c.nd) (want_none rfl) (fun hc => ex_call rfl (by simp only [List.map_toArray, List.map_cons, List.map_nil, (ev s12 rfl), evc] <;> rfl) rfl) (fun hc => nodes8 c x1) rfl hz (by decide) (fun Yk x2 hb zz kk s13 => ?_)
    have hx2 := hx1.trans (hb.mono hx1.size)
    clear hb
    replace s1 := ku s1
    replace s2 := ku s2
    replace s11 := ku s11
    replace hz := zz
    clear kk zz s12 Yj
    refine vt (.int .i64 (c.nd - 1)) (ex_bin rfl (ev s13 rfl) rfl (subD8 _ _ c.nd 1 (c.nd - 1) (by rw [IntKind.wrap_i64]; omega) _)) hz (fun Yl zz kk s14 => ?_)
    replace s1 := ku s1
    replace s2 := ku s2
    replace s11 := ku s11
    replace hz := zz
    clear kk zz s13 Yk
    refine vcall true (.bool (inB (x) (0) ((c.nd - 1)))) (want_none rfl) (fun hc => ex_call rfl (by simp only [List.map_toArray, List.map_cons, List.map_nil, (ev s11 rfl), (ev s14 rfl), evc] <;> rfl) rfl) (fun hc => within8 (x) (0) ((c.nd - 1)) x2) rfl hz (by decide) (fun Ym x3 hb zz kk s15 => ?_)
    have hx3 := hx2.trans (hb.mono hx2.size)
    clear hb
    replace s1 := ku s1
    replace s2 := ku s2
    replace hz := zz
    clear kk zz s11 s14 Yl
    refine vt (.bool (!(inB (x) (0) ((c.nd - 1))))) (ex_not rfl (ev s15 rfl)) hz (fun Yn zz kk s16 => ?_)
    replace s1 := ku s1
    replace s2 := ku s2
    replace hz := zz
    clear kk zz s15 Ym
    refine vt _ (ex_assign rfl (ev s16 rfl)) hz (fun Yo zz kk s10 => ?_)
    replace s1 := ku s1
    replace s2 := ku s2
    replace hz := zz
    clear kk zz s16 Yn
    refine wpList_nil ?_
    go_upto_region 4 with fail
    cases ei : inB x 0 (c.nd - 1)
    · refine wp_cond_true ((ev s10 rfl).trans (by rw [ei]; rfl)) ?_
      clear s10
      go_upto_region 4 with fail
      refine wp_region_lit ?_
      refine vt (.slice none 0 0) (ex_assign rfl rfl) hz (fun Yp zz kk s4 => ?_)
      replace hz := zz
      clear kk zz s1 s2
      refine vt (.int .i64 3) (ex_assign rfl rfl) hz (fun Yq zz kk s5 => ?_)
      replace s4 := ku s4
      replace hz := zz
      clear kk zz Yp
      refine wpList_nil ?_
      have hB9 := hide (hB.trans (hx3.mono (by omega)))
      go_wp2
      refine bodyPost_ret (results_two9 rfl (getD_of s4) (getD_of s5)) rfl ?_
      have hE : fvE9 c x = 3 := by unfold fvE9; rw [eo, ei]; rfl
      rw [hE]
      exact ⟨_, rfl, .inl ⟨by rw [hE]; omega, rfl⟩, hB9.out⟩
    refine wp_cond_false ((ev s10 rfl).trans (by rw [ei]; rfl)) ?_
    clear s10 s1
    obtain ⟨n, hn⟩ := Int.eq_ofNat_of_zero_le (show 0 ≤ c.nd by omega)
    go_upto_region 5 with fail
    refine wp_region_lit ?_
    refine vt (c.val) (ex_ld rfl (ev s2 rfl) (CB7.ld (HC.bel hx3))) hz (fun Yr zz kk s17 => ?_)
    replace hz := zz
    clear kk zz s2
    refine vcall true (.int .i64 c.nd) (want_none rfl) (fun hc => ex_call rfl (by simp only [List.map_toArray, List.map_cons, List.map_nil, (ev s17 rfl), evc] <;> rfl) rfl) (fun hc => nodes8 c x3) rfl hz (by decide) (fun Ys x4 hb zz kk s18 => ?_)
    have hx4 := hx3.trans (hb.mono hx3.size)
    clear hb
    replace hz := zz
    clear kk zz s17 Yr
    refine vcallP (want_none rfl) (ex_call rfl (by simp only [List.map_toArray, List.map_cons, List.map_nil, (ev s18 rfl), evc] <;> rfl) rfl) (hn.symm ▸ new9 n x4 (by omega)) rfl hz (by decide) ?_
    rintro e y9 ⟨g, rfl, oV, bV⟩
    refine ⟨_, rfl, fun Yt zz kk s19 => ?_⟩
    have zv := hx4.size
    have zv2 := bV.size
    have hB9 := hide ((hB.trans (hx4.mono (by omega))).trans (bV.mono (by omega)))
    replace hz := zz
    clear kk zz s18 Ys
    refine vt (.slice (some ⟨g, 0, none⟩) n n) (ex_ext8 rfl (ev s19 rfl) rfl) hz (fun Yu zz kk s20 => ?_)
    replace s19 := ku s19
    replace hz := zz
    clear kk zz Yt
    refine vt (.int .i64 0) (ex_ext8 rfl (ev s19 rfl) rfl) hz (fun Yv zz kk s21 => ?_)
    replace s20 := ku s20
    replace hz := zz
    clear kk zz s19 Yu
    refine vt _ (ex_assign rfl (ev s20 rfl)) hz (fun Yw zz kk s4 => ?_)
    replace s21 := ku s21
    replace hz := zz
    clear kk zz s20 Yv
    refine vt _ (ex_assign rfl (ev s21 rfl)) hz (fun Yx zz kk s5 => ?_)
    replace s4 := ku s4
    replace hz := zz
    clear kk zz s21 Yw
    refine wpList_nil ?_
    go_wp2
    refine bodyPost_ret (results_two9 rfl (getD_of s4) (getD_of s5)) rfl ?_
    have hE : fvE9 c x = 0 := by unfold fvE9; rw [eo, ei]; rfl
    rw [hE]
    exact ⟨_, rfl, .inr ⟨hE, g, n, hn, rfl, oV.low (by omega)⟩, hB9.out⟩
set_option maxHeartbeats 1000000 in
theorem first9 (c : Cg) (x : Int) (w : World)  : Calls Tryz.prog 13 #[c.val, .int .i64 x] w fun e w' => ∃ t : Sta, e = .returned (.tuple #[t.val, .int .i64 (fvE9 c x)]) ∧ t.In w' ∧ Fs9 w.heap.size c x 1 t w' ∧ Below w.heap.size w w' := by
  go_enter Tryz.func13, Tryz.ntmps13
  go_upto_region 0 with fail
  refine wp_region_lit ?_
  refine vl_gen (fun T => T.size = 21 ∧ T[0]? = some (gw true (c.val)) ∧ T[1]? = some (gw true (.int .i64 x))) ⟨rfl, rfl, rfl⟩ (fun Z0 ⟨hz, s0, s1⟩ => ?_)
  obtain ⟨w1, hw1⟩ : ∃ y, y = w.alloc (.cells c.cs.toArray 23) := ⟨_, rfl⟩
  have hb : Below w.heap.size w w1 := by rw [hw1]; exact (Below.refl _ _).alloc (Nat.le_refl _) _
  have hs1 : w1.heap.size = w.heap.size + 1 := by rw [hw1]; simp
  have HC : CB7 w1 (w.heap.size) c := by rw [hw1]; exact BX7.new _ _ _
  refine vw (.pointer (some ⟨w.heap.size, 0, none⟩)) w1 (want_none rfl) (ex_box8 rfl (ev s0 rfl) (by rw [hw1]; exact bxC7 _ _)) rfl hz (by decide) (fun Z1 zz kk s2x => ?_)
  replace s1 := ku s1
  clear kk hz s0 hw1
  have hz := zz
  have s2 := s2x
  clear zz s2x
  have hB := hb
  clear hb
  have hv0 : Below w1.heap.size w1 w1 := Below.refl _ _
  obtain ⟨w2, hw2⟩ : ∃ y, y = w1.alloc (.cells zS8.cs.toArray 36) := ⟨_, rfl⟩
  have hb : Below w1.heap.size w1 w2 := by rw [hw2]; exact (Below.refl _ _).alloc (Nat.le_refl _) _
  have HZ : SB7 w2 (w.heap.size + 1) zS8 := by rw [hw2, ← hs1]; exact BX7.new _ _ _
  have hz2 : w2.heap.size = w.heap.size + 2 := by rw [hw2]; simp; omega
  refine vw (.pointer (some ⟨w.heap.size + 1, 0, none⟩)) w2 (want_none rfl) (ex_al rfl (by rw [hw2, ← hs1]; exact al12 _)) rfl hz (by decide) (fun Ya zz kk s4 => ?_)
  replace s1 := ku s1
  replace s2 := ku s2
  replace hz := zz
  clear kk zz
  refine vt (.int .i64 0) (ex_assign rfl rfl) hz (fun Yb zz kk s5 => ?_)
  replace s1 := ku s1
  replace s2 := ku s2
  replace s4 := ku s4
  replace hz := zz
  clear kk zz Ya
  clear s5
  refine wpList_nil ?_
  have hB := hB.trans (hb.mono (by omega))
  have HC := HC.bel hb
  clear hb hw2 hv0
  have hv0 : Below w2.heap.size w2 w2 := Below.refl _ _
  go_upto_region 1 with fail
  refine wp_region_lit ?_
  refine vt (c.val) (ex_ld rfl (ev s2 rfl) (CB7.ld (HC.bel hv0))) hz (fun Yc zz kk s9 => ?_)
  replace s1 := ku s1
  replace s4 := ku s4
  replace hz := zz
  clear kk zz s2
  refine vt _ (ex_move rfl (ev s1 rfl)) hz (fun Yd zz kk s10 => ?_)
  replace s1 := ku s1
  replace s4 := ku s4
  replace s9 := ku s9
  replace hz := zz
  clear kk zz Yc
  refine vcallP (want_none rfl) (ex_call rfl (by simp only [List.map_toArray, List.map_cons, List.map_nil, (ev s9 rfl), (ev s10 rfl), evc] <;> rfl) rfl) (firstvector9 c x w2) rfl hz (by decide) ?_
  rintro e y2 ⟨v, rfl, hfv, b2⟩
  refine ⟨_, rfl, fun Ye zz kk s11 => ?_⟩
  have z2 := b2.size
  have HZ := HZ.bel b2
  have hB := hB.trans (b2.mono (by omega))
  replace s1 := ku s1
  replace s4 := ku s4
  replace hz := zz
  clear kk zz s9 s10 Yd
  refine vt _ (ex_move rfl (ev s11 rfl)) hz (fun Yf zz kk s8 => ?_)
  replace s1 := ku s1
  replace s4 := ku s4
  replace hz := zz
  clear kk zz s11 Ye
  refine vt (v) (ex_ext8 rfl (ev s8 rfl) rfl) hz (fun Yg zz kk s12 => ?_)
  replace s1 := ku s1
  replace s4 := ku s4
  replace s8 := ku s8
  replace hz := zz
  clear kk zz Yf
  refine vt (.int .i64 (fvE9 c x)) (ex_ext8 rfl (ev s8 rfl) rfl) hz (fun Yh zz kk s13 => ?_)
  replace s1 := ku s1
  replace s4 := ku s4
  replace s12 := ku s12
  replace hz := zz
  clear kk zz s8 Yg
  refine vt _ (ex_assign rfl (ev s12 rfl)) hz (fun Yi zz kk s6 => ?_)
  replace s1 := ku s1
  replace s4 := ku s4
  replace s13 := ku s13
  replace hz := zz
  clear kk zz s12 Yh
  refine vt _ (ex_assign rfl (ev s13 rfl)) hz (fun Yj zz kk s7 => ?_)
  replace s1 := ku s1
  replace s4 := ku s4
  replace s6 := ku s6
  replace hz := zz
  clear kk zz s13 Yi
  refine wpList_nil ?_
  go_upto_region 2 with fail
  refine wp_region_lit ?_
  refine vt _ (ex_move rfl (ev s7 rfl)) hz (fun Yk zz kk s14 => ?_)
  replace s1 := ku s1
  replace s4 := ku s4
  replace s6 := ku s6
  replace s7 := ku s7
  replace hz := zz
  clear kk zz
  refine vt (.bool (!decide ((fvE9 c x) = 0))) (ex_bin rfl (ev s14 rfl) rfl (neqN8 _ _ _ _ _)) hz (fun Yl zz kk s15 => ?_)
  replace s1 := ku s1
  replace s4 := ku s4
  replace s6 := ku s6
  replace s7 := ku s7
  replace hz := zz
  clear kk zz s14 Yk
  refine wpList_nil ?_
  go_upto_region 3 with fail
  cases e15 : decide (fvE9 c x = 0)
  · refine wp_cond_true ((ev s15 rfl).trans (by rw [e15]; rfl)) ?_
    clear s15
    have hne := of_decide_eq_false e15
    go_upto_region 3 with fail
    refine wp_region_lit ?_
    refine vt (zS8.val) (ex_build rfl (bd12 _)) hz (fun Ym zz kk s16 => ?_)
    replace s4 := ku s4
    replace s7 := ku s7
    replace hz := zz
    clear kk zz s1 s6
    refine vt _ (ex_move rfl (ev s7 rfl)) hz (fun Yn zz kk s17 => ?_)
    replace s4 := ku s4
    replace s16 := ku s16
    replace hz := zz
    clear kk zz s7 Ym
    refine vs (sets y2 (w.heap.size + 1) 0 (Sta.cs zS8)) (want_none rfl) (ex_st rfl (ev s4 rfl) (ev s16 rfl) (st12 HZ zS8)) rfl ?_
    have HP := SB7.put HZ zS8
    have UP := upd12 y2 (w.heap.size + 1) zS8
    obtain ⟨u9, hu9⟩ : ∃ v, v = sets y2 (w.heap.size + 1) 0 (Sta.cs zS8) := ⟨_, rfl⟩
    rw [← hu9] at HP UP ⊢
    clear hu9
    have hB9 := hide (hB.trans (UP.below (by omega) (fun k hk => by omega)))
    refine vt _ (ex_assign rfl (ev s17 rfl)) hz (fun Yo zz kk s5 => ?_)
    replace s4 := ku s4
    replace hz := zz
    clear kk zz s16 s17 Yn
    refine wpList_nil ?_
    go_wp2
    refine bodyPost_ret (results_sta2_9 rfl (getD_of s4) (getD_of s5) HP) rfl ?_
    exact ⟨zS8, rfl, zS8_in _, .inl ⟨hne, rfl⟩, hB9.out⟩
  · refine wp_cond_false ((ev s15 rfl).trans (by rw [e15]; rfl)) ?_
    clear s15 s7
    have hE := of_decide_eq_true e15
    rcases hfv with ⟨h0, _⟩ | ⟨_, g, n, hn, rfl, oV⟩
    · exact absurd hE h0
    go_upto_region 4 with fail
    refine wp_region_lit ?_
    refine vt _ (ex_move rfl (ev s1 rfl)) hz (fun Yp zz kk s18 => ?_)
    replace s4 := ku s4
    replace s6 := ku s6
    replace hz := zz
    clear kk zz s1
    refine vt _ (ex_move rfl (ev s6 rfl)) hz (fun Yq zz kk s19 => ?_)
    replace s4 := ku s4
    replace s18 := ku s18
    replace hz := zz
    clear kk zz s6 Yp
    refine vt (Sta.val (fst9 x 1 g n)) (ex_buildP rfl (by simp only [List.map_toArray, List.map_cons, List.map_nil, (ev s18 rfl), (ev s19 rfl), evc] <;> rfl) (bdF9 _ _ _ _ _)) hz (fun Yr zz kk s20 => ?_)
    replace s4 := ku s4
    replace hz := zz
    clear kk zz s18 s19 Yq
    refine vs (sets y2 (w.heap.size + 1) 0 (Sta.cs (fst9 x 1 g n))) (want_none rfl) (ex_st rfl (ev s4 rfl) (ev s20 rfl) (st12 HZ (fst9 x 1 g n))) rfl ?_
    have HP := SB7.put HZ (fst9 x 1 g n)
    have UP := upd12 y2 (w.heap.size + 1) (fst9 x 1 g n)
    obtain ⟨u9, hu9⟩ : ∃ v, v = sets y2 (w.heap.size + 1) 0 (Sta.cs (fst9 x 1 g n)) := ⟨_, rfl⟩
    rw [← hu9] at HP UP ⊢
    clear hu9
    have hB9 := hide (hB.trans (UP.below (by omega) (fun k hk => by omega)))
    refine vt (.int .i64 0) (ex_assign rfl rfl) hz (fun Ys zz kk s5 => ?_)
    replace s4 := ku s4
    replace hz := zz
    clear kk zz s20 Yr
    refine wpList_nil ?_
    go_wp2
    refine bodyPost_ret (results_sta2_9 rfl (getD_of s4) (getD_of s5) HP) rfl ?_
    rw [hE]
    have oV2 := oV.upd1 UP (fun k hk e => by have := (oV.blk k hk).1; omega)
    exact ⟨(fst9 x 1 g n), rfl, fst9_in (oV2.sl' kD), .inr ⟨hE, g, n, hn, rfl, oV2.low (by omega)⟩, hB9.out⟩
end Go.Proofs.YtkfkkajeoocbbaaGreatDoor
