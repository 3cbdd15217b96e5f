import Derived.Test.YtcchnaldanibgaaUk
namespace Go.Proofs.Ytcchnaldanibgaa
open Go.RowKit
set_option linter.unusedVariables false
set_option linter.unusedSimpArgs false

theorem Vec.ok.lowblk {w : World} {x : Vec} (h : x.ok w) {z : Addr} (hz : x.a = some z) (hD : x.D ≠ []) : z.block < w.heap.size := by
  obtain ⟨q, o, e, hq, _⟩ := Sl.place h hD
  rw [e] at hz
  cases hz
  exact hq
theorem SlW.lowblk {w : World} {a : Option Addr} {n c : Nat} {L : List Voi} (h : SlW w a n c L) {z : Addr} (hz : a = some z) (hL : L ≠ []) : z.block < w.heap.size := by
  obtain ⟨q, o, e, hq, _⟩ := h.at_ hL
  rw [e] at hz
  cases hz
  exact hq
theorem SlW.okm {w : World} {a : Option Addr} {n c : Nat} {L : List Voi} (h : SlW w a n c L) {m : Voi} (hm : m ∈ L) : m.x.ok w := by
  obtain ⟨q, o, rfl, hq, hl⟩ := h.at_ (by rintro rfl; cases hm)
  obtain ⟨i, hi⟩ := List.getElem?_of_mem hm
  exact (hl i m hi).2.2
def outC (L : List Voi) (n : Nat) (r s ee : Int) : Prop := (okAll L ∧ ee = 0 ∧ isFirst (pV L) n r ∧ ((r = -1 ∧ s = -1) ∨ ∃ j : Nat, r = j ∧ j < n ∧ isFirst (qV L j) n s)) ∨ (¬ okAll L ∧ ee = 30 ∧ r = 0 ∧ s = 0)
theorem outC_one {L : List Voi} {n : Nat} {r s ee r' s' ee' : Int} (h : outC L n r s ee) (h' : outC L n r' s' ee') : r' = r ∧ s' = s ∧ ee' = ee := by
  rcases h with ⟨o, e, h1, h2⟩ | ⟨o, e, h1, h2⟩ <;> rcases h' with ⟨o', e', h1', h2'⟩ | ⟨o', e', h1', h2'⟩
  · obtain ⟨x, y⟩ := two_same h1 h2 h1' h2'
    exact ⟨x.symm, y.symm, by rw [e, e']⟩
  · exact absurd o o'
  · exact absurd o' o
  · exact ⟨by rw [h1, h1'], by rw [h2, h2'], by rw [e, e']⟩
theorem outC_alike {L M : List Voi} (ha : alikeV L M) {n : Nat} {r s ee : Int} (h : outC L n r s ee) : outC M n r s ee := by
  unfold outC at *
  rw [alike_p ha, alike_q ha, propext (alike_ok ha)] at h
  exact h
def outA (L : List Voi) (n : Nat) (A : List Nat) (ee : Int) : Prop := (okAll L ∧ ee = 0 ∧ A = outs (pV L) n) ∨ (¬ okAll L ∧ ee = 30 ∧ A = [])
theorem outA_one {L : List Voi} {n : Nat} {A A' : List Nat} {ee ee' : Int} (h : outA L n A ee) (h' : outA L n A' ee') : A' = A ∧ ee' = ee := by
  rcases h with ⟨o, e, h1⟩ | ⟨o, e, h1⟩ <;> rcases h' with ⟨o', e', h1'⟩ | ⟨o', e', h1'⟩
  · exact ⟨by rw [h1, h1'], by rw [e, e']⟩
  · exact absurd o o'
  · exact absurd o' o
  · exact ⟨by rw [h1, h1'], by rw [e, e']⟩
theorem outA_alike {L M : List Voi} (ha : alikeV L M) {n : Nat} {A : List Nat} {ee : Int} (h : outA L n A ee) : outA M n A ee := by
  unfold outA at *
  rw [alike_p ha, propext (alike_ok ha)] at h
  exact h
theorem consP (L : List Voi) (a : Option Addr) (n c : Nat) (w : World) (h : SlW w a n c L) (hb : n * 32 ≤ 140737488355328) :
    Calls Try.prog 25 #[.slice a n c] w fun e w' => ∃ r s ee, e = .returned (.tuple #[.int .i64 r, .int .i64 s, .int .i64 ee]) ∧ outC L n r s ee ∧ Below w.heap.size w w' := by
  refine (consU2 L a n c w h hb).mono ?_
  rintro e w' ⟨⟨ok, r, s, rfl, h1, h2⟩ | ⟨bad, rfl⟩, b⟩
  · exact ⟨r, s, 0, rfl, .inl ⟨ok, rfl, h1, h2⟩, b⟩
  · exact ⟨0, 0, 30, rfl, .inr ⟨bad, rfl, rfl, rfl⟩, b⟩
theorem refconsP (L : List Voi) (a : Option Addr) (n c : Nat) (w : World) (h : SlW w a n c L) :
    Calls Try.prog 26 #[.slice a n c] w fun e w' => ∃ r s ee, e = .returned (.tuple #[.int .i64 r, .int .i64 s, .int .i64 ee]) ∧ outC L n r s ee ∧ Below w.heap.size w w' := by
  refine (refcons_any L a n c w h).mono ?_
  rintro e w' ⟨⟨ok, r, s, rfl, h1, h2⟩ | ⟨bad, rfl⟩, b⟩
  · exact ⟨r, s, 0, rfl, .inl ⟨ok, rfl, h1, h2⟩, b⟩
  · exact ⟨0, 0, 30, rfl, .inr ⟨bad, rfl, rfl, rfl⟩, b⟩
theorem aliveP (L : List Voi) (a : Option Addr) (n c : Nat) (w : World) (h : SlW w a n c L) (hb : n * 32 ≤ 140737488355328) :
    Calls Try.prog 27 #[.slice a n c] w fun e w' => ∃ v ee A, e = .returned (.tuple #[v, .int .i64 ee]) ∧ OwnI w.heap.size w' v A ∧ outA L n A ee ∧ Below w.heap.size w w' := by
  refine (aliveU L a n c w h hb).mono ?_
  rintro e w' ⟨⟨ok, v, rfl, h1⟩ | ⟨bad, rfl⟩, b⟩
  · exact ⟨v, 0, _, rfl, h1, .inl ⟨ok, rfl, rfl⟩, b⟩
  · exact ⟨_, 30, [], rfl, OwnI.nil _ _, .inr ⟨bad, rfl, rfl⟩, b⟩
theorem refaliveP (L : List Voi) (a : Option Addr) (n c : Nat) (w : World) (h : SlW w a n c L) (hb : n * 32 ≤ 140737488355328) :
    Calls Try.prog 28 #[.slice a n c] w fun e w' => ∃ v ee A, e = .returned (.tuple #[v, .int .i64 ee]) ∧ OwnI w.heap.size w' v A ∧ outA L n A ee ∧ Below w.heap.size w w' := by
  refine (refalive_any L a n c w h hb).mono ?_
  rintro e w' ⟨⟨ok, v, rfl, h1⟩ | ⟨bad, rfl⟩, b⟩
  · exact ⟨v, 0, _, rfl, h1, .inl ⟨ok, rfl, rfl⟩, b⟩
  · exact ⟨_, 30, [], rfl, OwnI.nil _ _, .inr ⟨bad, rfl, rfl⟩, b⟩
theorem OwnI.updB {B : Nat} {S : Nat → Prop} {w w' : World} {v : Value} {l : List Nat} (h : OwnI B w v l) (u : Upd S w w') (hs : ∀ k, B ≤ k → k < w.heap.size → ¬ S k) : OwnI B w' v l := by
  obtain ⟨h1, h2⟩ := h
  refine ⟨h1, ?_⟩
  rcases h2 with h2 | ⟨g, cap, cur, e1, e2, e3, r⟩
  · exact .inl h2
  · refine .inr ⟨g, cap, cur, e1, e2, ?_, r⟩
    have hlt : g < w.heap.size := by
      rcases Nat.lt_or_ge g w.heap.size with h' | h'
      · exact h'
      · rw [Array.getElem?_eq_none h'] at e3; cases e3
    rw [u.block g hlt (hs g e2 hlt)]
    exact e3
theorem OwnI.low {B B' : Nat} {w : World} {v : Value} {l : List Nat} (h : OwnI B w v l) (hb : B' ≤ B) : OwnI B' w v l := by
  obtain ⟨h1, h2⟩ := h
  refine ⟨h1, ?_⟩
  rcases h2 with h2 | ⟨g, cap, cur, e1, e2, r⟩
  · exact .inl h2
  · exact .inr ⟨g, cap, cur, e1, Nat.le_trans hb e2, r⟩
theorem VSt.xs {w wr : World} {b B : Nat} {v20 v30 : Value} {L : List Voi} {k : Nat} {u v2 v3 : Value} {Z0 : List ZE} {Z : List ZV} {L3 : List Vec} (h : VSt w wr b B v20 v30 L k u v2 v3 Z0 Z L3) : ∀ m, m ∈ Z.map ZV.x → m.x.ok wr := fun m hm => by
  obtain ⟨z, hz, rfl⟩ := List.mem_map.1 hm
  exact (h.gx.xok z.z (List.mem_append_right _ (List.mem_map_of_mem hz))).vec
theorem VSt.alike {w wr : World} {b B : Nat} {v20 v30 : Value} {L : List Voi} {k : Nat} {u v2 v3 : Value} {Z0 : List ZE} {Z : List ZV} {L3 : List Vec} (h : VSt w wr b B v20 v30 L k u v2 v3 Z0 Z L3) (hk : L.length = k) : alikeV (Z.map ZV.x) L := by
  have e := h.same
  rw [List.take_of_length_le (by omega)] at e
  unfold alikeV
  rw [List.map_map]
  exact e
/-- What holds behind the last vector that is handed on. -/
structure PV8 (w : World) (b B : Nat) (mn : Int) (ma : Option Addr) (ml mc : Nat) (mD : List (Int × Int)) (gu g c' : Nat) (V : List (Int × Int)) (nv g8 c8 : Nat) (v : World) : Prop where
  bel : Below w.heap.size w v
  x0 : v.cell? ⟨w.heap.size, 0, none⟩ = some (.int .i64 mn)
  x1 : v.cell? ⟨w.heap.size, 1, none⟩ = some (.slice ma ml mc)
  y0 : v.cell? ⟨gu, 0, none⟩ = some (.int .i64 mn)
  y1 : v.cell? ⟨gu, 1, none⟩ = some (.slice (some ⟨g, 0, none⟩) ml c')
  lt0 : w.heap.size < v.heap.size
  ltu : gu < v.heap.size
  sv : SlN v (some ⟨g8, 0, none⟩) nv c8 V
  sm : SlN v (some ⟨g, 0, none⟩) ml c' mD
  gx : ∃ v2 v3 L2 L3, GX v b B v2 v3 L2 L3 ∧ L2.map (·.D) = L3.map (·.D)
theorem PV8.on {w : World} {b B : Nat} {mn : Int} {ma : Option Addr} {ml mc : Nat} {mD : List (Int × Int)} {gu g c' : Nat} {V : List (Int × Int)} {nv g8 c8 : Nat} {v v' : World} (h : PV8 w b B mn ma ml mc mD gu g c' V nv g8 c8 v) (k : Below v.heap.size v v') : PV8 w b B mn ma ml mc mD gu g c' V nv g8 c8 v' := by
  obtain ⟨v2, v3, L2, L3, G, hD⟩ := h.gx
  exact ⟨h.bel.trans (k.mono h.bel.size), (k.cell (p := ⟨w.heap.size, 0, none⟩) h.lt0).trans h.x0, (k.cell (p := ⟨w.heap.size, 1, none⟩) h.lt0).trans h.x1, (k.cell (p := ⟨gu, 0, none⟩) h.ltu).trans h.y0, (k.cell (p := ⟨gu, 1, none⟩) h.ltu).trans h.y1, Nat.lt_of_lt_of_le h.lt0 k.size, Nat.lt_of_lt_of_le h.ltu k.size, h.sv.bel k, h.sm.bel k, v2, v3, L2, L3, G.bel k, hD⟩
theorem PV8.keep {w : World} {b B : Nat} {mn : Int} {ma : Option Addr} {ml mc : Nat} {mD : List (Int × Int)} {gu g c' : Nat} {V : List (Int × Int)} {nv g8 c8 : Nat} {v : World} (h : PV8 w b B mn ma ml mc mD gu g c' V nv g8 c8 v) :
    Below w.heap.size w v ∧ v.cell? ⟨w.heap.size, 0, none⟩ = some (.int .i64 mn) ∧ v.cell? ⟨w.heap.size, 1, none⟩ = some (.slice ma ml mc) ∧ v.cell? ⟨gu, 0, none⟩ = some (.int .i64 mn) ∧ v.cell? ⟨gu, 1, none⟩ = some (.slice (some ⟨g, 0, none⟩) ml c') := ⟨h.bel, h.x0, h.x1, h.y0, h.y1⟩
theorem overN {w : World} {a1 a2 : Option Addr} {n1 n2 c1 c2 : Nat} {V D : List (Int × Int)} (node : Int) (h1 : SlN w a1 n1 c1 V) (h2 : SlN w a2 n2 c2 D) :
    Calls Try.prog 30 #[.slice a1 n1 c1, .agg #[.int .i64 node, .slice a2 n2 c2]] w fun e w' => e = .returned (.bool (decide (mayv node D.length ∧ V.length = D.length) && ov V D node.toNat)) ∧ Below w.heap.size w w' := by
  obtain ⟨rfl, h1⟩ := h1
  obtain ⟨rfl, h2⟩ := h2
  exact over_any V D a1 a2 c1 c2 node w h1 h2
theorem refoverN {w : World} {a1 a2 : Option Addr} {n1 n2 c1 c2 : Nat} {V D : List (Int × Int)} (node : Int) (h1 : SlN w a1 n1 c1 V) (h2 : SlN w a2 n2 c2 D) :
    Calls Try.prog 31 #[.slice a1 n1 c1, .agg #[.int .i64 node, .slice a2 n2 c2]] w fun e w' => e = .returned (.bool (decide (mayv node D.length ∧ V.length = D.length) && ov V D node.toNat)) ∧ Below w.heap.size w w' := by
  obtain ⟨rfl, h1⟩ := h1
  obtain ⟨rfl, h2⟩ := h2
  exact refover_any V D a1 a2 c1 c2 node w h1 h2
theorem OwnW.bel {B : Nat} {w w' : World} {v : Value} {l : List Voi} (h : OwnW B w v l) {B' : Nat} (hb : Below B' w w') (hB : w.heap.size ≤ B') : OwnW B w' v l :=
  h.updB (S := fun _ => False) (Upd.of_below (hb.mono hB)) (fun _ _ => id)
theorem room_c (n : Nat) (h : n * 32 ≤ 140737488351232) : (n + 1 + 1) * 24 ≤ 140737488355328 := by omega
theorem room_a (n : Nat) (h : n * 32 ≤ 140737488351232) : (0 + n + 1) * 24 ≤ 140737488355328 := by omega
theorem room_b (n : Nat) (h : n * 32 ≤ 140737488351232) : (n + 1 + 1) * 24 ≤ 140737488355328 := by omega
set_option maxRecDepth 100000 in
set_option maxHeartbeats 2000000 in
theorem voices_walk (L : List Voi) (al : Option Addr) (n cl : Nat) (V : List (Int × Int)) (av : Option Addr) (nv cv : Nat) (mn : Int) (ma : Option Addr) (ml mc : Nat) (mD : List (Int × Int)) (w : World) (h : SlW w al n cl L) (hv : SlN w av nv cv V) (hm : SlN w ma ml mc mD) (hb : n * 32 ≤ 140737488351232) (hsz : ∀ y, y ∈ L → y.x.D.length * 16 ≤ 140737488351232) (hbv : nv * 16 ≤ 140737488351232) (hbm : ml * 16 ≤ 140737488351232) :
    Calls Try.prog 5 #[.slice al n cl, .slice av nv cv, .agg #[.int .i64 mn, .slice ma ml mc]] w fun e w' => e = .returned (.bool true) ∧ Below w.heap.size w w' := by
  have G0 := GX.new (w.alloc (.cells #[.int .i64 mn, .slice ma ml mc] 56)) 33
  have hsz0 : (w.alloc (.cells #[.int .i64 mn, .slice ma ml mc] 56)).heap.size = w.heap.size + 1 := by simp
  rw [hsz0] at G0
  have b0 : Below w.heap.size w ((w.alloc (.cells #[.int .i64 mn, .slice ma ml mc] 56)).alloc (.cells #[.slice none 0 0, .slice none 0 0, .slice none 0 0, .slice none 0 0, .slice none 0 0, .slice none 0 0, .slice none 0 0, .slice none 0 0, .slice none 0 0, .slice none 0 0] 33)) := ((Below.refl _ _).alloc (Nat.le_refl _) _).alloc (by simp) _
  have HW := hide h
  have HV := hide hv
  have HM := hide hm
  have LN := hide h.len
  have GH := hide (given_voices (w.heap.size + 1) (w.heap.size + 1 + 1) _ _ [] [] L al n cl _ G0 rfl (h.bel b0) (fun z hz hL => by
      have := h.lowblk hz hL
      exact ⟨by omega, (fun e => by cases e), (fun e => by cases e)⟩) (fun y hy w' u => Vec.ok.upd ((h.okm hy).bel b0 (Nat.le_refl _)) u (fun z hz hD hh => by
      have := (h.okm hy).lowblk hz hD
      rcases hh with hh | hh | hh
      · omega
      · cases hh
      · cases hh)) hb (room_a n hb) hsz)
  clear h hv hm G0 hsz0 b0 hsz
  go_enter Try.func5, Try.ntmps5
  go_wp2_with fail
  refine GH.out.mono ?_
  rintro e w1 ⟨u, v2, v3, Z, L3, rfl, st⟩
  have bb : Below (w.heap.size + 1) _ w1 := st.upd.below (B := w.heap.size + 1) (by simp) (fun k hk => by
    rcases hk with rfl | hk | hk
    · exact Nat.le_refl _
    · cases hk
    · cases hk)
  have b1 : Below w.heap.size w w1 := (((Below.refl w.heap.size w).alloc (Nat.le_refl _) _).alloc (by simp) _).trans (bb.mono (by omega))
  have z0 : w1.cell? ⟨w.heap.size, 0, none⟩ = some (.int .i64 mn) := (bb.cell (p := ⟨w.heap.size, 0, none⟩) (Nat.lt_succ_self _)).trans (by simp)
  have z1 : w1.cell? ⟨w.heap.size, 1, none⟩ = some (.slice ma ml mc) := (bb.cell (p := ⟨w.heap.size, 1, none⟩) (Nat.lt_succ_self _)).trans (by simp)
  have AL := hide (st.alike LN.out)
  obtain ⟨ax, cx, hu, sx⟩ := st.own.slw st.xs
  have hlx : (Z.map ZV.x).length = n := (alike_len AL.out).trans LN.out
  rw [hlx] at hu sx
  subst hu
  have SX := hide sx
  have GW : Hid (GX w1 (w.heap.size + 1) (w.heap.size + 1 + 1) v2 v3 ((Z.map (·.z)).map ZE.m) L3 ∧ ((Z.map (·.z)).map ZE.m).map (·.D) = L3.map (·.D)) := ⟨by simpa using st.gx, by simpa using st.was⟩
  have ZL : Hid ((Z.map (·.z)).length = n) := by show _ = _; rw [List.length_map]; rw [List.length_map] at hlx; exact hlx
  clear st bb sx hlx GH
  generalize hLX : Z.map ZV.x = Lx at *
  generalize hZZ : Z.map (·.z) = Z1 at *
  clear hLX hZZ
  clear Z
  have hw1 : w.heap.size < w1.heap.size := by have := GW.out.1.ltB; omega
  go_wp2_with fail
  refine (consP Lx ax n cx w1 SX.out (by omega)).mono ?_
  rintro e w2 ⟨r, s, ee, rfl, hc1, b2'⟩
  have b2 : Below w.heap.size w w2 := b1.trans (b2'.mono b1.size)
  have C1 := hide (outC_alike AL.out hc1)
  have SX2 := hide (SX.out.bel b2')
  have GW2 := hide (And.intro (GW.out.1.bel b2') GW.out.2)
  have z0 := (b2'.cell (p := ⟨w.heap.size, 0, none⟩) hw1).trans z0
  have z1 := (b2'.cell (p := ⟨w.heap.size, 1, none⟩) hw1).trans z1
  have hw2 : w.heap.size < w2.heap.size := Nat.lt_of_lt_of_le hw1 b2'.size
  clear hc1 b2' SX GW b1
  go_wp2_with fail
  refine (refconsP L al n cl w2 (HW.out.bel b2)).mono ?_
  rintro e w3 ⟨r', s', ee', rfl, hc2, b3'⟩
  obtain ⟨rfl, rfl, rfl⟩ := outC_one C1.out hc2
  have b3 : Below w.heap.size w w3 := b2.trans (b3'.mono b2.size)
  have SX3 := hide (SX2.out.bel b3')
  have GW3 := hide (And.intro (GW2.out.1.bel b3') GW2.out.2)
  have z0 := (b3'.cell (p := ⟨w.heap.size, 0, none⟩) hw2).trans z0
  have z1 := (b3'.cell (p := ⟨w.heap.size, 1, none⟩) hw2).trans z1
  have hw3 : w.heap.size < w3.heap.size := Nat.lt_of_lt_of_le hw2 b3'.size
  clear hc2 b3' SX2 GW2 b2 C1
  go_wp2_with fail
  refine (aliveP Lx ax n cx w3 SX3.out (by omega)).mono ?_
  rintro e w4 ⟨va, ea, A, rfl, oa, ha, b4'⟩
  have A1 := hide (outA_alike AL.out ha)
  have b4 : Below w.heap.size w w4 := b3.trans (b4'.mono b3.size)
  have GW4 := hide (And.intro (GW3.out.1.bel b4') GW3.out.2)
  have OA4 := hide oa
  have z0 := (b4'.cell (p := ⟨w.heap.size, 0, none⟩) hw3).trans z0
  have z1 := (b4'.cell (p := ⟨w.heap.size, 1, none⟩) hw3).trans z1
  have hw4 : w.heap.size < w4.heap.size := Nat.lt_of_lt_of_le hw3 b4'.size
  have hs34 := b4'.size
  have hgl := GW3.out.1.o2.blk
  have hgl3 := GW3.out.1.o3.blk
  have HGL := hide (And.intro hgl hgl3)
  have hB3 := GW3.out.1.ltB
  clear ha oa b4' SX3 b3 AL hgl hgl3
  go_wp2_with fail
  refine (refaliveP L al n cl w4 (HW.out.bel b4) (by omega)).mono ?_
  rintro e w5 ⟨vb, eb, A', rfl, ob, hb2, b5'⟩
  obtain ⟨rfl, rfl⟩ := outA_one A1.out hb2
  have b5 : Below w.heap.size w w5 := b4.trans (b5'.mono b4.size)
  have GW5 := hide (And.intro (GW4.out.1.bel b5') GW4.out.2)
  have OI5 := hide (And.intro (OA4.out.bel b5' (Nat.le_refl _)) (ob.low hs34))
  have z0 := (b5'.cell (p := ⟨w.heap.size, 0, none⟩) hw4).trans z0
  have z1 := (b5'.cell (p := ⟨w.heap.size, 1, none⟩) hw4).trans z1
  have hw5 : w.heap.size < w5.heap.size := Nat.lt_of_lt_of_le hw4 b5'.size
  have hs35 : w3.heap.size ≤ w5.heap.size := Nat.le_trans hs34 b5'.size
  clear hb2 ob b5' OA4 GW4 b4 A1 GW3
  have ba : Below w5.heap.size w5 (w5.alloc (.cells #[.int .i64 mn, .slice ma ml mc] 56)) := (Below.refl _ _).alloc (Nat.le_refl _) _
  have MOK : Hid (∀ w', Below w.heap.size w w' → SlN w' ma ml mc mD) := fun w' b => HM.out.bel b
  have mlow : ∀ z, ma = some z → mD ≠ [] → z.block < w.heap.size := fun z hz hD => Vec.ok.lowblk (x := ⟨ma, mc, mD⟩) HM.out.vec hz hD
  have S6 : SlW (w5.alloc (.cells #[.int .i64 mn, .slice ma ml mc] 56)) (some ⟨w5.heap.size, 0, none⟩) 1 1 [⟨mn, ⟨ma, mc, mD⟩⟩] := ⟨rfl, Nat.le_refl _, by unfold maxLen; omega, fun _ => ⟨w5.heap.size, 0, rfl, by simp, fun i y hy => by
    match i, hy with
    | 0, hy => simp at hy; subst hy; exact ⟨by simp, by simp [HM.out.1], (HM.out.bel (b5.alloc (by omega) _)).vec⟩
    | i + 1, hy => simp at hy⟩⟩
  have GV2 := hide (given_voices (w.heap.size + 1) (w.heap.size + 1 + 1) v2 v3 Z1 L3 [⟨mn, ⟨ma, mc, mD⟩⟩] (some ⟨w5.heap.size, 0, none⟩) 1 1 _ (GW5.out.1.bel ba) GW5.out.2 S6 (fun z hz _ => by
      cases hz
      refine ⟨by show w5.heap.size ≠ w.heap.size + 1; have := GW5.out.1.ltB; omega, fun e => ?_, fun e => ?_⟩
      · have := (GW5.out.1.o2.blk _ e).2; simp at this
      · have := (GW5.out.1.o3.blk _ e).2; simp at this) (fun y hy w' u => by
      simp at hy
      subst hy
      refine Vec.ok.upd (HM.out.bel (b5.alloc (by omega) _)).vec u (fun z hz hD hh => ?_)
      have := mlow z hz hD
      rcases hh with hh | hh | hh
      · omega
      · have := (GW5.out.1.o2.blk _ hh).1; omega
      · have := (GW5.out.1.o3.blk _ hh).1; omega) (by omega) (by rw [ZL.out]; exact room_b n hb) (fun y hy => by simp at hy; subst hy; show mD.length * 16 ≤ _; rw [HM.out.1]; exact hbm))
  go_wp2_with fail
  refine GV2.out.mono ?_
  rintro e w7 ⟨u2, v2', v3', Z2, L3', rfl, st⟩
  have hl2 := st.len (Nat.le_refl _)
  obtain ⟨zv, rfl⟩ : ∃ zv, Z2 = [zv] := by
    match Z2, hl2 with
    | [zv], _ => exact ⟨zv, rfl⟩
  have hsm := st.same
  obtain ⟨zn, zg, zc, zD⟩ := zv
  simp at hsm
  obtain ⟨hzn, hzD⟩ := hsm
  subst hzn hzD
  obtain ⟨au, cu, hu2, hu3, hu4, hu5⟩ := st.own.form
  obtain ⟨gu, rfl, hgu1, hgu2, hcu⟩ := hu5 (by simp)
  obtain ⟨y0, y1⟩ := hcu 0 (ZV.x ⟨zn, zg, zc, zD⟩) rfl
  rw [Nat.zero_mul] at y0 y1
  have hu2 : u2 = .slice (some ⟨gu, 0, none⟩) 1 cu := hu2
  subst hu2
  have y0 : w7.cell? ⟨gu, 0, none⟩ = some (.int .i64 zn) := y0
  have y1 : w7.cell? ⟨gu, 1, none⟩ = some (.slice (some ⟨zg, 0, none⟩) ml zc) := by rw [← HM.out.1]; exact y1
  have hs7 := st.upd.size
  simp at hs7 hgu1
  have bw7 : Below (w.heap.size + 1) (w5.alloc (.cells #[.int .i64 zn, .slice ma ml mc] 56)) w7 := st.upd.below (by simp; omega) (fun k hk => by
    rcases hk with rfl | hk | hk
    · exact Nat.le_refl _
    · have := (HGL.out.1 k hk).1; omega
    · have := (HGL.out.2 k hk).1; omega)
  have b7 : Below w.heap.size w w7 := (b5.alloc (by omega) _).trans (bw7.mono (by omega))
  have x0 : w7.cell? ⟨w.heap.size, 0, none⟩ = some (.int .i64 zn) := (bw7.cell (p := ⟨w.heap.size, 0, none⟩) (Nat.lt_succ_self _)).trans ((World.cell?_alloc_past _ _ _ hw5).trans z0)
  have x1 : w7.cell? ⟨w.heap.size, 1, none⟩ = some (.slice ma ml mc) := (bw7.cell (p := ⟨w.heap.size, 1, none⟩) (Nat.lt_succ_self _)).trans ((World.cell?_alloc_past _ _ _ hw5).trans z1)
  have SOUT : ∀ k, w3.heap.size ≤ k → k < (w5.alloc (.cells #[.int .i64 zn, .slice ma ml mc] 56)).heap.size → ¬ (k = w.heap.size + 1 ∨ v2.ownBlock = some k ∨ v3.ownBlock = some k) := fun k hk _ hh => by
    rcases hh with hh | hh | hh
    · omega
    · have := (HGL.out.1 k hh).2; omega
    · have := (HGL.out.2 k hh).2; omega
  have OI7 := hide (And.intro ((OI5.out.1.bel ba (Nat.le_refl _)).updB st.upd SOUT) ((OI5.out.2.bel ba (Nat.le_refl _)).updB st.upd SOUT))
  have SI : Hid (∀ v, Below w7.heap.size w7 v → Calls Try.prog 29 #[va, vb] v fun e w' => e = .returned (.bool true) ∧ Below v.heap.size v w') := fun v bv => (sameints_eq A' _ _ va vb v (OI7.out.1.bel bv (Nat.le_refl _)) (OI7.out.2.bel bv (Nat.le_refl _))).mono fun e w' ⟨he, k, hk⟩ => ⟨he, by rw [hk]; exact below_drewN (Below.refl _ _) k⟩
  have KK : Hid (∀ v, Below w7.heap.size w7 v → (Below w.heap.size w v ∧ v.cell? ⟨w.heap.size, 0, none⟩ = some (.int .i64 zn) ∧ v.cell? ⟨w.heap.size, 1, none⟩ = some (.slice ma ml mc) ∧ v.cell? ⟨gu, 0, none⟩ = some (.int .i64 zn) ∧ v.cell? ⟨gu, 1, none⟩ = some (.slice (some ⟨zg, 0, none⟩) ml zc))) := fun v b =>
    ⟨b7.trans (b.mono b7.size), (b.cell (p := ⟨w.heap.size, 0, none⟩) (by show w.heap.size < w7.heap.size; omega)).trans x0, (b.cell (p := ⟨w.heap.size, 1, none⟩) (by show w.heap.size < w7.heap.size; omega)).trans x1, (b.cell (p := ⟨gu, 0, none⟩) hgu2).trans y0, (b.cell (p := ⟨gu, 1, none⟩) hgu2).trans y1⟩
  have GL : ((Z1 ++ [(⟨zn, ⟨zg, zc, zD⟩⟩ : ZV)].map (·.z)).map ZE.m).length = n + 1 := by rw [List.length_map, List.length_append, ZL.out]; rfl
  have GVV : Hid (∀ v, Below w7.heap.size w7 v → Calls Try.prog 10 #[.pointer (some ⟨w.heap.size + 1, 0, none⟩), .slice av nv cv] v fun e w' => ∃ g8 c8, e = .returned (.slice (some ⟨g8, 0, none⟩) nv c8) ∧ PV8 w (w.heap.size + 1) (w.heap.size + 1 + 1) zn ma ml mc zD gu zg zc V nv g8 c8 w') := fun v bv => by
    have Gv := st.gx.bel bv
    obtain ⟨kb, k0, k1, k2, k3⟩ := KK.out v bv
    have hvs := bv.size
    refine (given_vec _ _ v2' v3' _ L3' av nv cv V v Gv (HV.out.bel kb) hbv (by rw [GL]; exact room_c n hb) st.len3).mono ?_
    rintro e w' ⟨g8, c8, q2, q3, g5, k5, rfl, sl8, _, G8, u8, _, _⟩
    have un := Gv.under u8
    have ow := st.own.bel bv (Nat.le_refl _)
    have hgn : ¬ (gu = w.heap.size + 1 ∨ v2'.ownBlock = some gu ∨ v3'.ownBlock = some gu) := fun hh => by
      rcases hh with hh | hh | hh
      · omega
      · exact rowsWV_apart ow Gv.o2 rfl hh
      · exact rowsWV_apart ow Gv.o3 rfl hh
    refine ⟨g8, c8, rfl, kb.trans (un.mono (by omega)), (un.cell (p := ⟨w.heap.size, 0, none⟩) (Nat.lt_succ_self _)).trans k0, (un.cell (p := ⟨w.heap.size, 1, none⟩) (Nat.lt_succ_self _)).trans k1, (u8.cell (p := ⟨gu, 0, none⟩) (by show gu < v.heap.size; omega) hgn).trans k2, (u8.cell (p := ⟨gu, 1, none⟩) (by show gu < v.heap.size; omega) hgn).trans k3, by have := u8.size; omega, by have := u8.size; omega, sl8, ?_, q2, q3, _, _, G8, ?_⟩
    · exact dcs_prefix (G8.d2 ⟨some ⟨zg, 0, none⟩, zc, zD ++ [(77, 88)]⟩ (by simp [ZE.m])) HM.out.1
    · have hw := st.was
      generalize (Z1 ++ [(⟨zn, ⟨zg, zc, zD⟩⟩ : ZV)].map (·.z)).map ZE.m = XX at hw ⊢
      rw [List.map_append, List.map_append, hw]
      rfl
  clear st GV2 S6 hu5 hcu hu3 hu4 hu2 hs7 hgu1 bw7 SOUT OI7 GL x0 x1 y0 y1 OI5 GW5 ba MOK mlow HGL ZL hB3 z0 z1 hw1 hw2 hw3 hw4 hw5 hs34 hs35 b5
  have b77 : Below w7.heap.size w7 w7 := Below.refl _ _
  have hbv7 := b77.drew
  have REF : Hid (∀ v, Below w.heap.size w v → Calls Try.prog 31 #[.slice av nv cv, .agg #[.int .i64 zn, .slice ma ml mc]] v fun e w' => e = .returned (.bool (decide (mayv zn zD.length ∧ V.length = zD.length) && ov V zD zn.toNat)) ∧ Below v.heap.size v w') := fun v b => refoverN zn (HV.out.bel b) (HM.out.bel b)
  go_wp2_with fail
  go_region_held3 (fun v => Below w.heap.size w v ∧ v.cell? ⟨w.heap.size, 0, none⟩ = some (.int .i64 zn) ∧ v.cell? ⟨w.heap.size, 1, none⟩ = some (.slice ma ml mc) ∧ v.cell? ⟨gu, 0, none⟩ = some (.int .i64 zn) ∧ v.cell? ⟨gu, 1, none⟩ = some (.slice (some ⟨zg, 0, none⟩) ml zc))
    (first | exact KK.out _ hbv7 | exact KK.out _ (by assumption) | exact (‹PV8 _ _ _ _ _ _ _ _ _ _ _ _ _ _ _ _›).keep)
    (first
      | (go_at_call 15; refine (num_any _ _).mono ?_; rintro e v ⟨rfl, rfl⟩)
      | (go_at_call 29; refine (SI.out _ (by first | assumption | exact hbv7)).mono ?_; rintro e v ⟨rfl, bv⟩; have bb : Below w7.heap.size w7 v := Below.on (Nat.le_refl _) (by first | assumption | exact hbv7) bv; clear bv)
      | (go_at_call 10; refine (GVV.out _ (by assumption)).mono ?_; rintro e v ⟨g8, c8, rfl, pv⟩)
      | (go_at_call 30; rename PV8 _ _ _ _ _ _ _ _ _ _ _ _ _ _ _ _ => hp; refine (overN _ hp.sv hp.sm).mono ?_; rintro e v ⟨rfl, bv⟩; have pv := hp.on bv; clear bv hp)
      | (go_at_call 31; rename PV8 _ _ _ _ _ _ _ _ _ _ _ _ _ _ _ _ => hp; refine (REF.out _ hp.bel).mono ?_; rintro e v ⟨rfl, bv⟩; have pv := hp.on bv; clear bv hp)
      | (go_at_call 31; refine (REF.out _ (KK.out _ (by assumption)).1).mono ?_; rintro e v ⟨rfl, bv⟩; have bb : Below w7.heap.size w7 v := Below.on (Nat.le_refl _) (by assumption) bv; clear bv)
      | (go_at_call 19; rename PV8 _ _ _ _ _ _ _ _ _ _ _ _ _ _ _ _ => hp; obtain ⟨q2, q3, M2, M3, GG, hDD⟩ := hp.gx; refine (intact_any _ _ q2 q3 M2 M3 _ GG hDD).mono ?_; rintro e v ⟨rfl, bv⟩; have pv := hp.on bv; clear bv hp GG hDD)
      | (go_at_call 32; rename PV8 _ _ _ _ _ _ _ _ _ _ _ _ _ _ _ _ => hp; refine (alive_true _).mono ?_; rintro e v ⟨rfl, bv⟩; have pv := hp.on bv; clear bv hp))
  clear GVV SI KK REF
  have hfin := pv.bel
  clear pv
  go_wp2
  go_ret
  exact ⟨rfl, hfin⟩

end Go.Proofs.Ytcchnaldanibgaa
