import Derived.Test.YtcchnaldanibgaaVg
namespace Go.Proofs.Ytcchnaldanibgaa
open Go.RowKit
set_option linter.unusedVariables false
set_option linter.unusedSimpArgs false

def vAt (L : List Voi) (i : Nat) : Voi := L.getD i ⟨0, ⟨none, 0, []⟩⟩
def vD (L : List Voi) (i : Nat) : List (Int × Int) := (vAt L i).x.D
def vN (L : List Voi) (i : Nat) : Nat := (vAt L i).node.toNat
theorem vAt_some {L : List Voi} {i : Nat} {m : Voi} (h : L[i]? = some m) : vAt L i = m := by
  unfold vAt; rw [List.getD_eq_getElem?_getD, h]; rfl
theorem vAt_get {L : List Voi} {i : Nat} (h : i < L.length) : L[i]? = some (vAt L i) := by
  unfold vAt; rw [List.getD_eq_getElem?_getD, List.getElem?_eq_getElem h]; rfl
theorem vAt_mem {L : List Voi} {i : Nat} (h : i < L.length) : vAt L i ∈ L := List.mem_of_getElem? (vAt_get h)
/-- The first place at which p is true, or -1. -/
def isFirst (p : Nat → Bool) (n : Nat) (r : Int) : Prop := (∃ j : Nat, j < n ∧ p j = true ∧ (∀ i, i < j → p i = false) ∧ r = j) ∨ ((∀ i, i < n → p i = false) ∧ r = -1)

set_option maxRecDepth 100000 in
set_option maxHeartbeats 400000 in
theorem clos_any (V D : List (Int × Int)) (vn : Int) (a1 a2 : Option Addr) (c1 c2 k b : Nat) (w : World) (h1 : Sl w (.slice a1 V.length c1) V a1 c1) (h2 : Sl w (.slice a2 D.length c2) D a2 c2) (hk : k < D.length) (hl : V.length = D.length) (hb : b < w.heap.size) (z0 : w.cell? ⟨b, 0, none⟩ = some (.int .i64 (k : Int))) (z1 : w.cell? ⟨b, 1, none⟩ = some (.slice a2 D.length c2)) :
    Calls Try.prog 73 #[.agg #[.int .i64 vn, .slice a1 V.length c1], .pointer (some ⟨b, 0, none⟩)] w fun e w' => e = .returned (.bool (ov V D k)) ∧ Below w.heap.size w w' := by
  have HK := hide (fun w h1 h2 => knows_any V D a1 a2 c1 c2 k w h1 h2 hk hl)
  have H1 := hide h1
  have H2 := hide h2
  have y0 : ∀ ob, (w.alloc ob).cell? ⟨b, 0, none⟩ = some (.int .i64 (k : Int)) := fun ob => (World.cell?_alloc_past _ _ _ hb).trans z0
  have y1 : ∀ ob, (w.alloc ob).cell? ⟨b, 1, none⟩ = some (.slice a2 D.length c2) := fun ob => (World.cell?_alloc_past _ _ _ hb).trans z1
  generalize ov V D k = r at *
  clear h1 h2 hl hk
  go_enter Try.func73, Try.ntmps73
  go_wp2_with fail
  refine (HK.out (w.alloc (.cells #[.int .i64 vn, .slice a1 V.length c1] 56)) ?_ ?_).mono ?_
  · exact H1.out.upd (S := fun _ => False) ((Upd.refl _ _).alloc _) (fun _ _ _ => id)
  · exact H2.out.upd (S := fun _ => False) ((Upd.refl _ _).alloc _) (fun _ _ _ => id)
  rintro e w1 ⟨rfl, bb⟩
  have b1 : Below w.heap.size w w1 := ((Below.refl _ _).alloc (Nat.le_refl _) _).trans (bb.mono (by simp))
  go_wp2
  go_ret
  exact ⟨rfl, b1⟩

set_option maxRecDepth 100000 in
set_option maxHeartbeats 1000000 in
theorem index_any (L : List Voi) (q o c : Nat) (D : List (Int × Int)) (a2 : Option Addr) (c2 k b : Nat) (w : World) (h : LieW w q o L) (hq : q < w.heap.size) (hc : L.length ≤ c) (hm : c ≤ maxLen) (h2 : Sl w (.slice a2 D.length c2) D a2 c2) (hk : k < D.length) (hall : ∀ m, m ∈ L → m.x.D.length = D.length)
    (hb : b < w.heap.size) (z0 : w.cell? ⟨b, 0, none⟩ = some (.int .i64 (k : Int))) (z1 : w.cell? ⟨b, 1, none⟩ = some (.slice a2 D.length c2)) :
    Calls Try.prog 72 #[.slice (some ⟨q, o, none⟩) L.length c, .func (.func 73) #[] #[.pointer (some ⟨b, 0, none⟩)]] w fun e w' => (∃ r, e = .returned (.int .i64 r) ∧ isFirst (fun i => ov (vD L i) D k) L.length r) ∧ Below w.heap.size w w' := by
  have HL := hide h
  have H2 := hide h2
  have HA := hide hall
  have HZ := hide (And.intro z0 z1)
  unfold maxLen at hm
  clear h h2 hall z0 z1
  generalize hn : L.length = n at *
  have HN := hide hn
  clear hn
  go_enter Try.func72, Try.ntmps72
  go_wp2_with fail
  go_loopw [8] (fun i wr => ∃ (j : Nat), i = .int .i64 (j : Int) ∧ j ≤ n ∧ (∀ i, i < j → ov (vD L i) D k = false) ∧ Below w.heap.size w wr) (fun i _ => n - (intOf i).toNat)
  case atStart => exact ⟨0, rfl, Nat.zero_le _, (fun i hi => by omega), Below.refl _ _⟩
  case round =>
    obtain ⟨j, rfl, hj, hno, hb2⟩ := hrel
    have hsz := hb2.size
    by_cases hlt : j < n
    · have hy := vAt_get (L := L) (i := j) (by rw [HN.out]; exact hlt)
      have hymem := vAt_mem (L := L) (i := j) (by rw [HN.out]; exact hlt)
      obtain ⟨t0, t1, t2⟩ := HL.out j _ hy
      have t0 := (hb2.cell (p := ⟨q, o + j * 2, none⟩) hq).trans t0
      have t1 := (hb2.cell (p := ⟨q, o + j * 2 + 1, none⟩) hq).trans t1
      have hyl := HA.out _ hymem
      have C := clos_any (vAt L j).x.D D (vAt L j).node (vAt L j).x.a a2 (vAt L j).x.c c2 k b wr (t2.bel hb2 (Nat.le_refl _)) (H2.out.upd (S := fun _ => False) (Upd.of_below hb2) (fun _ _ _ => id)) hk hyl (by omega) ((hb2.cell (p := ⟨b, 0, none⟩) hb).trans HZ.out.1) ((hb2.cell (p := ⟨b, 1, none⟩) hb).trans HZ.out.2)
      have CH := hide C
      have NO := hide hno
      have hov : ov (vD L j) D k = ov (vAt L j).x.D D k := rfl
      have OV := hide hov
      clear C hno hov t2 hy hymem hyl
      generalize (vAt L j).x.D.length = yl at *
      generalize (vAt L j).node = yn at *
      generalize (vAt L j).x.a = ya at *
      generalize (vAt L j).x.c = yc at *
      cases hbo : ov (vAt L j).x.D D k with
      | true =>
        rw [hbo] at CH OV
        go_wp2_with fail
        refine CH.out.mono ?_
        rintro e w2 ⟨rfl, b2⟩
        clear CH
        go_wp2
        go_ret
        exact ⟨⟨_, rfl, .inl ⟨j, hlt, OV.out, NO.out, rfl⟩⟩, hb2.trans (b2.mono hsz)⟩
      | false =>
        rw [hbo] at CH OV
        go_wp2_with fail
        refine CH.out.mono ?_
        rintro e w2 ⟨rfl, b2⟩
        clear CH
        go_wp2
        go_round
        case rel =>
          refine ⟨j + 1, by go_num, by omega, fun i hi => ?_, hb2.trans (b2.mono hsz)⟩
          by_cases h : i < j
          · exact NO.out i h
          · obtain rfl : i = j := by omega
            exact OV.out
        case measure => simp [intOf]; omega
    · obtain rfl : j = n := by omega
      have NO := hide hno
      clear hno
      go_wp2
      go_ret
      exact ⟨⟨_, rfl, .inr ⟨NO.out, rfl⟩⟩, hb2⟩
set_option maxRecDepth 100000 in
set_option maxHeartbeats 400000 in
theorem first_any (L : List Voi) (q o c : Nat) (D : List (Int × Int)) (a2 : Option Addr) (c2 k : Nat) (w : World) (h : LieW w q o L) (hq : q < w.heap.size) (hc : L.length ≤ c) (hm : c ≤ maxLen) (h2 : Sl w (.slice a2 D.length c2) D a2 c2) (hk : k < D.length) (hall : ∀ m, m ∈ L → m.x.D.length = D.length) :
    Calls Try.prog 51 #[.slice (some ⟨q, o, none⟩) L.length c, .agg #[.int .i64 (k : Int), .slice a2 D.length c2]] w fun e w' => (∃ r, e = .returned (.int .i64 r) ∧ isFirst (fun i => ov (vD L i) D k) L.length r) ∧ Below w.heap.size w w' := by
  have b0 : ∀ ob, Below w.heap.size w (w.alloc ob) := fun ob => (Below.refl _ _).alloc (Nat.le_refl _) ob
  have I := hide (fun ob z0 z1 => index_any L q o c D a2 c2 k w.heap.size (w.alloc ob) (h.bel hq (b0 ob)) (by simp; omega) hc hm (h2.upd (S := fun _ => False) ((Upd.refl _ _).alloc _) (fun _ _ _ => id)) hk hall (by simp) z0 z1)
  clear h h2 b0
  have hmf : ∀ (fn : Fn) (first cap : Array Value) (w : World), (Instr.makeFunc fn first cap).run Try.prog w = .ok (.func fn first cap) w := fun _ _ _ _ => rfl
  go_enter Try.func51, Try.ntmps51
  go_wp2_with fail
  refine (I.out (.cells #[.int .i64 (k : Int), .slice a2 D.length c2] 56) (by simp) (by simp)).mono ?_
  rintro e w1 ⟨⟨r, rfl, hr⟩, bb⟩
  have b1 : Below w.heap.size w w1 := ((Below.refl _ _).alloc (Nat.le_refl _) _).trans (bb.mono (by simp))
  have HR := hide hr
  clear hr bb I
  go_wp2
  go_ret
  exact ⟨⟨r, rfl, HR.out⟩, b1⟩

theorem cons_none (a : Option Addr) (c : Nat) (w : World) :
    Calls Try.prog 25 #[.slice a 0 c] w fun e w' => e = .returned (.tuple #[.int .i64 (-1), .int .i64 (-1), .int .i64 0]) ∧ w' = w := by
  go_enter Try.func25, Try.ntmps25
  go_wp2_with fail
  refine (mv_none a c w).mono ?_
  rintro e w1 ⟨rfl, e1⟩
  have e1 := e1.symm
  subst e1
  go_wp2_with fail
  go_loopw [19] (fun i wr => i = .int .i64 0 ∧ wr = w) (fun _ _ => 0)
  case atStart => exact ⟨rfl, rfl⟩
  case round =>
    obtain ⟨rfl, rfl⟩ := hrel
    go_wp2
    go_ret3
    exact ⟨rfl, rfl⟩
set_option maxRecDepth 100000 in
set_option maxHeartbeats 1000000 in
theorem cons_any (m0 : Voi) (T : List Voi) (q o c : Nat) (w : World) (h : LieW w q o (m0 :: T)) (hq : q < w.heap.size) (hc : T.length + 1 ≤ c) (hm : c ≤ maxLen) (hb : (T.length + 1) * 32 ≤ 140737488355328) :
    Calls Try.prog 25 #[.slice (some ⟨q, o, none⟩) (T.length + 1) c] w fun e w' =>
      ((okV (m0 :: T) m0.x.D.length ∧ ∃ r s, e = .returned (.tuple #[.int .i64 r, .int .i64 s, .int .i64 0]) ∧ isFirst (fun i => ov (mer m0.x.D (T.map (·.x.D))) (vD (m0 :: T) i) (vN (m0 :: T) i)) (T.length + 1) r ∧ ((r = -1 ∧ s = -1) ∨ ∃ j : Nat, r = j ∧ j < T.length + 1 ∧ isFirst (fun k => ov (vD (m0 :: T) k) (vD (m0 :: T) j) (vN (m0 :: T) j)) (T.length + 1) s))
        ∨ (¬ okV (m0 :: T) m0.x.D.length ∧ e = .returned (.tuple #[.int .i64 0, .int .i64 0, .int .i64 30]))) ∧ Below w.heap.size w w' := by
  have MV := hide (mv_any m0 T q o c w h hq hc hm hb)
  have HL := hide h
  have hm2 := hide hm
  unfold maxLen at hm
  clear h
  generalize hT : m0 :: T = L at *
  have HLen : Hid (L.length = T.length + 1) := by show _ = _; rw [← hT]; rfl
  generalize hMg : mer m0.x.D (T.map (·.x.D)) = Mg at *
  have HMl : Hid (Mg.length = m0.x.D.length) := by show _ = _; rw [← hMg, mer_length]
  generalize m0.x.D.length = nd at *
  clear hT hMg
  generalize T.length + 1 = n at *
  clear m0 T
  go_enter Try.func25, Try.ntmps25
  go_wp2_with fail
  refine MV.out.mono ?_
  rintro e w1 ⟨⟨hok, g, rfl, o1⟩ | ⟨hbad, rfl⟩, b1⟩
  · have OK := hide hok
    have O1 := hide o1
    clear MV hok o1
    go_wp2_with fail
    go_loopw [19] (fun i wr => ∃ (j : Nat), i = .int .i64 (j : Int) ∧ j ≤ n ∧ (∀ i, i < j → ov Mg (vD L i) (vN L i) = false) ∧ Below w.heap.size w wr ∧ OwnD w.heap.size wr (.slice (some ⟨g, 0, none⟩) nd nd) Mg) (fun i _ => n - (intOf i).toNat)
    case atStart => exact ⟨0, rfl, Nat.zero_le _, (fun i hi => by omega), b1, O1.out⟩
    case round =>
      obtain ⟨j, rfl, hj, hno, hb2, ho⟩ := hrel
      have hsz := hb2.size
      by_cases hlt : j < n
      · have hy := vAt_get (L := L) (i := j) (by rw [HLen.out]; exact hlt)
        have hymem := vAt_mem (L := L) (i := j) (by rw [HLen.out]; exact hlt)
        obtain ⟨p0, p1, t2⟩ := HL.out j _ hy
        have t0 := (hb2.cell (p := ⟨q, o + j * 2, none⟩) hq).trans p0
        have t1 := (hb2.cell (p := ⟨q, o + j * 2 + 1, none⟩) hq).trans p1
        clear p0 p1
        obtain ⟨hmay, hyl⟩ := OK.out _ hymem
        have hnode : (vAt L j).node = ((vN L j : Nat) : Int) := by unfold vN; have := hmay.2.1; omega
        have hkl : vN L j < (vD L j).length := by have := hmay.2.2; unfold vN vD; omega
        have hDl : (vD L j).length = nd := hyl
        have FT := hide (fun w' (bb : Below w.heap.size w w') => first_any L q o c (vD L j) (vAt L j).x.a (vAt L j).x.c (vN L j) w' (HL.out.bel hq bb) (by have := bb.size; omega) (by rw [HLen.out]; exact hc) hm2.out (t2.bel bb (Nat.le_refl _)) hkl (fun m hm => by rw [hDl]; exact (OK.out m hm).2))
        obtain ⟨ga, gc, hgs, _⟩ := ho.sl
        have hgf := hgs.form
        rw [HMl.out] at hgf
        injection hgf with hg1 hg2 hg3
        subst hg1 hg3
        have KN := hide (fun w' (bb : Below wr.heap.size wr w') => knows_any Mg (vD L j) _ (vAt L j).x.a _ (vAt L j).x.c (vN L j) w' (hgs.form ▸ hgs.upd (S := fun _ => False) (Upd.of_below bb) (fun _ _ _ => id)) (t2.bel (hb2.trans (bb.mono hsz)) (Nat.le_refl _)) hkl (by rw [HMl.out, hDl]))
        rw [HMl.out, hDl] at KN
        rw [hDl, HLen.out] at FT
        rw [hnode] at t0
        rw [show (vAt L j).x.D.length = nd from hyl] at t1
        have NO := hide hno
        have HO := hide ho
        clear hno ho t2 hy hymem hyl hmay hnode hkl hDl hgs hg2
        generalize (vAt L j).x.a = ya at *
        generalize (vAt L j).x.c = yc at *
        have bal : ∀ ob, Below wr.heap.size wr (wr.alloc ob) := fun ob => (Below.refl _ _).alloc (Nat.le_refl _) ob
        have BAL := hide bal
        clear bal
        cases hbo : ov Mg (vD L j) (vN L j) with
        | true =>
          rw [hbo] at KN
          generalize hkk : vN L j = kk at *
          go_wp2_with fail
          refine (KN.out (wr.alloc (.cells #[.int .i64 (kk : Int), .slice ya nd yc] 56)) (BAL.out _)).mono ?_
          rintro e w2 ⟨rfl, bb⟩
          have b2 : Below wr.heap.size wr w2 := (BAL.out _).trans (bb.mono (by simp))
          have b3 : Below w.heap.size w w2 := hb2.trans (b2.mono hsz)
          have z0 : w2.cell? ⟨wr.heap.size, 0, none⟩ = some (.int .i64 (kk : Int)) := (bb.cell (p := ⟨wr.heap.size, 0, none⟩) (by simp)).trans (by simp)
          have z1 : w2.cell? ⟨wr.heap.size, 1, none⟩ = some (.slice ya nd yc) := (bb.cell (p := ⟨wr.heap.size, 1, none⟩) (by simp)).trans (by simp)
          clear KN bb
          go_wp2_with fail
          refine (FT.out w2 b3).mono ?_
          rintro e w3 ⟨⟨s, rfl, hs⟩, b4⟩
          have HS := hide hs
          clear hs FT
          go_wp2
          go_ret3
          refine ⟨.inl ⟨OK.out, _, _, rfl, .inl ⟨j, hlt, by show ov Mg (vD L j) (vN L j) = true; rw [hkk]; exact hbo, NO.out, rfl⟩, .inr ⟨j, rfl, hlt, ?_⟩⟩, b3.trans (b4.mono b3.size)⟩
          rw [hkk]
          exact HS.out
        | false =>
          rw [hbo] at KN
          clear FT
          generalize hkk : vN L j = kk at *
          go_wp2_with fail
          refine (KN.out (wr.alloc (.cells #[.int .i64 (kk : Int), .slice ya nd yc] 56)) (BAL.out _)).mono ?_
          rintro e w2 ⟨rfl, bb⟩
          have b2 : Below wr.heap.size wr w2 := (BAL.out _).trans (bb.mono (by simp))
          have b3 : Below w.heap.size w w2 := hb2.trans (b2.mono hsz)
          have O2 := hide (HO.out.bel b2 (Nat.le_refl _))
          clear KN bb HO
          go_wp2
          go_round
          case rel =>
            refine ⟨j + 1, by go_num, by omega, fun i hi => ?_, b3, O2.out⟩
            by_cases h : i < j
            · exact NO.out i h
            · obtain rfl : i = j := by omega
              rw [hkk]
              exact hbo
          case measure => simp [intOf]; omega
      · obtain rfl : j = n := by omega
        have NO := hide hno
        clear hno ho
        go_wp2
        go_ret3
        exact ⟨.inl ⟨OK.out, _, _, rfl, .inr ⟨NO.out, rfl⟩, .inl ⟨rfl, rfl⟩⟩, hb2⟩
  · have BAD := hide hbad
    clear MV hbad
    go_wp2
    go_ret3
    exact ⟨.inr ⟨BAD.out, rfl⟩, b1⟩

end Go.Proofs.Ytcchnaldanibgaa
