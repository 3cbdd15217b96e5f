import Derived.Test.YtdgelllmngdpkaaDx
import Derived.Test.YtdgelllmngdpkaaEq
namespace Go.Proofs.Ytdgelllmngdpkaa
open Go.RowKit
set_option linter.unusedVariables false
set_option linter.unusedSimpArgs false

set_option maxRecDepth 100000 in
set_option maxHeartbeats 2000000 in
theorem does6at (b t c p q m s d x y z B : Nat) (L : List (Int × Int)) (al : Option Addr) (cl : Nat) (R rp : Int) (np : Nat) (rq : Int) (nq : Nat) (S : Int) (k : Nat) (vx vy : Value) (ax : Option Addr) (cs : Nat) (hk : k < L.length) (N : Int) (hN : 0 ≤ N ∧ N ≤ 18446744073709551615) (w : World) (h : SS w b t c p q m s d x y z B L al cl R rp np rq nq S k vx vy ax cs) :
    Calls Try.prog 10 #[.pointer (some ⟨t, 0, none⟩), .agg #[.int .i64 6, .bool true, .int .u64 N]] w fun e w' => e = .returned (.bool true) ∧ Left w b t c p q m s d x y z B L al cl w' := by
  obtain ⟨o1, o2, o3, o4, o5, o6, o7, o8, o9, o10, o11⟩ := h.o
  have hBw := h.hB
  have ht := h.lt
  have HS := hide h
  obtain ⟨W, hW⟩ : ∃ W, ((w.alloc (.cells #[.int .i64 6, .bool true, .int .u64 N] 53)).alloc (.cells #[.int .u64 0, .int .u64 0] 44)).alloc (.cells #[.int .u64 0, .int .u64 0] 44) = W := ⟨_, rfl⟩
  have bW : Below w.heap.size w W := by rw [← hW]; exact (((Below.refl _ w).alloc (Nat.le_refl _) _).alloc (by simp) _).alloc (by simp; omega) _
  have zW : W.heap.size = w.heap.size + 3 := by rw [← hW]; simp
  have xx : ∀ i u, (w.alloc (.cells #[.int .i64 6, .bool true, .int .u64 N] 53)).cell? ⟨w.heap.size, i, none⟩ = some u → W.cell? ⟨w.heap.size, i, none⟩ = some u := fun i u hu => by
    rw [← hW]
    exact (World.cell?_alloc_past _ _ _ (by simp; omega)).trans ((World.cell?_alloc_past _ _ _ (by simp)).trans hu)
  have x0 := xx 0 (.int .i64 6) (by simp)
  have x1 := xx 1 (.bool true) (by simp)
  have ya : W.cell? ⟨w.heap.size + 1, 0, none⟩ = some (.int .u64 0) ∧ W.cell? ⟨w.heap.size + 1, 1, none⟩ = some (.int .u64 0) ∧ W.frozen? ⟨w.heap.size + 1, 0, none⟩ = false ∧ W.frozen? ⟨w.heap.size + 1, 1, none⟩ = false ∧ W.cell? ⟨w.heap.size + 1 + 1, 0, none⟩ = some (.int .u64 0) ∧ W.cell? ⟨w.heap.size + 1 + 1, 1, none⟩ = some (.int .u64 0) ∧ W.frozen? ⟨w.heap.size + 1 + 1, 0, none⟩ = false ∧ W.frozen? ⟨w.heap.size + 1 + 1, 1, none⟩ = false := by
    have := box2 (w.alloc (.cells #[.int .i64 6, .bool true, .int .u64 N] 53)) 44
    rw [World.size_alloc, hW] at this
    exact this
  have SW := hide (h.bel bW)
  have BW := hide bW
  have YA := hide ya
  have q0 := fun (h l : Int) (w : World) => eql_draw h l h l w
  simp only [beq_self_eq_true, Bool.and_self] at q0
  have t4 := SW.out.t4
  have hL1 := h.l.cap
  have hL2 := h.l.max
  unfold maxLen at hL2
  obtain ⟨x0, y0, hg⟩ : ∃ x0 y0, L[k]? = some (x0, y0) := ⟨L[k].1, L[k].2, List.getElem?_eq_getElem hk⟩
  have hdr : L.drop k = (x0, y0) :: L.drop (k + 1) := by
    obtain ⟨_, e⟩ := List.getElem?_eq_some_iff.1 hg
    rw [List.drop_eq_getElem_cons hk, e]
  have HDR := hide hdr
  have hST : Str W s ((x0, y0) :: L.drop (k + 1)) ax cs := by rw [← hdr]; exact SW.out.A
  have c1 := hide (stream_next s x0 y0 (L.drop (k + 1)) ax cs W hST)
  obtain ⟨al', qa, oa, hal, hqa, e0, e1⟩ : ∃ (al' : Addr) (qa oa : Nat), al = some ⟨qa, oa, none⟩ ∧ qa < b ∧ W.cell? ⟨qa, oa + k * 2, none⟩ = some (.int .u64 x0) ∧ W.cell? ⟨qa, oa + k * 2 + 1, none⟩ = some (.int .u64 y0) := by
    cases hal : al with
    | none => have := (SW.out.l.nil hal).1; rw [this] at hk; simp at hk
    | some xx' =>
      rcases SW.out.l.at_ xx' hal with ⟨e, _⟩ | ⟨q', o', rfl, hq, hl⟩
      · rw [e] at hk; simp at hk
      · exact ⟨⟨q', o', none⟩, q', o', rfl, SW.out.lb _ hal (by intro e; rw [e] at hg; simp at hg), (hl k _ hg).1, (hl k _ hg).2⟩
  subst hal
  have E0 := hide (And.intro e0 e1)
  clear e0 e1 hg hdr hST
  clear h bW xx ya
  go_enter Try.func10, Try.ntmps10
  go_wp2_with fail
  refine c1.out.mono ?_
  rintro e w1 ⟨rfl, ⟨a', c', r1, hbk⟩, u1⟩
  have R1 := hide r1
  have U1 := hide u1
  have HBK := hide hbk
  have hp : ∀ i, i < W.heap.size → i ≠ s → ∀ j, w1.cell? ⟨i, j, none⟩ = W.cell? ⟨i, j, none⟩ ∧ w1.frozen? ⟨i, j, none⟩ = W.frozen? ⟨i, j, none⟩ := fun i hi hn j => ⟨u1.cell (p := ⟨i, j, none⟩) hi hn, u1.frozen (p := ⟨i, j, none⟩) hi hn⟩
  obtain ⟨a0, a1, g0, g1, b0, b1, h0, h1⟩ := YA.out
  have a0 := ((hp (w.heap.size + 1) (by omega) (by omega) 0).1).trans a0
  have a1 := ((hp (w.heap.size + 1) (by omega) (by omega) 1).1).trans a1
  have g0 := ((hp (w.heap.size + 1) (by omega) (by omega) 0).2).trans g0
  have g1 := ((hp (w.heap.size + 1) (by omega) (by omega) 1).2).trans g1
  have b0 := ((hp (w.heap.size + 1 + 1) (by omega) (by omega) 0).1).trans b0
  have b1 := ((hp (w.heap.size + 1 + 1) (by omega) (by omega) 1).1).trans b1
  have h0 := ((hp (w.heap.size + 1 + 1) (by omega) (by omega) 0).2).trans h0
  have h1 := ((hp (w.heap.size + 1 + 1) (by omega) (by omega) 1).2).trans h1
  have t9 := ((hp t (by omega) (by omega) 9).1).trans SW.out.t9
  have t10 := ((hp t (by omega) (by omega) 10).1).trans SW.out.t10
  have f10 := ((hp t (by omega) (by omega) 10).2).trans SW.out.f10
  have e0 := ((hp qa (by omega) (by omega) (oa + k * 2)).1).trans E0.out.1
  have e1 := ((hp qa (by omega) (by omega) (oa + k * 2 + 1)).1).trans E0.out.2
  have n1 : t ≠ w.heap.size + 1 := by omega
  have n2 : t ≠ w.heap.size + 1 + 1 := by omega
  have n3 : qa ≠ w.heap.size + 1 := by omega
  have n4 : qa ≠ w.heap.size + 1 + 1 := by omega
  have n5 : w.heap.size + 1 ≠ w.heap.size + 1 + 1 := by omega
  have n6 : w.heap.size + 1 + 1 ≠ w.heap.size + 1 := by omega
  have z1 := u1.size
  clear hp u1 r1 hbk hW t4 c1
  obtain ⟨w2, hw2⟩ : ∃ w2, ((w1.setCell ⟨w.heap.size + 1, 0, none⟩ (.int .u64 x0)).setCell ⟨w.heap.size + 1, 1, none⟩ (.int .u64 y0)) = w2 := ⟨_, rfl⟩
  have uS : Upd (· = w.heap.size + 1) w1 w2 := by rw [← hw2]; exact set2u _ _ _ _
  have y0' : w2.cell? ⟨w.heap.size + 1, 0, none⟩ = some (.int .u64 x0) := by rw [← hw2]; exact setc_ne' (setc_eq' a0) (by omega)
  have y1' : w2.cell? ⟨w.heap.size + 1, 1, none⟩ = some (.int .u64 y0) := by rw [← hw2]; exact setc_eq' (setc_ne' a1 (by omega))
  have kk : ∀ i, i < w1.heap.size → i ≠ w.heap.size + 1 → ∀ j, w2.cell? ⟨i, j, none⟩ = w1.cell? ⟨i, j, none⟩ ∧ w2.frozen? ⟨i, j, none⟩ = w1.frozen? ⟨i, j, none⟩ := fun i hi hn j => ⟨uS.cell (p := ⟨i, j, none⟩) hi hn, uS.frozen (p := ⟨i, j, none⟩) hi hn⟩
  have b0 := (kk _ (by omega) n6 0).1.trans b0
  have b1 := (kk _ (by omega) n6 1).1.trans b1
  have h0 := (kk _ (by omega) n6 0).2.trans h0
  have h1 := (kk _ (by omega) n6 1).2.trans h1
  have t9 := (kk _ (by omega) n1 9).1.trans t9
  have t10 := (kk _ (by omega) n1 10).1.trans t10
  have f10 := (kk _ (by omega) n1 10).2.trans f10
  have e0 := (kk _ (by omega) n3 (oa + k * 2)).1.trans e0
  have e1 := (kk _ (by omega) n3 (oa + k * 2 + 1)).1.trans e1
  have US := hide uS
  have z2 := uS.size
  have hkz : decide ((k : Int) < (L.length : Int)) = true := by simp; omega
  clear kk uS
  go_wp2_with fail
  clear hw2 a0 a1 g0 g1
  go_region_held3 (fun v => v.cell? ⟨t, 9, none⟩ = some (.slice (some ⟨qa, oa, none⟩) L.length cl) ∧ v.cell? ⟨t, 10, none⟩ = some (.int .i64 (k : Int))) (first | go_keep | (exact ⟨by go_simp, by go_simp⟩)) (fail)
  have u5 := set2u w2 (w.heap.size + 1 + 1) (.int .u64 x0) (.int .u64 y0)
  have bd := (((Below.refl ((w2.setCell ⟨w.heap.size + 1 + 1, 0, none⟩ (.int .u64 x0)).setCell ⟨w.heap.size + 1 + 1, 1, none⟩ (.int .u64 y0)).heap.size ((w2.setCell ⟨w.heap.size + 1 + 1, 0, none⟩ (.int .u64 x0)).setCell ⟨w.heap.size + 1 + 1, 1, none⟩ (.int .u64 y0))).drew).drew)
  have ud : Upd (· = w.heap.size + 1 + 1) w2 ((w2.setCell ⟨w.heap.size + 1 + 1, 0, none⟩ (.int .u64 x0)).setCell ⟨w.heap.size + 1 + 1, 1, none⟩ (.int .u64 y0)).drew.drew := u5.trans (Upd.of_below bd)
  have hz5 := u5.size
  have K2 : ((w2.setCell ⟨w.heap.size + 1 + 1, 0, none⟩ (.int .u64 x0)).setCell ⟨w.heap.size + 1 + 1, 1, none⟩ (.int .u64 y0)).drew.drew.cell? ⟨t, 9, none⟩ = some (.slice (some ⟨qa, oa, none⟩) L.length cl) ∧ ((w2.setCell ⟨w.heap.size + 1 + 1, 0, none⟩ (.int .u64 x0)).setCell ⟨w.heap.size + 1 + 1, 1, none⟩ (.int .u64 y0)).drew.drew.cell? ⟨t, 10, none⟩ = some (.int .i64 (k : Int)) ∧ ((w2.setCell ⟨w.heap.size + 1 + 1, 0, none⟩ (.int .u64 x0)).setCell ⟨w.heap.size + 1 + 1, 1, none⟩ (.int .u64 y0)).drew.drew.cell? ⟨qa, oa + k * 2, none⟩ = some (.int .u64 x0) ∧ ((w2.setCell ⟨w.heap.size + 1 + 1, 0, none⟩ (.int .u64 x0)).setCell ⟨w.heap.size + 1 + 1, 1, none⟩ (.int .u64 y0)).drew.drew.cell? ⟨qa, oa + k * 2 + 1, none⟩ = some (.int .u64 y0) ∧ ((w2.setCell ⟨w.heap.size + 1 + 1, 0, none⟩ (.int .u64 x0)).setCell ⟨w.heap.size + 1 + 1, 1, none⟩ (.int .u64 y0)).drew.drew.cell? ⟨w.heap.size + 1 + 1, 0, none⟩ = some (vAtD ((w2.setCell ⟨w.heap.size + 1 + 1, 0, none⟩ (.int .u64 x0)).setCell ⟨w.heap.size + 1 + 1, 1, none⟩ (.int .u64 y0)).drew.drew ⟨w.heap.size + 1 + 1, 0, none⟩) ∧ ((w2.setCell ⟨w.heap.size + 1 + 1, 0, none⟩ (.int .u64 x0)).setCell ⟨w.heap.size + 1 + 1, 1, none⟩ (.int .u64 y0)).drew.drew.cell? ⟨w.heap.size + 1 + 1, 1, none⟩ = some (vAtD ((w2.setCell ⟨w.heap.size + 1 + 1, 0, none⟩ (.int .u64 x0)).setCell ⟨w.heap.size + 1 + 1, 1, none⟩ (.int .u64 y0)).drew.drew ⟨w.heap.size + 1 + 1, 1, none⟩) ∧ ((w2.setCell ⟨w.heap.size + 1 + 1, 0, none⟩ (.int .u64 x0)).setCell ⟨w.heap.size + 1 + 1, 1, none⟩ (.int .u64 y0)).drew.drew.frozen? ⟨w.heap.size + 1 + 1, 0, none⟩ = false ∧ ((w2.setCell ⟨w.heap.size + 1 + 1, 0, none⟩ (.int .u64 x0)).setCell ⟨w.heap.size + 1 + 1, 1, none⟩ (.int .u64 y0)).drew.drew.frozen? ⟨w.heap.size + 1 + 1, 1, none⟩ = false := ⟨(ud.cell (p := ⟨t, 9, none⟩) (by show t < _; omega) n2).trans t9, (ud.cell (p := ⟨t, 10, none⟩) (by show t < _; omega) n2).trans t10, (ud.cell (p := ⟨qa, oa + k * 2, none⟩) (by show qa < _; omega) n4).trans e0, (ud.cell (p := ⟨qa, oa + k * 2 + 1, none⟩) (by show qa < _; omega) n4).trans e1, vAtD_of ((bd.cell (p := ⟨w.heap.size + 1 + 1, 0, none⟩) (by show w.heap.size + 1 + 1 < _; omega)).trans (setc_ne' (setc_eq' b0) (by omega))), vAtD_of ((bd.cell (p := ⟨w.heap.size + 1 + 1, 1, none⟩) (by show w.heap.size + 1 + 1 < _; omega)).trans (setc_eq' (setc_ne' b1 (by omega)))), (bd.frozen (p := ⟨w.heap.size + 1 + 1, 0, none⟩) (by show w.heap.size + 1 + 1 < _; omega)).trans (by simpa using h0), (bd.frozen (p := ⟨w.heap.size + 1 + 1, 1, none⟩) (by show w.heap.size + 1 + 1 < _; omega)).trans (by simpa using h1)⟩
  have K2h := hide K2
  have K1h : Hid (∀ v, Below w2.heap.size w2 v → (v.cell? ⟨t, 9, none⟩ = some (.slice (some ⟨qa, oa, none⟩) L.length cl) ∧ v.cell? ⟨t, 10, none⟩ = some (.int .i64 (k : Int)) ∧ v.cell? ⟨qa, oa + k * 2, none⟩ = some (.int .u64 x0) ∧ v.cell? ⟨qa, oa + k * 2 + 1, none⟩ = some (.int .u64 y0) ∧ v.cell? ⟨w.heap.size + 1 + 1, 0, none⟩ = some (vAtD v ⟨w.heap.size + 1 + 1, 0, none⟩) ∧ v.cell? ⟨w.heap.size + 1 + 1, 1, none⟩ = some (vAtD v ⟨w.heap.size + 1 + 1, 1, none⟩) ∧ v.frozen? ⟨w.heap.size + 1 + 1, 0, none⟩ = false ∧ v.frozen? ⟨w.heap.size + 1 + 1, 1, none⟩ = false)) := fun v b => ⟨(b.cell (p := ⟨t, 9, none⟩) (by show t < _; omega)).trans t9, (b.cell (p := ⟨t, 10, none⟩) (by show t < _; omega)).trans t10, (b.cell (p := ⟨qa, oa + k * 2, none⟩) (by show qa < _; omega)).trans e0, (b.cell (p := ⟨qa, oa + k * 2 + 1, none⟩) (by show qa < _; omega)).trans e1, vAtD_of ((b.cell (p := ⟨w.heap.size + 1 + 1, 0, none⟩) (by show w.heap.size + 1 + 1 < _; omega)).trans b0), vAtD_of ((b.cell (p := ⟨w.heap.size + 1 + 1, 1, none⟩) (by show w.heap.size + 1 + 1 < _; omega)).trans b1), (b.frozen (p := ⟨w.heap.size + 1 + 1, 0, none⟩) (by show w.heap.size + 1 + 1 < _; omega)).trans h0, (b.frozen (p := ⟨w.heap.size + 1 + 1, 1, none⟩) (by show w.heap.size + 1 + 1 < _; omega)).trans h1⟩
  have bd2 := ((Below.refl w2.heap.size w2).drew).drew
  clear K2
  have UD := hide ud
  clear u5 bd ud
  go_wp2_with fail
  go_region_held3 (fun v => v.cell? ⟨t, 9, none⟩ = some (.slice (some ⟨qa, oa, none⟩) L.length cl) ∧ v.cell? ⟨t, 10, none⟩ = some (.int .i64 (k : Int)) ∧ v.cell? ⟨qa, oa + k * 2, none⟩ = some (.int .u64 x0) ∧ v.cell? ⟨qa, oa + k * 2 + 1, none⟩ = some (.int .u64 y0) ∧ v.cell? ⟨w.heap.size + 1 + 1, 0, none⟩ = some (vAtD v ⟨w.heap.size + 1 + 1, 0, none⟩) ∧ v.cell? ⟨w.heap.size + 1 + 1, 1, none⟩ = some (vAtD v ⟨w.heap.size + 1 + 1, 1, none⟩) ∧ v.frozen? ⟨w.heap.size + 1 + 1, 0, none⟩ = false ∧ v.frozen? ⟨w.heap.size + 1 + 1, 1, none⟩ = false) (first | with_reducible exact K1h.out _ bd2 | with_reducible exact K2h.out | exact K1h.out _ bd2 | exact K2h.out) (fail)
  go_wp2
  go_ret
  refine ⟨rfl, ?_⟩
  obtain ⟨w3, hw3⟩ : ∃ w3, ((w2.setCell ⟨w.heap.size + 1 + 1, 0, none⟩ (.int .u64 x0)).setCell ⟨w.heap.size + 1 + 1, 1, none⟩ (.int .u64 y0)) = w3 := ⟨_, rfl⟩
  rw [hw3]
  have u3 : Upd (· = w.heap.size + 1 + 1) w2 w3 := by rw [← hw3]; exact set2u _ _ _ _
  clear hw3 K1h K2h bd2 UD
  have UU : Upd (fun i => i = s ∨ i = w.heap.size + 1 ∨ i = w.heap.size + 1 + 1) W w3 := ((U1.out.mono (fun i _ e => .inl e)).trans (US.out.mono (fun i _ e => .inr (.inl e)))).trans (u3.mono (fun i _ e => .inr (.inr e)))
  have nT : ∀ i, i < B ∧ i ≠ s → ¬ (i = s ∨ i = w.heap.size + 1 ∨ i = w.heap.size + 1 + 1) := fun i hi hT => by omega
  have nT2 : ∀ g, B ≤ g ∧ g < w.heap.size → ¬ (g = s ∨ g = w.heap.size + 1 ∨ g = w.heap.size + 1 + 1) := fun g hg hT => by omega
  have hab : ∀ zz, a' = some zz → m < zz.block ∧ zz.block < t ∧ zz.block ≠ s := fun zz hz => by
    obtain ⟨z', hz', e⟩ := HBK.out zz.block ⟨zz, hz, rfl⟩
    have := SW.out.ab z' hz'
    omega
  have AA : Str w3 s (L.drop (k + 1)) a' c' := (R1.out.upd US.out (by show ¬ (s = _); omega) (fun zz hz e => by have := hab zz hz; have e : zz.block = w.heap.size + 1 := e; omega)).upd u3 (by show ¬ (s = _); omega) (fun zz hz e => by have := hab zz hz; have e : zz.block = w.heap.size + 1 + 1 := e; omega)
  have z3 := UU.size
  have ut : Upd (· = t) w3 (w3.setCell ⟨t, 10, none⟩ (.int .i64 ((k : Int) + 1))) := (Upd.refl (· = t) w3).setCell (p := ⟨t, 10, none⟩) (.inl rfl) _
  have S4 : SS (w3.setCell ⟨t, 10, none⟩ (.int .i64 ((k : Int) + 1))) b t c p q m s d x y z B L (some ⟨qa, oa, none⟩) cl R rp np rq nq S (k + 1) vx vy a' c' := by
    refine ⟨SW.out.o, by have := SW.out.lt; have := ut.size; omega, setc_ne' ((UU.cell (p := ⟨t, 0, none⟩) SW.out.lt (nT t (by omega))).trans SW.out.t0) (by omega), setc_ne' ((UU.cell (p := ⟨t, 1, none⟩) SW.out.lt (nT t (by omega))).trans SW.out.t1) (by omega), setc_ne' ((UU.cell (p := ⟨t, 2, none⟩) SW.out.lt (nT t (by omega))).trans SW.out.t2) (by omega), setc_ne' ((UU.cell (p := ⟨t, 3, none⟩) SW.out.lt (nT t (by omega))).trans SW.out.t3) (by omega), setc_ne' ((UU.cell (p := ⟨t, 4, none⟩) SW.out.lt (nT t (by omega))).trans SW.out.t4) (by omega), setc_ne' ((UU.cell (p := ⟨t, 5, none⟩) SW.out.lt (nT t (by omega))).trans SW.out.t5) (by omega), setc_ne' ((UU.cell (p := ⟨t, 6, none⟩) SW.out.lt (nT t (by omega))).trans SW.out.t6) (by omega), setc_ne' ((UU.cell (p := ⟨t, 7, none⟩) SW.out.lt (nT t (by omega))).trans SW.out.t7) (by omega), setc_ne' ((UU.cell (p := ⟨t, 8, none⟩) SW.out.lt (nT t (by omega))).trans SW.out.t8) (by omega), setc_ne' ((UU.cell (p := ⟨t, 9, none⟩) SW.out.lt (nT t (by omega))).trans SW.out.t9) (by omega), ?_, ?_, (SW.out.C.upd UU (nT c (by omega))).upd ut (by show ¬ (c = t); omega), (SW.out.P.upd UU (nT p (by omega))).upd ut (by show ¬ (p = t); omega), (SW.out.Q.upd UU (nT q (by omega))).upd ut (by show ¬ (q = t); omega), (SW.out.M.upd UU (nT m (by omega))).upd ut (by show ¬ (m = t); omega), AA.upd ut (by show ¬ (s = t); omega) (fun zz hz e => by have := hab zz hz; have e : zz.block = t := e; omega), (SW.out.D.upd UU (nT d (by omega))).upd ut (by show ¬ (d = t); omega), (SW.out.X.upd2 UU (nT x (by omega)) (fun g hg => nT2 g (HS.out.X.own.lo g hg))).upd2 ut (by show ¬ (x = t); omega) (fun g hg e => by have := HS.out.X.own.lo g hg; have e : g = t := e; omega), (SW.out.Y.upd2 UU (nT y (by omega)) (fun g hg => nT2 g (HS.out.Y.own.lo g hg))).upd2 ut (by show ¬ (y = t); omega) (fun g hg e => by have := HS.out.Y.own.lo g hg; have e : g = t := e; omega), (SW.out.Z.upd UU (nT z (by omega))).upd ut (by show ¬ (z = t); omega), (SW.out.l.upd UU (fun x' hx hn => by have := SW.out.lb x' hx hn; exact nT _ (by omega))).upd ut (fun x' hx hn e => by have := SW.out.lb x' hx hn; have e : x'.block = t := e; omega), SW.out.lb, hab, hk, by have := SW.out.hB; have := ut.size; omega, SW.out.ne⟩
    · have := setc_eq' (u := .int .i64 ((k : Int) + 1)) ((UU.cell (p := ⟨t, 10, none⟩) SW.out.lt (nT t (by omega))).trans SW.out.t10)
      rw [Int.natCast_add]
      exact this
    · have := (UU.frozen (p := ⟨t, 10, none⟩) SW.out.lt (nT t (by omega))).trans SW.out.f10
      simpa using this
  have bd5 := ((Below.refl (w3.setCell ⟨t, 10, none⟩ (.int .i64 ((k : Int) + 1))).heap.size (w3.setCell ⟨t, 10, none⟩ (.int .i64 ((k : Int) + 1)))).drew).drew
  refine ⟨_, _, _, _, _, _, _, _, _, _, _, S4.bel bd5, ?_⟩
  have hzz := ut.size
  exact (((BW.out.mono (by omega)).trans (UU.below (by omega) (fun i hi => by rcases hi with hi | hi | hi <;> omega))).trans (ut.below (by omega) (fun i hi => by have hi : i = t := hi; omega))).trans (bd5.mono (by omega))
set_option maxRecDepth 100000 in
set_option maxHeartbeats 2000000 in
theorem does6af (b t c p q m s d x y z B : Nat) (L : List (Int × Int)) (al : Option Addr) (cl : Nat) (R rp : Int) (np : Nat) (rq : Int) (nq : Nat) (S : Int) (k : Nat) (vx vy : Value) (ax : Option Addr) (cs : Nat) (hk : k < L.length) (N : Int) (hN : 0 ≤ N ∧ N ≤ 18446744073709551615) (w : World) (h : SS w b t c p q m s d x y z B L al cl R rp np rq nq S k vx vy ax cs) :
    Calls Try.prog 10 #[.pointer (some ⟨t, 0, none⟩), .agg #[.int .i64 6, .bool false, .int .u64 N]] w fun e w' => e = .returned (.bool true) ∧ Left w b t c p q m s d x y z B L al cl w' := by
  obtain ⟨o1, o2, o3, o4, o5, o6, o7, o8, o9, o10, o11⟩ := h.o
  have hBw := h.hB
  have ht := h.lt
  have HS := hide h
  obtain ⟨W, hW⟩ : ∃ W, ((w.alloc (.cells #[.int .i64 6, .bool false, .int .u64 N] 53)).alloc (.cells #[.int .u64 0, .int .u64 0] 44)).alloc (.cells #[.int .u64 0, .int .u64 0] 44) = W := ⟨_, rfl⟩
  have bW : Below w.heap.size w W := by rw [← hW]; exact (((Below.refl _ w).alloc (Nat.le_refl _) _).alloc (by simp) _).alloc (by simp; omega) _
  have zW : W.heap.size = w.heap.size + 3 := by rw [← hW]; simp
  have xx : ∀ i u, (w.alloc (.cells #[.int .i64 6, .bool false, .int .u64 N] 53)).cell? ⟨w.heap.size, i, none⟩ = some u → W.cell? ⟨w.heap.size, i, none⟩ = some u := fun i u hu => by
    rw [← hW]
    exact (World.cell?_alloc_past _ _ _ (by simp; omega)).trans ((World.cell?_alloc_past _ _ _ (by simp)).trans hu)
  have x0 := xx 0 (.int .i64 6) (by simp)
  have x1 := xx 1 (.bool false) (by simp)
  have ya : W.cell? ⟨w.heap.size + 1, 0, none⟩ = some (.int .u64 0) ∧ W.cell? ⟨w.heap.size + 1, 1, none⟩ = some (.int .u64 0) ∧ W.frozen? ⟨w.heap.size + 1, 0, none⟩ = false ∧ W.frozen? ⟨w.heap.size + 1, 1, none⟩ = false ∧ W.cell? ⟨w.heap.size + 1 + 1, 0, none⟩ = some (.int .u64 0) ∧ W.cell? ⟨w.heap.size + 1 + 1, 1, none⟩ = some (.int .u64 0) ∧ W.frozen? ⟨w.heap.size + 1 + 1, 0, none⟩ = false ∧ W.frozen? ⟨w.heap.size + 1 + 1, 1, none⟩ = false := by
    have := box2 (w.alloc (.cells #[.int .i64 6, .bool false, .int .u64 N] 53)) 44
    rw [World.size_alloc, hW] at this
    exact this
  have SW := hide (h.bel bW)
  have BW := hide bW
  have YA := hide ya
  have q0 := fun (h l : Int) (w : World) => eql_draw h l h l w
  simp only [beq_self_eq_true, Bool.and_self] at q0
  have t4 := SW.out.t4
  have hL1 := h.l.cap
  have hL2 := h.l.max
  unfold maxLen at hL2
  obtain ⟨x0, y0, hg⟩ : ∃ x0 y0, L[k]? = some (x0, y0) := ⟨L[k].1, L[k].2, List.getElem?_eq_getElem hk⟩
  have hdr : L.drop k = (x0, y0) :: L.drop (k + 1) := by
    obtain ⟨_, e⟩ := List.getElem?_eq_some_iff.1 hg
    rw [List.drop_eq_getElem_cons hk, e]
  have HDR := hide hdr
  have hST : Str W s ((x0, y0) :: L.drop (k + 1)) ax cs := by rw [← hdr]; exact SW.out.A
  have c1 := hide (stream_next s x0 y0 (L.drop (k + 1)) ax cs W hST)
  obtain ⟨al', qa, oa, hal, hqa, e0, e1⟩ : ∃ (al' : Addr) (qa oa : Nat), al = some ⟨qa, oa, none⟩ ∧ qa < b ∧ W.cell? ⟨qa, oa + k * 2, none⟩ = some (.int .u64 x0) ∧ W.cell? ⟨qa, oa + k * 2 + 1, none⟩ = some (.int .u64 y0) := by
    cases hal : al with
    | none => have := (SW.out.l.nil hal).1; rw [this] at hk; simp at hk
    | some xx' =>
      rcases SW.out.l.at_ xx' hal with ⟨e, _⟩ | ⟨q', o', rfl, hq, hl⟩
      · rw [e] at hk; simp at hk
      · exact ⟨⟨q', o', none⟩, q', o', rfl, SW.out.lb _ hal (by intro e; rw [e] at hg; simp at hg), (hl k _ hg).1, (hl k _ hg).2⟩
  subst hal
  have E0 := hide (And.intro e0 e1)
  clear e0 e1 hg hdr hST
  clear h bW xx ya
  go_enter Try.func10, Try.ntmps10
  go_wp2_with fail
  refine c1.out.mono ?_
  rintro e w1 ⟨rfl, ⟨a', c', r1, hbk⟩, u1⟩
  have R1 := hide r1
  have U1 := hide u1
  have HBK := hide hbk
  have hp : ∀ i, i < W.heap.size → i ≠ s → ∀ j, w1.cell? ⟨i, j, none⟩ = W.cell? ⟨i, j, none⟩ ∧ w1.frozen? ⟨i, j, none⟩ = W.frozen? ⟨i, j, none⟩ := fun i hi hn j => ⟨u1.cell (p := ⟨i, j, none⟩) hi hn, u1.frozen (p := ⟨i, j, none⟩) hi hn⟩
  obtain ⟨a0, a1, g0, g1, b0, b1, h0, h1⟩ := YA.out
  have a0 := ((hp (w.heap.size + 1) (by omega) (by omega) 0).1).trans a0
  have a1 := ((hp (w.heap.size + 1) (by omega) (by omega) 1).1).trans a1
  have g0 := ((hp (w.heap.size + 1) (by omega) (by omega) 0).2).trans g0
  have g1 := ((hp (w.heap.size + 1) (by omega) (by omega) 1).2).trans g1
  have b0 := ((hp (w.heap.size + 1 + 1) (by omega) (by omega) 0).1).trans b0
  have b1 := ((hp (w.heap.size + 1 + 1) (by omega) (by omega) 1).1).trans b1
  have h0 := ((hp (w.heap.size + 1 + 1) (by omega) (by omega) 0).2).trans h0
  have h1 := ((hp (w.heap.size + 1 + 1) (by omega) (by omega) 1).2).trans h1
  have t9 := ((hp t (by omega) (by omega) 9).1).trans SW.out.t9
  have t10 := ((hp t (by omega) (by omega) 10).1).trans SW.out.t10
  have f10 := ((hp t (by omega) (by omega) 10).2).trans SW.out.f10
  have e0 := ((hp qa (by omega) (by omega) (oa + k * 2)).1).trans E0.out.1
  have e1 := ((hp qa (by omega) (by omega) (oa + k * 2 + 1)).1).trans E0.out.2
  have n1 : t ≠ w.heap.size + 1 := by omega
  have n2 : t ≠ w.heap.size + 1 + 1 := by omega
  have n3 : qa ≠ w.heap.size + 1 := by omega
  have n4 : qa ≠ w.heap.size + 1 + 1 := by omega
  have n5 : w.heap.size + 1 ≠ w.heap.size + 1 + 1 := by omega
  have n6 : w.heap.size + 1 + 1 ≠ w.heap.size + 1 := by omega
  have z1 := u1.size
  clear hp u1 r1 hbk hW t4 c1
  obtain ⟨w2, hw2⟩ : ∃ w2, ((w1.setCell ⟨w.heap.size + 1, 0, none⟩ (.int .u64 x0)).setCell ⟨w.heap.size + 1, 1, none⟩ (.int .u64 y0)) = w2 := ⟨_, rfl⟩
  have uS : Upd (· = w.heap.size + 1) w1 w2 := by rw [← hw2]; exact set2u _ _ _ _
  have y0' : w2.cell? ⟨w.heap.size + 1, 0, none⟩ = some (.int .u64 x0) := by rw [← hw2]; exact setc_ne' (setc_eq' a0) (by omega)
  have y1' : w2.cell? ⟨w.heap.size + 1, 1, none⟩ = some (.int .u64 y0) := by rw [← hw2]; exact setc_eq' (setc_ne' a1 (by omega))
  have kk : ∀ i, i < w1.heap.size → i ≠ w.heap.size + 1 → ∀ j, w2.cell? ⟨i, j, none⟩ = w1.cell? ⟨i, j, none⟩ ∧ w2.frozen? ⟨i, j, none⟩ = w1.frozen? ⟨i, j, none⟩ := fun i hi hn j => ⟨uS.cell (p := ⟨i, j, none⟩) hi hn, uS.frozen (p := ⟨i, j, none⟩) hi hn⟩
  have b0 := (kk _ (by omega) n6 0).1.trans b0
  have b1 := (kk _ (by omega) n6 1).1.trans b1
  have h0 := (kk _ (by omega) n6 0).2.trans h0
  have h1 := (kk _ (by omega) n6 1).2.trans h1
  have t9 := (kk _ (by omega) n1 9).1.trans t9
  have t10 := (kk _ (by omega) n1 10).1.trans t10
  have f10 := (kk _ (by omega) n1 10).2.trans f10
  have e0 := (kk _ (by omega) n3 (oa + k * 2)).1.trans e0
  have e1 := (kk _ (by omega) n3 (oa + k * 2 + 1)).1.trans e1
  have US := hide uS
  have z2 := uS.size
  have hkz : decide ((k : Int) < (L.length : Int)) = true := by simp; omega
  clear kk uS
  go_wp2_with fail
  clear hw2 a0 a1 g0 g1
  go_region_held3 (fun v => v.cell? ⟨t, 9, none⟩ = some (.slice (some ⟨qa, oa, none⟩) L.length cl) ∧ v.cell? ⟨t, 10, none⟩ = some (.int .i64 (k : Int))) (first | go_keep | (exact ⟨by go_simp, by go_simp⟩)) (fail)
  have u5 := set2u w2 (w.heap.size + 1 + 1) (.int .u64 x0) (.int .u64 y0)
  have bd := (((Below.refl ((w2.setCell ⟨w.heap.size + 1 + 1, 0, none⟩ (.int .u64 x0)).setCell ⟨w.heap.size + 1 + 1, 1, none⟩ (.int .u64 y0)).heap.size ((w2.setCell ⟨w.heap.size + 1 + 1, 0, none⟩ (.int .u64 x0)).setCell ⟨w.heap.size + 1 + 1, 1, none⟩ (.int .u64 y0))).drew).drew)
  have ud : Upd (· = w.heap.size + 1 + 1) w2 ((w2.setCell ⟨w.heap.size + 1 + 1, 0, none⟩ (.int .u64 x0)).setCell ⟨w.heap.size + 1 + 1, 1, none⟩ (.int .u64 y0)).drew.drew := u5.trans (Upd.of_below bd)
  have hz5 := u5.size
  have K2 : ((w2.setCell ⟨w.heap.size + 1 + 1, 0, none⟩ (.int .u64 x0)).setCell ⟨w.heap.size + 1 + 1, 1, none⟩ (.int .u64 y0)).drew.drew.cell? ⟨t, 9, none⟩ = some (.slice (some ⟨qa, oa, none⟩) L.length cl) ∧ ((w2.setCell ⟨w.heap.size + 1 + 1, 0, none⟩ (.int .u64 x0)).setCell ⟨w.heap.size + 1 + 1, 1, none⟩ (.int .u64 y0)).drew.drew.cell? ⟨t, 10, none⟩ = some (.int .i64 (k : Int)) ∧ ((w2.setCell ⟨w.heap.size + 1 + 1, 0, none⟩ (.int .u64 x0)).setCell ⟨w.heap.size + 1 + 1, 1, none⟩ (.int .u64 y0)).drew.drew.cell? ⟨qa, oa + k * 2, none⟩ = some (.int .u64 x0) ∧ ((w2.setCell ⟨w.heap.size + 1 + 1, 0, none⟩ (.int .u64 x0)).setCell ⟨w.heap.size + 1 + 1, 1, none⟩ (.int .u64 y0)).drew.drew.cell? ⟨qa, oa + k * 2 + 1, none⟩ = some (.int .u64 y0) ∧ ((w2.setCell ⟨w.heap.size + 1 + 1, 0, none⟩ (.int .u64 x0)).setCell ⟨w.heap.size + 1 + 1, 1, none⟩ (.int .u64 y0)).drew.drew.cell? ⟨w.heap.size + 1 + 1, 0, none⟩ = some (vAtD ((w2.setCell ⟨w.heap.size + 1 + 1, 0, none⟩ (.int .u64 x0)).setCell ⟨w.heap.size + 1 + 1, 1, none⟩ (.int .u64 y0)).drew.drew ⟨w.heap.size + 1 + 1, 0, none⟩) ∧ ((w2.setCell ⟨w.heap.size + 1 + 1, 0, none⟩ (.int .u64 x0)).setCell ⟨w.heap.size + 1 + 1, 1, none⟩ (.int .u64 y0)).drew.drew.cell? ⟨w.heap.size + 1 + 1, 1, none⟩ = some (vAtD ((w2.setCell ⟨w.heap.size + 1 + 1, 0, none⟩ (.int .u64 x0)).setCell ⟨w.heap.size + 1 + 1, 1, none⟩ (.int .u64 y0)).drew.drew ⟨w.heap.size + 1 + 1, 1, none⟩) ∧ ((w2.setCell ⟨w.heap.size + 1 + 1, 0, none⟩ (.int .u64 x0)).setCell ⟨w.heap.size + 1 + 1, 1, none⟩ (.int .u64 y0)).drew.drew.frozen? ⟨w.heap.size + 1 + 1, 0, none⟩ = false ∧ ((w2.setCell ⟨w.heap.size + 1 + 1, 0, none⟩ (.int .u64 x0)).setCell ⟨w.heap.size + 1 + 1, 1, none⟩ (.int .u64 y0)).drew.drew.frozen? ⟨w.heap.size + 1 + 1, 1, none⟩ = false := ⟨(ud.cell (p := ⟨t, 9, none⟩) (by show t < _; omega) n2).trans t9, (ud.cell (p := ⟨t, 10, none⟩) (by show t < _; omega) n2).trans t10, (ud.cell (p := ⟨qa, oa + k * 2, none⟩) (by show qa < _; omega) n4).trans e0, (ud.cell (p := ⟨qa, oa + k * 2 + 1, none⟩) (by show qa < _; omega) n4).trans e1, vAtD_of ((bd.cell (p := ⟨w.heap.size + 1 + 1, 0, none⟩) (by show w.heap.size + 1 + 1 < _; omega)).trans (setc_ne' (setc_eq' b0) (by omega))), vAtD_of ((bd.cell (p := ⟨w.heap.size + 1 + 1, 1, none⟩) (by show w.heap.size + 1 + 1 < _; omega)).trans (setc_eq' (setc_ne' b1 (by omega)))), (bd.frozen (p := ⟨w.heap.size + 1 + 1, 0, none⟩) (by show w.heap.size + 1 + 1 < _; omega)).trans (by simpa using h0), (bd.frozen (p := ⟨w.heap.size + 1 + 1, 1, none⟩) (by show w.heap.size + 1 + 1 < _; omega)).trans (by simpa using h1)⟩
  have K2h := hide K2
  have K1h : Hid (∀ v, Below w2.heap.size w2 v → (v.cell? ⟨t, 9, none⟩ = some (.slice (some ⟨qa, oa, none⟩) L.length cl) ∧ v.cell? ⟨t, 10, none⟩ = some (.int .i64 (k : Int)) ∧ v.cell? ⟨qa, oa + k * 2, none⟩ = some (.int .u64 x0) ∧ v.cell? ⟨qa, oa + k * 2 + 1, none⟩ = some (.int .u64 y0) ∧ v.cell? ⟨w.heap.size + 1 + 1, 0, none⟩ = some (vAtD v ⟨w.heap.size + 1 + 1, 0, none⟩) ∧ v.cell? ⟨w.heap.size + 1 + 1, 1, none⟩ = some (vAtD v ⟨w.heap.size + 1 + 1, 1, none⟩) ∧ v.frozen? ⟨w.heap.size + 1 + 1, 0, none⟩ = false ∧ v.frozen? ⟨w.heap.size + 1 + 1, 1, none⟩ = false)) := fun v b => ⟨(b.cell (p := ⟨t, 9, none⟩) (by show t < _; omega)).trans t9, (b.cell (p := ⟨t, 10, none⟩) (by show t < _; omega)).trans t10, (b.cell (p := ⟨qa, oa + k * 2, none⟩) (by show qa < _; omega)).trans e0, (b.cell (p := ⟨qa, oa + k * 2 + 1, none⟩) (by show qa < _; omega)).trans e1, vAtD_of ((b.cell (p := ⟨w.heap.size + 1 + 1, 0, none⟩) (by show w.heap.size + 1 + 1 < _; omega)).trans b0), vAtD_of ((b.cell (p := ⟨w.heap.size + 1 + 1, 1, none⟩) (by show w.heap.size + 1 + 1 < _; omega)).trans b1), (b.frozen (p := ⟨w.heap.size + 1 + 1, 0, none⟩) (by show w.heap.size + 1 + 1 < _; omega)).trans h0, (b.frozen (p := ⟨w.heap.size + 1 + 1, 1, none⟩) (by show w.heap.size + 1 + 1 < _; omega)).trans h1⟩
  have bd2 := ((Below.refl w2.heap.size w2).drew).drew
  clear K2
  have UD := hide ud
  clear u5 bd ud
  go_wp2_with fail
  go_region_held3 (fun v => v.cell? ⟨t, 9, none⟩ = some (.slice (some ⟨qa, oa, none⟩) L.length cl) ∧ v.cell? ⟨t, 10, none⟩ = some (.int .i64 (k : Int)) ∧ v.cell? ⟨qa, oa + k * 2, none⟩ = some (.int .u64 x0) ∧ v.cell? ⟨qa, oa + k * 2 + 1, none⟩ = some (.int .u64 y0) ∧ v.cell? ⟨w.heap.size + 1 + 1, 0, none⟩ = some (vAtD v ⟨w.heap.size + 1 + 1, 0, none⟩) ∧ v.cell? ⟨w.heap.size + 1 + 1, 1, none⟩ = some (vAtD v ⟨w.heap.size + 1 + 1, 1, none⟩) ∧ v.frozen? ⟨w.heap.size + 1 + 1, 0, none⟩ = false ∧ v.frozen? ⟨w.heap.size + 1 + 1, 1, none⟩ = false) (first | with_reducible exact K1h.out _ bd2 | with_reducible exact K2h.out | exact K1h.out _ bd2 | exact K2h.out) (fail)
  go_wp2
  go_ret
  refine ⟨rfl, ?_⟩
  obtain ⟨w3, hw3⟩ : ∃ w3, ((w2.setCell ⟨w.heap.size + 1 + 1, 0, none⟩ (.int .u64 x0)).setCell ⟨w.heap.size + 1 + 1, 1, none⟩ (.int .u64 y0)) = w3 := ⟨_, rfl⟩
  rw [hw3]
  have u3 : Upd (· = w.heap.size + 1 + 1) w2 w3 := by rw [← hw3]; exact set2u _ _ _ _
  clear hw3 K1h K2h bd2 UD
  have UU : Upd (fun i => i = s ∨ i = w.heap.size + 1 ∨ i = w.heap.size + 1 + 1) W w3 := ((U1.out.mono (fun i _ e => .inl e)).trans (US.out.mono (fun i _ e => .inr (.inl e)))).trans (u3.mono (fun i _ e => .inr (.inr e)))
  have nT : ∀ i, i < B ∧ i ≠ s → ¬ (i = s ∨ i = w.heap.size + 1 ∨ i = w.heap.size + 1 + 1) := fun i hi hT => by omega
  have nT2 : ∀ g, B ≤ g ∧ g < w.heap.size → ¬ (g = s ∨ g = w.heap.size + 1 ∨ g = w.heap.size + 1 + 1) := fun g hg hT => by omega
  have hab : ∀ zz, a' = some zz → m < zz.block ∧ zz.block < t ∧ zz.block ≠ s := fun zz hz => by
    obtain ⟨z', hz', e⟩ := HBK.out zz.block ⟨zz, hz, rfl⟩
    have := SW.out.ab z' hz'
    omega
  have AA : Str w3 s (L.drop (k + 1)) a' c' := (R1.out.upd US.out (by show ¬ (s = _); omega) (fun zz hz e => by have := hab zz hz; have e : zz.block = w.heap.size + 1 := e; omega)).upd u3 (by show ¬ (s = _); omega) (fun zz hz e => by have := hab zz hz; have e : zz.block = w.heap.size + 1 + 1 := e; omega)
  have z3 := UU.size
  have ut : Upd (· = t) w3 (w3.setCell ⟨t, 10, none⟩ (.int .i64 ((k : Int) + 1))) := (Upd.refl (· = t) w3).setCell (p := ⟨t, 10, none⟩) (.inl rfl) _
  have S4 : SS (w3.setCell ⟨t, 10, none⟩ (.int .i64 ((k : Int) + 1))) b t c p q m s d x y z B L (some ⟨qa, oa, none⟩) cl R rp np rq nq S (k + 1) vx vy a' c' := by
    refine ⟨SW.out.o, by have := SW.out.lt; have := ut.size; omega, setc_ne' ((UU.cell (p := ⟨t, 0, none⟩) SW.out.lt (nT t (by omega))).trans SW.out.t0) (by omega), setc_ne' ((UU.cell (p := ⟨t, 1, none⟩) SW.out.lt (nT t (by omega))).trans SW.out.t1) (by omega), setc_ne' ((UU.cell (p := ⟨t, 2, none⟩) SW.out.lt (nT t (by omega))).trans SW.out.t2) (by omega), setc_ne' ((UU.cell (p := ⟨t, 3, none⟩) SW.out.lt (nT t (by omega))).trans SW.out.t3) (by omega), setc_ne' ((UU.cell (p := ⟨t, 4, none⟩) SW.out.lt (nT t (by omega))).trans SW.out.t4) (by omega), setc_ne' ((UU.cell (p := ⟨t, 5, none⟩) SW.out.lt (nT t (by omega))).trans SW.out.t5) (by omega), setc_ne' ((UU.cell (p := ⟨t, 6, none⟩) SW.out.lt (nT t (by omega))).trans SW.out.t6) (by omega), setc_ne' ((UU.cell (p := ⟨t, 7, none⟩) SW.out.lt (nT t (by omega))).trans SW.out.t7) (by omega), setc_ne' ((UU.cell (p := ⟨t, 8, none⟩) SW.out.lt (nT t (by omega))).trans SW.out.t8) (by omega), setc_ne' ((UU.cell (p := ⟨t, 9, none⟩) SW.out.lt (nT t (by omega))).trans SW.out.t9) (by omega), ?_, ?_, (SW.out.C.upd UU (nT c (by omega))).upd ut (by show ¬ (c = t); omega), (SW.out.P.upd UU (nT p (by omega))).upd ut (by show ¬ (p = t); omega), (SW.out.Q.upd UU (nT q (by omega))).upd ut (by show ¬ (q = t); omega), (SW.out.M.upd UU (nT m (by omega))).upd ut (by show ¬ (m = t); omega), AA.upd ut (by show ¬ (s = t); omega) (fun zz hz e => by have := hab zz hz; have e : zz.block = t := e; omega), (SW.out.D.upd UU (nT d (by omega))).upd ut (by show ¬ (d = t); omega), (SW.out.X.upd2 UU (nT x (by omega)) (fun g hg => nT2 g (HS.out.X.own.lo g hg))).upd2 ut (by show ¬ (x = t); omega) (fun g hg e => by have := HS.out.X.own.lo g hg; have e : g = t := e; omega), (SW.out.Y.upd2 UU (nT y (by omega)) (fun g hg => nT2 g (HS.out.Y.own.lo g hg))).upd2 ut (by show ¬ (y = t); omega) (fun g hg e => by have := HS.out.Y.own.lo g hg; have e : g = t := e; omega), (SW.out.Z.upd UU (nT z (by omega))).upd ut (by show ¬ (z = t); omega), (SW.out.l.upd UU (fun x' hx hn => by have := SW.out.lb x' hx hn; exact nT _ (by omega))).upd ut (fun x' hx hn e => by have := SW.out.lb x' hx hn; have e : x'.block = t := e; omega), SW.out.lb, hab, hk, by have := SW.out.hB; have := ut.size; omega, SW.out.ne⟩
    · have := setc_eq' (u := .int .i64 ((k : Int) + 1)) ((UU.cell (p := ⟨t, 10, none⟩) SW.out.lt (nT t (by omega))).trans SW.out.t10)
      rw [Int.natCast_add]
      exact this
    · have := (UU.frozen (p := ⟨t, 10, none⟩) SW.out.lt (nT t (by omega))).trans SW.out.f10
      simpa using this
  have bd5 := ((Below.refl (w3.setCell ⟨t, 10, none⟩ (.int .i64 ((k : Int) + 1))).heap.size (w3.setCell ⟨t, 10, none⟩ (.int .i64 ((k : Int) + 1)))).drew).drew
  refine ⟨_, _, _, _, _, _, _, _, _, _, _, S4.bel bd5, ?_⟩
  have hzz := ut.size
  exact (((BW.out.mono (by omega)).trans (UU.below (by omega) (fun i hi => by rcases hi with hi | hi | hi <;> omega))).trans (ut.below (by omega) (fun i hi => by have hi : i = t := hi; omega))).trans (bd5.mono (by omega))

end Go.Proofs.Ytdgelllmngdpkaa
