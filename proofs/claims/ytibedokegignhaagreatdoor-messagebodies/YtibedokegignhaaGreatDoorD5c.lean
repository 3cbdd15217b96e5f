import Derived.Test.YtibedokegignhaaGreatDoorD5b
namespace Go.Proofs.YtibedokegignhaaGreatDoor
open Go.RowKit Go.Maps
open Classical
set_option linter.unusedVariables false
set_option linter.unusedSimpArgs false
set_option maxRecDepth 100000 in
theorem us_tab7 {k : Nat} (hk : kdB (k : Int) = true) : ∀ j, j < 10 → (usL (k : Int))[j]? = some (!decide ((tabA k j : Int) = 0)) := by
  have h := inR_iff.1 hk
  have : k = 1 ∨ k = 2 ∨ k = 3 ∨ k = 4 ∨ k = 5 ∨ k = 6 ∨ k = 7 ∨ k = 8 ∨ k = 9 ∨ k = 10 ∨ k = 11 ∨ k = 12 ∨ k = 13 ∨ k = 14 := by omega
  rcases this with rfl | rfl | rfl | rfl | rfl | rfl | rfl | rfl | rfl | rfl | rfl | rfl | rfl | rfl <;> decide
theorem us_len {k : Nat} (hk : kdB (k : Int) = true) : (usL (k : Int)).length = 10 := by
  have h := inR_iff.1 hk
  have : k = 1 ∨ k = 2 ∨ k = 3 ∨ k = 4 ∨ k = 5 ∨ k = 6 ∨ k = 7 ∨ k = 8 ∨ k = 9 ∨ k = 10 ∨ k = 11 ∨ k = 12 ∨ k = 13 ∨ k = 14 := by omega
  rcases this with rfl | rfl | rfl | rfl | rfl | rfl | rfl | rfl | rfl | rfl | rfl | rfl | rfl | rfl <;> decide
theorem us_op {k : Nat} (hk : kdB (k : Int) = true) (h6 : ¬ tabA k 6 = 0) : (!decide ((tabA k 6 : Int) = 15)) = (!decide ((k : Int) = 2) && !decide ((k : Int) = 14)) := by
  have h := inR_iff.1 hk
  have : k = 1 ∨ k = 2 ∨ k = 3 ∨ k = 4 ∨ k = 5 ∨ k = 6 ∨ k = 7 ∨ k = 8 ∨ k = 9 ∨ k = 10 ∨ k = 11 ∨ k = 12 ∨ k = 13 ∨ k = 14 := by omega
  rcases this with rfl | rfl | rfl | rfl | rfl | rfl | rfl | rfl | rfl | rfl | rfl | rfl | rfl | rfl <;> revert h6 <;> decide
def rEo (op : Bool) (l : List Int) (s : Nat × Int) : En := if op then rE l s else ⟨(rI mxI l s : Int), (rI mxI l (sI mxI l s) : Int), ⟨0, 0, ⟨#[]⟩⟩⟩
def sEo (op : Bool) (l : List Int) (s : Nat × Int) : Nat × Int := if op then sE l s else s2 l s
def enV (e : En) : Value := .agg #[.int .i64 e.c, .int .i64 e.n, .int .i64 e.o.k, .int .i64 e.o.s, .string e.o.v]
theorem qentry2 (N b : Nat) (op : Bool) (l : List Int) (s : Nat × Int) (w : World) (h : QD N w b l s) : Calls Tryz.prog 56 #[.pointer (some ⟨b, 0, none⟩), .bool op] w fun e w' => e = .returned (enV (rEo op l s)) ∧ QD N w' b l (sEo op l s) ∧ UB b w w' := by
  refine (qentry_any N b op l s w h).mono ?_
  cases op <;> rintro e w' ⟨rfl, h2, h3⟩ <;> exact ⟨rfl, h2, h3⟩
theorem rCol6 (l : List Int) (x : Rst) (op : Bool) : rCol l x 6 op = ⟨{ x.m with e := rEo op l x.s }, x.L, x.D, sEo op l x.s⟩ := by
  cases op <;> rfl
theorem QD.ldErr {N : Nat} {w : World} {b : Nat} {l : List Int} {s : Nat × Int} (h : QD N w b l s) : (Instr.loadAt 3 (.pointer (some ⟨b, 2, none⟩))).run Tryz.prog w = .ok (.int .i64 s.2) w := by
  obtain ⟨a, n, c, q, _⟩ := h
  have h2 := q.c2
  clear q
  go_simp
theorem faErr (b : Nat) (w : World) : (Instr.fieldAt 122 (.pointer (some ⟨b, 0, none⟩)) 2).run Tryz.prog w = .ok (.pointer (some ⟨b, 2, none⟩)) w := by go_simp
theorem bdQ (a : Option Addr) (n c : Nat) (w : World) : (Instr.build 122 #[(0, .slice a n c)]).run Tryz.prog w = .ok (.agg #[.slice a n c, .int .i64 0, .int .i64 0]) w := by go_simp
theorem bxQ (a : Option Addr) (n c : Nat) (w : World) : (Instr.box 122 (.agg #[.slice a n c, .int .i64 0, .int .i64 0])).run Tryz.prog w = .ok (.pointer (some ⟨w.heap.size, 0, none⟩)) (w.alloc (.cells #[.slice a n c, .int .i64 0, .int .i64 0] 122)) := by
  go_simp
  first | done | rfl
theorem QD.new {B : Nat} {w : World} {a : Option Addr} {n c : Nat} {l : List Int} (h : Wi.Own B w (.slice a n c) l) (hb : ∀ z ∈ l, 0 ≤ z ∧ z < 256) (hl : l.length ≤ 9223372036854775807) : QD (w.heap.size + 1) (w.alloc (.cells #[.slice a n c, .int .i64 0, .int .i64 0] 122)) w.heap.size l (0, 0) := by
  obtain ⟨a', n', c', e, hs, ha⟩ := Wi.Own.hs h hb
  injection e with e1 e2 e3
  subst e1 e2 e3
  have hb' := (Below.refl w.heap.size w).alloc (Nat.le_refl _) (.cells #[.slice a n c, .int .i64 0, .int .i64 0] 122)
  have hn := hs.len
  refine ⟨a, n, c, ⟨by simp, by go_simp, by go_simp, by go_simp, by go_simp, by go_simp, Nat.zero_le _⟩, hs.later hb', by omega, by omega, by simp, fun x hx h0 => ?_⟩
  rcases h.2 with ⟨_, h2⟩ | ⟨g, cap, cur, h1, h2, h3, _⟩
  · omega
  · injection h1 with h4 _ _
    rw [h4] at hx
    cases hx
    have hg : g < w.heap.size := (Array.getElem?_eq_some_iff.1 h3).1
    exact ⟨g, 0, rfl, by omega, by omega⟩
theorem qd_End (N b : Nat) (l : List Int) (s : Nat × Int) (w : World) (h : QD N w b l s) : Calls Tryz.prog 58 #[.pointer (some ⟨b, 0, none⟩)] w fun e w' => e = .returned (.int .i64 (Wi.endErr l.length s.1 s.2)) ∧ Below w.heap.size w w' := by
  obtain ⟨a, n, c, q, hh, hn, _⟩ := h
  have := Wi.rq_end b a n c s.1 s.2 w q hn
  rw [← hh.len] at this
  refine this.mono ?_
  rintro e w' ⟨rfl, k, rfl⟩
  exact ⟨rfl, belN (Below.refl _ _) k⟩
def yJ : Lay Int := ⟨3, 103, 1, 8, fun x => [.int .i64 x], 0⟩
theorem kJ : yJ.Ok := ⟨by decide, fun x => rfl, fun x u h => by
    simp [yJ] at h
    subst h
    rfl, Tryz.underlying103, ⟨.int .i64 0, by kernel_rfl, rfl⟩⟩
theorem ixJ (g j n cu : Nat) (hj : j < n) (w : World) : (Instr.indexAt 103 (.slice (some ⟨g, 0, none⟩) n cu) (.int .i64 (j : Int))).run Tryz.prog w = .ok (.pointer (some ⟨g, j, none⟩)) w := by
  have h1 : (j : Int) < (n : Int) := by omega
  go_simp
theorem ldJ {w : World} {g j : Nat} {z : Int} (h : w.cell? ⟨g, j, none⟩ = some (.int .i64 z)) : (Instr.loadAt 3 (.pointer (some ⟨g, j, none⟩))).run Tryz.prog w = .ok (.int .i64 z) w := by go_simp
theorem stJ {w : World} {g j : Nat} {y : Value} (h : w.cell? ⟨g, j, none⟩ = some y) (hf : w.frozen? ⟨g, j, none⟩ = false) (z : Int) : (Instr.storeAt 3 (.pointer (some ⟨g, j, none⟩)) (.int .i64 z)).run Tryz.prog w = .ok () (w.setCell ⟨g, j, none⟩ (.int .i64 z)) := by go_simp
theorem OwnY.intJ {B : Nat} {w : World} {g n c : Nat} {L : List Int} (h : OwnY yJ B w (.slice (some ⟨g, 0, none⟩) n c) L) {j : Nat} {x : Int} (hx : L[j]? = some x) : w.cell? ⟨g, j, none⟩ = some (.int .i64 x) := by
  have := OwnY.cell kJ h j x hx 0 _ rfl
  rw [show j * yJ.k + 0 = j by show j * 1 + 0 = j; omega] at this
  exact this
theorem OwnY.setJ {B : Nat} {w : World} {g n c : Nat} {L : List Int} (h : OwnY yJ B w (.slice (some ⟨g, 0, none⟩) n c) L) {j : Nat} (hj : j < L.length) (x : Int) : OwnY yJ B (w.setCell ⟨g, j, none⟩ (.int .i64 x)) (.slice (some ⟨g, 0, none⟩) n c) (L.set j x) := by
  have := OwnY.set1 kJ h (List.getElem?_eq_getElem hj) x 0 (.int .i64 x) (by decide) rfl
  rw [show j * yJ.k + 0 = j by show j * 1 + 0 = j; omega] at this
  exact this
theorem run_mk5 (w : World) : ∃ w', (Instr.makeSlice 103 (.int .i64 5) (.int .i64 5)).run Tryz.prog w = .ok (.slice (some ⟨w.heap.size, 0, none⟩) 5 5) w' ∧ OwnY yJ w.heap.size w' (.slice (some ⟨w.heap.size, 0, none⟩) 5 5) (List.replicate 5 0) ∧ Below w.heap.size w w' := by
  obtain ⟨zv, hinfo, hzc⟩ := kJ.info
  obtain ⟨i0, hi, hz0, hz1, hz2⟩ := info_parts hinfo
  have hr := run_make (P := Tryz.prog) w 103 3 i0 zv kJ.und hi hz0 .i64 .i64 ((5 : Nat) : Int) ((5 : Nat) : Int) (by omega) (Int.le_refl _) (room_int hz2 (show 5 * 8 ≤ 140737488355328 by omega)) (by omega)
  rw [Int.toNat_natCast, hz1] at hr
  refine ⟨_, hr, ?_, (Below.refl _ _).alloc (Nat.le_refl _) _⟩
  show OwnY yJ w.heap.size _ _ (List.replicate 5 yJ.z)
  unfold OwnY
  rw [List.length_replicate, ← madeY kJ hzc]
  exact World.ownsRow_lit w _ 5 (Nat.le_refl _) (by unfold maxLen; omega) (size_madeCells _ _)
def nmL (m : Mg) : List Int := [m.nd, m.vw, m.ls, m.p, m.cm]
theorem nm_set (l : List Int) (x : Rst) (op : Bool) {j : Nat} (hj : j < 5) : nmL (rCol l x j op).m = (nmL x.m).set j (rI mxI l x.s : Int) ∧ (rCol l x j op).s = sI mxI l x.s := by
  have : j = 0 ∨ j = 1 ∨ j = 2 ∨ j = 3 ∨ j = 4 := by omega
  rcases this with rfl | rfl | rfl | rfl | rfl <;> exact ⟨rfl, rfl⟩
def set5 (m : Mg) (y : Mg) : Mg := { m with nd := y.nd, vw := y.vw, ls := y.ls, p := y.p, cm := y.cm }
theorem rc5 (l : List Int) (k : Nat) (x : Rst) : ∀ j, j ≤ 5 → (rCols l k x j).m = set5 x.m (rCols l k x j).m ∧ (rCols l k x j).L = x.L ∧ (rCols l k x j).D = x.D
  | 0, _ => ⟨rfl, rfl, rfl⟩
  | j + 1, h => by
    obtain ⟨h1, h2, h3⟩ := rc5 l k x j (by omega)
    by_cases ht : tabA k j = 0
    · rw [rCols_none ht]
      exact ⟨h1, h2, h3⟩
    · rw [rCols_some ht]
      generalize rCols l k x j = y at *
      obtain ⟨ym, yL, yD, ys⟩ := y
      dsimp only at h1 h2 h3
      subst h2 h3
      have : j = 0 ∨ j = 1 ∨ j = 2 ∨ j = 3 ∨ j = 4 := by omega
      rcases this with rfl | rfl | rfl | rfl | rfl <;> refine ⟨?_, rfl, rfl⟩ <;> (rw [h1]; rfl)
theorem faRes (q : Nat) (w : World) : (Instr.fieldAt 30 (.pointer (some ⟨q, 8, none⟩)) 0).run Tryz.prog w = .ok (.pointer (some ⟨q, 8, none⟩)) w ∧ (Instr.fieldAt 30 (.pointer (some ⟨q, 8, none⟩)) 1).run Tryz.prog w = .ok (.pointer (some ⟨q, 9, none⟩)) w ∧ (Instr.fieldAt 30 (.pointer (some ⟨q, 8, none⟩)) 2).run Tryz.prog w = .ok (.pointer (some ⟨q, 10, none⟩)) w := ⟨by go_simp, by go_simp, by go_simp⟩
theorem bsE (e : En) (w : World) : (Instr.buildSlice 34 1 #[(0, enV e)]).run Tryz.prog w = .ok (.slice (some ⟨w.heap.size, 0, none⟩) 1 1) (w.alloc (.cells (yE.cs e).toArray 28)) := by
  unfold enV
  go_simp
  first | done | rfl
theorem bsD (d : Int × Int) (w : World) : (Instr.buildSlice 36 1 #[(0, .agg #[.int .u64 d.1, .int .u64 d.2])]).run Tryz.prog w = .ok (.slice (some ⟨w.heap.size, 0, none⟩) 1 1) (w.alloc (.cells (yD.cs d).toArray 33)) := by
  go_simp
  first | done | rfl
theorem ex_app {o : Oper} {T : Array Value} {df : List Deferred} {s x : Nat} {t : TypeId} {X Y V : Value} {w w' : World} (ho : o.op = .call { callee := .builtin .append, args := #[.tmp s, .tmp x], argTypes := #[t, t] }) (hs : (⟨T, df⟩ : Act).eval (.tmp s) = X) (hx : (⟨T, df⟩ : Act).eval (.tmp x) = Y) (hr : (Builtin.append_ #[t, t] o.type #[X, Y]).run Tryz.prog w = .ok V w') : (execOp (⟨T, df⟩ : Act).eval o).run Tryz.prog w = .ok (.value V) w' := by
  unfold execOp
  simp only [ho, resolve, invoke, builtin, Sem.run_bind, Sem.run_pure, Result.andThen_ok, List.map_toArray, List.map_cons, List.map_nil, hs, hx, hr]
theorem esL_snoc (l : List Int) (s : Nat × Int) (t : Nat) : esL l s (t + 1) = esL l s t ++ [rE l (esS l s t)] := by
  unfold esL
  rw [List.range_succ, List.map_append]
  rfl
theorem dsL_snoc (l : List Int) (s : Nat × Int) (t : Nat) : dsL l s (t + 1) = dsL l s t ++ [rD l (dsS l s t)] := by
  unfold dsL
  rw [List.range_succ, List.map_append]
  rfl
end Go.Proofs.YtibedokegignhaaGreatDoor
namespace Go.Proofs.YtibedokegignhaaGreatDoor.Wi
open Go.RowKit
set_option linter.unusedVariables false
def OpPost (f : List Int) (w : World) (e : Ending) (w' : World) : Prop := ∃ v', e = .returned (.tuple #[v', .int .i64 (opErr f)]) ∧ Own w.heap.size w' v' (opBody f) ∧ Below w.heap.size w w'
theorem OpPost.bad {f : List Int} {w w' : World} {E : Int} (h : opErr f = E) (hE : E ≠ 0) (hb : Below w.heap.size w w') : OpPost f w (.returned (.tuple #[.slice none 0 0, .int .i64 E])) w' :=
  ⟨_, ret_tup h.symm, by rw [opBody_bad (by rw [h]; exact hE)]; exact Own.nil _ _, hb⟩
theorem ro_long (a : Option Addr) (n c : Nat) (f : List Int) (w : World) (hh : Hs w a n c f) (h : 32768 < n) :
    Calls Tryz.prog 53 #[.slice a n c] w fun e w' => OpPost f w e w' := by
  have H : Hid (opErr f = 11) := by
    have : outErr f = 11 := by unfold outErr; rw [hh.len, if_pos h]
    rw [opErr_out (by rw [this]; decide), this]; exact (rfl : (11 : Int) = 11)
  clear hh
  go_enter Tryz.func53, Tryz.ntmps53
  go_wp2
  go_ret2
  exact OpPost.bad H.out (by decide) (Below.refl _ _)
theorem ro_short (a : Option Addr) (n c : Nat) (f : List Int) (w : World) (hh : Hs w a n c f) (h : n < 12) :
    Calls Tryz.prog 53 #[.slice a n c] w fun e w' => OpPost f w e w' := by
  have H : Hid (opErr f = 10) := by
    have : outErr f = 10 := by unfold outErr; rw [hh.len, if_neg (by omega), if_pos h]
    rw [opErr_out (by rw [this]; decide), this]; exact (rfl : (10 : Int) = 10)
  clear hh
  go_enter Tryz.func53, Tryz.ntmps53
  go_wp2
  go_ret2
  exact OpPost.bad H.out (by decide) (Below.refl _ _)
theorem four_head (f : List Int) (h : 12 ≤ f.length) : ∃ a b c d r, f = a :: b :: c :: d :: r := by
  match f, h with
  | a :: b :: c :: d :: r, _ => exact ⟨a, b, c, d, r, rfl⟩
set_option maxRecDepth 100000 in
set_option maxHeartbeats 1000000 in
theorem ro_magic (b o n c : Nat) (f : List Int) (w : World) (hh : Hs w (some ⟨b, o, none⟩) n c f) (h1 : 12 ≤ n) (h2 : n ≤ 32768) (hm : f.take 4 ≠ M.magic) :
    Calls Tryz.prog 53 #[.slice (some ⟨b, o, none⟩) n c] w fun e w' => OpPost f w e w' := by
  have H : Hid (opErr f = 13) := by
    have : outErr f = 13 := by unfold outErr; rw [hh.len, if_neg (by omega), if_neg (by omega), if_neg hm]
    rw [opErr_out (by rw [this]; decide), this]; exact (rfl : (13 : Int) = 13)
  have hr := hh.row _ rfl
  have hln := hh.len
  obtain ⟨x0, x1, x2, x3, r, hf⟩ := four_head f (by omega)
  have q0 : w.cell? ⟨b, o, none⟩ = some (.int .u8 x0) := by have := hr 0 (by omega); rw [Addr.add_lit, hf] at this; exact this
  have q1 : w.cell? ⟨b, o + 1, none⟩ = some (.int .u8 x1) := by have := hr 1 (by omega); rw [Addr.add_lit, hf] at this; exact this
  have q2 : w.cell? ⟨b, o + 2, none⟩ = some (.int .u8 x2) := by have := hr 2 (by omega); rw [Addr.add_lit, hf] at this; exact this
  have q3 : w.cell? ⟨b, o + 3, none⟩ = some (.int .u8 x3) := by have := hr 3 (by omega); rw [Addr.add_lit, hf] at this; exact this
  have hne : ¬ (x0 = 97 ∧ x1 = 109 ∧ x2 = 110 ∧ x3 = 49) := by
    rintro ⟨rfl, rfl, rfl, rfl⟩
    apply hm
    rw [hf]
    rfl
  have hn1 : (12 : Int) ≤ (n : Int) := by omega
  clear hr hh hln hm hf
  by_cases e0 : x0 = 97
  · subst e0
    by_cases e1 : x1 = 109
    · subst e1
      by_cases e2 : x2 = 110
      · subst e2
        have t3 : (x3 != 49) = true := by rw [bne_iff_ne]; intro h; exact hne ⟨rfl, rfl, rfl, h⟩
        clear hne
        go_enter Tryz.func53, Tryz.ntmps53
        go_wp2
        go_ret2
        exact OpPost.bad H.out (by decide) (Below.refl _ _)
      · have t2 : (x2 != 110) = true := by rw [bne_iff_ne]; exact e2
        clear hne
        go_enter Tryz.func53, Tryz.ntmps53
        go_wp2
        go_ret2
        exact OpPost.bad H.out (by decide) (Below.refl _ _)
    · have t1 : (x1 != 109) = true := by rw [bne_iff_ne]; exact e1
      clear hne
      go_enter Tryz.func53, Tryz.ntmps53
      go_wp2
      go_ret2
      exact OpPost.bad H.out (by decide) (Below.refl _ _)
  · have t0 : (x0 != 97) = true := by rw [bne_iff_ne]; exact e0
    clear hne
    go_enter Tryz.func53, Tryz.ntmps53
    go_wp2
    go_ret2
    exact OpPost.bad H.out (by decide) (Below.refl _ _)
theorem opErr_co {f : List Int} (h1 : 12 ≤ f.length) (h2 : f.length ≤ 32768) (hm : f.take 4 = M.magic) : outErr f = coErr f.length (told f) := by
  unfold outErr
  rw [if_neg (by omega), if_neg (by omega), if_pos hm]
theorem be_le (S j : Nat) (h : j < 4) : (M.be S 4).getD (3 - j) 0 = M.leAt S j := by
  rw [be4]
  match j, h with
  | 0, _ | 1, _ | 2, _ | 3, _ => rfl
theorem le_getD (S j : Nat) (h : j < 4) : (M.le S 4).getD j 0 = M.leAt S j := by
  rw [le4]
  match j, h with
  | 0, _ | 1, _ | 2, _ | 3, _ => rfl
theorem tail_sum (f : List Int) (S : Nat) (hS : S < 4294967296) (hl : f.length = 4) (hb : ∀ z ∈ f, 0 ≤ z ∧ z < 256) : f = M.le S 4 ↔ S = M.rl f := by
  constructor
  · intro h; rw [h, rl_le S hS]
  · intro h; rw [h, le_rl f hl hb]
set_option maxRecDepth 100000 in
set_option maxHeartbeats 1000000 in
theorem ro_rest (b o n c : Nat) (f : List Int) (w : World) (hh : Hs w (some ⟨b, o, none⟩) n c f) (h1 : 12 ≤ n) (h2 : n ≤ 32768) (hm : f.take 4 = M.magic) :
    Calls Tryz.prog 53 #[.slice (some ⟨b, o, none⟩) n c] w fun e w' => OpPost f w e w' := by
  have hr := hh.row _ rfl
  have hln := hh.len
  have hcap := hh.cap
  have hby := hh.byte
  have hco := opErr_co (by omega) (by omega) hm
  rw [hln] at hco
  have cell : ∀ i, i < n → w.cell? ⟨b, o + i, none⟩ = some (.int .u8 (f.getD i 0)) := by
    intro i hi
    have := hr i (by omega)
    rwa [Addr.add_lit] at this
  have q0 : w.cell? ⟨b, o, none⟩ = some (.int .u8 97) := by
    have := cell 0 (by omega)
    rw [show f.getD 0 0 = (f.take 4).getD 0 0 from by simp [List.getD], hm] at this
    exact this
  have q1 : w.cell? ⟨b, o + 1, none⟩ = some (.int .u8 109) := by
    have := cell 1 (by omega)
    rw [show f.getD 1 0 = (f.take 4).getD 1 0 from by simp [List.getD], hm] at this
    exact this
  have q2 : w.cell? ⟨b, o + 2, none⟩ = some (.int .u8 110) := by
    have := cell 2 (by omega)
    rw [show f.getD 2 0 = (f.take 4).getD 2 0 from by simp [List.getD], hm] at this
    exact this
  have q3 : w.cell? ⟨b, o + 3, none⟩ = some (.int .u8 49) := by
    have := cell 3 (by omega)
    rw [show f.getD 3 0 = (f.take 4).getD 3 0 from by simp [List.getD], hm] at this
    exact this
  have HC := hide cell
  have hn1 : (12 : Int) ≤ (n : Int) := by omega
  have HLN := hide hln
  clear cell hr hln
  go_enter Tryz.func53, Tryz.ntmps53
  go_wp2
  clear q0 q1 q2 q3
  go_loop [4, 5] (fun v i => ∃ k : Nat, 4 ≤ k ∧ k ≤ 8 ∧ i = .int .i64 k ∧ v = .int .i64 (M.rb ((f.drop 4).take (k - 4)) : Nat)) (fun _ i => 8 - (intOf i).toNat)
  case atStart => exact ⟨4, by omega, by omega, rfl, rfl⟩
  case round =>
    obtain ⟨k, hk4, hk8, rfl, rfl⟩ := hrel
    by_cases hlt : k < 8
    · have hcell := HC.out k (by omega)
      have hdl : k - 4 < (f.drop 4).length := by rw [List.length_drop, HLN.out]; omega
      have hgd : (f.drop 4).getD (k - 4) 0 = f.getD k 0 := by simp [List.getD, show 4 + (k - 4) = k from by omega]
      have hz : 0 ≤ f.getD k 0 ∧ f.getD k 0 < 256 := hby _ (by simp [List.getD, show k < f.length by rw [HLN.out]; omega])
      have hz1 : 0 ≤ f[k]?.getD 0 := hz.1
      have hz2 : f[k]?.getD 0 < 256 := hz.2
      have hv : M.rb ((f.drop 4).take (k - 4)) < 256 ^ 3 := Nat.lt_of_lt_of_le (M.rb_lt _ (fun z hz => hby z (List.mem_of_mem_drop (List.mem_of_mem_take hz)))) (Nat.pow_le_pow_right (by omega) (by simp; omega))
      have HT := M.rb_take (f.drop 4) (k - 4) hdl
      rw [hgd, show k - 4 + 1 = k + 1 - 4 from by omega] at HT
      have HT2 := hide HT
      have hv2 : M.rb ((f.drop 4).take (k - 4)) < 16777216 := by omega
      clear hdl hgd HT hv hco
      generalize M.rb ((f.drop 4).take (k - 4)) = V at *
      go_wp2
      go_round
      case rel =>
        refine ⟨k + 1, by omega, by omega, by go_num, int_eq ?_⟩
        rw [HT2.out, show f[k]?.getD 0 = f.getD k 0 from rfl]
        omega
      case measure => simp [intOf]; omega
    · obtain rfl : k = 8 := by omega
      have HTD : Hid (M.rb ((f.drop 4).take (8 - 4)) = told f) := rfl
      have hTl : told f < 4294967296 := by
        have h3 : told f < 256 ^ 4 := Nat.lt_of_lt_of_le (M.rb_lt ((f.drop 4).take 4) (fun z hz => hby z (List.mem_of_mem_drop (List.mem_of_mem_take hz)))) (Nat.pow_le_pow_right (by omega) (by simp; omega))
        omega
      rw [HTD.out]
      by_cases hs : n < told f + 12
      · have H : Hid (opErr f = 10) := by
          have : outErr f = 10 := by rw [hco]; exact coErr_short hs
          rw [opErr_out (by rw [this]; decide), this]; exact (rfl : (10 : Int) = 10)
        clear hco
        go_wp2
        go_ret2
        exact OpPost.bad H.out (by decide) (Below.refl _ _)
      · by_cases ht : told f + 12 < n
        · have H : Hid (opErr f = 15) := by
            have : outErr f = 15 := by rw [hco]; exact coErr_tail ht
            rw [opErr_out (by rw [this]; decide), this]; exact (rfl : (15 : Int) = 15)
          clear hco
          go_wp2
          go_ret2
          exact OpPost.bad H.out (by decide) (Below.refl _ _)
        · have hout : outErr f = 0 := by rw [hco]; exact coErr_ok hs ht
          have hN1 : told f + 12 ≤ n := by omega
          have hN2 : n ≤ told f + 12 := by omega
          clear hco hs ht hTl HTD
          generalize told f = N at *
          have hcut := hh.cut (N + 8) (by omega)
          have hsl := M.sum_lt (f.take (N + 8)) (fun z hz => (hcut.byte z hz).2)
          have hl4 : (f.drop (N + 8)).length = 4 := by rw [List.length_drop, HLN.out]; omega
          have e8 : f.length - 4 = N + 8 := by rw [HLN.out]; omega
          have e12 : f.length - 12 = N := by rw [HLN.out]; omega
          have HTL := hide (tail_sum (f.drop (N + 8)) _ hsl hl4 (fun z hz => hby z (List.mem_of_mem_drop hz)))
          have HE1 := hide (fun h => opErr_ok (f := f) hout (by rw [e8]; exact h))
          have HE2 := hide (fun h => opErr_sum (f := f) hout (by rw [e8]; exact h))
          have HBO : Hid ((f.drop 8).take (f.length - 12) = (f.drop 8).take N) := by unfold Hid; rw [e12]
          have HL4 := hide hl4
          have rr := hide (hh.row _ rfl)
          clear hl4 hout hm hh e8 e12
          go_wp2_with fail
          refine (refsum_any ⟨b, o, none⟩ (N + 8) c (f.take (N + 8)) w hcut.len (by unfold maxLen; omega) (hcut.row _ rfl) hcut.byte).mono ?_
          rintro e w1 ⟨rfl, hx⟩
          rw [hx]
          clear hx hcut w1
          generalize M.sum (f.take (N + 8)) = S at *
          go_wp2_with fail
          refine (four_any S w hsl).mono ?_
          rintro e w2 ⟨rfl, o2, b2⟩
          have r2 := o2.row
          have HC2 : Hid (∀ (i : Nat), i < n → w2.cell? ⟨b, o + i, none⟩ = some (.int .u8 (f.getD i 0))) := fun i hi => cell_later b2 (HC.out i hi)
          have z2 := b2.size
          clear o2 HC
          go_wp2_with fail
          go_loopw [7] (fun i wr => ∃ j : Nat, j ≤ 4 ∧ i = .int .i64 j ∧ (∀ t, t < j → f.getD (N + 8 + t) 0 = M.leAt S t) ∧ ∃ d, wr = w2.drewN d) (fun i _ => 4 - (intOf i).toNat)
          case atStart => exact ⟨0, by omega, rfl, fun t ht => (by omega), 0, rfl⟩
          case round =>
            obtain ⟨j, hj, rfl, hall, d, rfl⟩ := hrel
            by_cases hj4 : j < 4
            · have hc1 := HC2.out (N + 8 + j) (by omega)
              have hc2 := r2 (3 - j) (by simp [M.be_length]; omega)
              rw [Addr.add_lit, Nat.zero_add, show (M.be S 4).getD (3 - j) 0 = M.leAt S j from be_le S j hj4] at hc2
              by_cases he : f.getD (N + 8 + j) 0 = M.leAt S j
              · have hbe : (f[N + 8 + j]?.getD 0 != M.leAt S j) = false := by rw [show f[N + 8 + j]?.getD 0 = f.getD (N + 8 + j) 0 from rfl, he]; simp
                have HALL := hide hall
                have HEE := hide he
                clear hall he hk4 hk8 hlt
                go_wp2_with fail
                go_quiet (fail)
                go_wp2
                refine ⟨⟨j + 1, by omega, by go_num, fun t ht => ?_, _, rfl⟩, by simp [intOf]; omega⟩
                by_cases htj : t < j
                · exact HALL.out t htj
                · obtain rfl : t = j := by omega
                  exact HEE.out
              · have hbe : (f[N + 8 + j]?.getD 0 != M.leAt S j) = true := by rw [bne_iff_ne]; exact he
                have H : Hid (opErr f = 14) := by
                  apply HE2.out
                  intro hS
                  apply he
                  have := HTL.out.2 hS
                  have h3 := congrArg (fun l : List Int => l.getD j 0) this
                  simp only [le_getD S j hj4] at h3
                  rw [← h3]
                  simp [List.getD]
                clear hall he hk4 hk8 hlt
                go_wp2_with fail
                go_quiet (fail)
                go_wp2
                go_ret2
                exact OpPost.bad H.out (by decide) (below_drewN (below_drewN b2 _) _)
            · obtain rfl : j = 4 := by omega
              have hdrop : f.drop (N + 8) = M.le S 4 := by
                obtain ⟨x0, x1, x2, x3, hx⟩ := four (f.drop (N + 8)) HL4.out
                have g0 : ∀ t, t < 4 → (f.drop (N + 8)).getD t 0 = M.leAt S t := by
                  intro t ht
                  rw [← hall t ht]
                  simp [List.getD]
                rw [hx] at g0 ⊢
                rw [le4]
                have y0 := g0 0 (by omega)
                have y1 := g0 1 (by omega)
                have y2 := g0 2 (by omega)
                have y3 := g0 3 (by omega)
                simp at y0 y1 y2 y3
                rw [y0, y1, y2, y3]
              have hE := HE1.out (HTL.out.1 hdrop)
              have HE := hide hE
              have HB := hide (opBody_ok hE)
              rw [HBO.out] at HB
              have hsrc : Hs (w2.drewN d) (some ⟨b, o + 8, none⟩) N (c - 8) ((f.drop 8).take N) := by
                refine ⟨by rw [List.length_take, List.length_drop, HLN.out]; omega, by omega, fun x hx => ?_, fun hx => by (cases hx), fun z hz => hby z (List.mem_of_mem_drop (List.mem_of_mem_take hz))⟩
                cases hx
                exact ((rr.out.later b2).drop 8).take N
              clear hall hk4 hk8 hlt hdrop hE r2 HC2 hj4
              go_wp2_with (at_builtin; go_must (refine app_hs _ rfl (.tmp 82) (.tmp 86) rfl w.heap.size [] _ rfl (some ⟨b, o + 8, none⟩) N (c - 8) ?xh ((f.drop 8).take N) hsrc (Own.nil _ _) z2 (by simp; omega) ?xk))
              case xh => rfl
              case xk =>
                intro v9 w9 o9 k9 g9
                have b9 : Below w.heap.size w w9 := (below_drewN b2 d).grown g9 z2 (fun k hk => by cases hk)
                go_wp2
                go_ret2
                exact ⟨_, ret_tup HE.out.symm, by rw [HB.out]; exact o9, b9⟩
theorem ro_any (a : Option Addr) (n c : Nat) (f : List Int) (w : World) (hh : Hs w a n c f) :
    Calls Tryz.prog 53 #[.slice a n c] w fun e w' => OpPost f w e w' := by
  by_cases h1 : 32768 < n
  · exact ro_long a n c f w hh h1
  · by_cases h2 : n < 12
    · exact ro_short a n c f w hh h2
    · cases a with
      | none =>
        have := (hh.nil rfl).1
        have h3 := hh.len
        rw [this] at h3
        simp at h3
        omega
      | some x =>
        obtain ⟨b, o, rfl⟩ := hh.flat (by omega)
        by_cases h3 : f.take 4 = M.magic
        · exact ro_rest b o n c f w hh (by omega) (by omega) h3
        · exact ro_magic b o n c f w hh (by omega) (by omega) h3
end Go.Proofs.YtibedokegignhaaGreatDoor.Wi
