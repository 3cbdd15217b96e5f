import Derived.Test.YtdfoafpcoigklaaKm
import Derived.Test.YtdfoafpcoigklaaKp
import Derived.Deep.DeepAppendWide
namespace Go.Proofs.Ytdfoafpcoigklaa
open Go.RowKit Go.Maps
open Classical
set_option linter.unusedVariables false
set_option linter.unusedSimpArgs false

/-- 'append' of what a slice holds, as far as it goes. -/
theorem appYw {α : Type} {Y : Lay α} (K : Y.Ok) (w : World) {ops : Array Oper} {rest : List Oper} {o : Oper} {a : Act} {Q : Exit → Act → World → Prop} (hgd : o.guard = none) (s x : Operand)
    (ho : o.op = .call { callee := .builtin .append, args := #[s, x], argTypes := #[Y.ST, Y.ST] }) (B : Nat) (l : List α) (v : Value) (hs : a.eval s = v)
    (ad : Option Addr) (m c : Nat) (hx : a.eval x = .slice ad m c) (news : List α) (hh : SlY Y w ad m c news) (hown : OwnY Y B w v l) (hB : B ≤ w.heap.size) (hm : l.length + m ≤ maxLen) (hb : ((l.length + m) + (l.length + m) / 4 + 192) * Y.by_ ≤ 281474976710656)
    (hk : ∀ v' w', OwnY Y B w' v' (l ++ news) → w.grownBy w' v.ownBlock → wpList Try.prog ops Q rest (a.put o.dst v') w') : wpList Try.prog ops Q (o :: rest) a w := by
  refine wpList_plain hgd fun K' hK' => ?_
  obtain ⟨zv, hinfo, hzc⟩ := K.info
  obtain ⟨i0, hi, hz0, hz1, hz2⟩ := info_parts hinfo
  have hzs : zv.cells.size = Y.k := by rw [hzc, List.size_toArray, K.len]
  have hr : ∃ v' w', (Builtin.append_ #[Y.ST, Y.ST] o.type #[v, .slice ad m c]).run Try.prog w = .ok v' w' ∧ OwnY Y B w' v' (l ++ news) ∧ w.grownBy w' v.ownBlock := by
    cases ad with
    | none =>
      obtain ⟨rfl, rfl⟩ := hh.nil rfl
      obtain rfl : news = [] := List.eq_nil_of_length_eq_zero hh.len
      refine ⟨v, w, ?_, by rw [List.append_nil]; exact hown, World.grownBy.refl _ _⟩
      exact run_append_owned_none (P := Try.prog) (w := w) B Y.ST o.type Y.T i0 Y.k K.und hi v l.length (fl Y l) hown
    | some y =>
      have hnews : ∀ j u, (fl Y news)[j]? = some u → w.cell? (y.add j) = some u := fun j u hu => by
        rcases hh.at_ y rfl with e | ⟨q, o, rfl, _, hl⟩
        · subst e; cases hu
        · rw [Addr.add_lit]; exact hl.flat K j u hu
      have hlen : (fl Y news).length = m * Y.k := by rw [fl_length K, hh.len]
      obtain ⟨v', w', hr, h2, h3, _⟩ := run_append_own_wide (P := Try.prog) w B Y.ST o.type Y.T i0 zv Y.k Y.by_ K.und hi hz0 hz1 hz2 hzs K.kp v l.length (fl Y l) hown y m c (fl Y news) hlen hnews (fl_one K news) hm hb hB
      refine ⟨v', w', hr, ?_, h3⟩
      unfold OwnY
      rw [fl_append, List.length_append, hh.len]
      exact h2
  obtain ⟨v', w', hr, h2, h3⟩ := hr
  unfold Oper.wp execOp
  simp only [ho, resolve, invoke, builtin, Sem.run_bind, Sem.run_pure, Result.andThen_ok, List.map_toArray, List.map_cons, List.map_nil, hs, hx, hr]
  exact hK' _ _ (hk v' w' h2 h3)
set_option maxRecDepth 100000 in
set_option maxHeartbeats 1000000 in
theorem refjoin6_any (D D2 : List En) (a b : Option Addr) (n c n2 c2 : Nat) (w : World) (h : SlY yE w a n c D) (h2 : SlY yE w b n2 c2 D2) (hn : n ≤ 256) (hn2 : n2 * 48 ≤ 140737488355328) :
    Calls Try.prog 59 #[.slice a n c, .slice b n2 c2] w fun e w' => ∃ v', e = .returned v' ∧ OwnY yE w.heap.size w' v' (D ++ D2) ∧ Below w.heap.size w w' := by
  have H := hide h
  have H2 := hide h2
  have HN := hide h.len
  clear h h2
  go_enter Try.func59, Try.ntmps59
  go_wp2_with (at_builtin; go_must (refine appY kE _ rfl (.tmp 6) (.tmp 7) rfl w.heap.size [] _ rfl a n c rfl D H.out (OwnY.nil _ _ _) (Nat.le_refl _) (by unfold maxLen; simp; omega) (by show (0 + n) * 48 ≤ _; omega) ?z1))
  intro v1 w1 o1 g1 _
  have b1 : Below w.heap.size w w1 := (Below.refl _ _).grown g1 (Nat.le_refl _) (fun k hk => by cases hk)
  have z1 := b1.size
  have O1 := hide o1
  have HS2 := hide (H2.out.later b1)
  clear o1 g1
  go_wp2_with (at_builtin; go_must (refine appYw kE _ rfl (.tmp 9) (.tmp 10) rfl w.heap.size D v1 rfl b n2 c2 rfl D2 HS2.out O1.out z1 (by rw [HN.out]; unfold maxLen; omega) (by rw [HN.out]; show (_ + _ + 192) * 48 ≤ _; omega) ?z2))
  intro v2 w2 o2 g2
  have b2 : Below w.heap.size w w2 := O1.out.grown b1 g2 z1
  go_wp2
  go_ret
  exact ⟨v2, rfl, o2, b2⟩

theorem ckA_snoc : ∀ (r past : List En) (x : En), (ckA past r).1 = 0 → ckA past (r ++ [x]) = ckA (past ++ r) [x]
  | [], past, x, _ => by simp
  | e :: r, past, x, h => by
    rw [ckA] at h
    by_cases h1 : er past e = 0
    · rw [List.cons_append, ckA, if_neg (by simp [h1])]
      rw [if_neg (by simp [h1])] at h
      rw [ckA_snoc r (past ++ [e]) x h]
      simp
    · rw [if_pos h1] at h
      exact absurd h h1
theorem spE_append (L : List En) (room : Int) (x : En) : spE L room ((L.length : Int) + 1) [x] = if (chk L room).1 ≠ 0 then (chk L room).1 else if (L.length : Int) = room then 60 else er L x := by
  have h0 : ¬ ((L.length : Int) + 1 < 1 ∨ (L.length : Int) + 1 < (L.length : Int) + 1) := by omega
  have hn : ((L.length : Int) + 1 - 1).toNat = L.length := by omega
  rw [spE, if_neg h0, hn, List.take_length]
  by_cases h1 : (chk L room).1 = 0
  · rw [if_neg (by simp [h1]), if_neg (by simp [h1])]
    obtain ⟨_, z2, z3, z4⟩ := chk_zero h1
    have hr : ¬ (room < 1 ∨ 256 < room) := by omega
    have hr2 : ¬ (room < (L.length : Int)) := by omega
    rw [chk, if_neg hr, if_neg hr2] at h1
    rw [chk, if_neg hr]
    by_cases h2 : (L.length : Int) = room
    · rw [if_pos h2, if_pos (by simp; omega)]
    · rw [if_neg h2, if_neg (by simp; omega), ckA_snoc L [] x h1, List.nil_append, ckA, ckA]
      by_cases h3 : er L x = 0 <;> simp [h3]
  · rw [if_pos h1, if_pos h1]
theorem spL_append (L : List En) (room : Int) (x : En) : spL L room ((L.length : Int) + 1) [x] = if spE L room ((L.length : Int) + 1) [x] = 0 then L ++ [x] else [] := by
  have hn : ((L.length : Int) + 1 - 1).toNat = L.length := by omega
  rw [spL, hn, List.take_length]
set_option maxRecDepth 100000 in
set_option maxHeartbeats 1000000 in
theorem refappend6_any (L : List En) (x : En) (a : Option Addr) (n c : Nat) (room : Int) (w : World) (h : SlY yE w a n c L) (hf : ∀ e ∈ L, e.fits) (hx : x.fits) (hb : n * 48 ≤ 140737488355328) :
    Calls Try.prog 22 #[.slice a n c, .int .i64 room, .agg #[.int .i64 x.c, .int .i64 x.n, .int .i64 x.o.k, .int .i64 x.o.s, .string x.o.v]] w fun e w' => ∃ v, e = .returned (.tuple #[v, .int .i64 (spE L room ((L.length : Int) + 1) [x])]) ∧ OwnY yE w.heap.size w' v (spL L room ((L.length : Int) + 1) [x]) ∧ Below w.heap.size w w' := by
  have hln := h.len
  have hcp := h.cap
  have hmx := h.max
  unfold maxLen at hmx
  have HS := hide h
  have HE := hide (spE_append L room x)
  have HL := hide (spL_append L room x)
  have hz := chk_zero (L := L) (room := room)
  obtain ⟨xc, xn, ⟨ok, os, ov⟩⟩ := x
  dsimp only
  obtain ⟨WB, hWB⟩ : ∃ WB, w.alloc (.cells #[.int .i64 xc, .int .i64 xn, .int .i64 ok, .int .i64 os, .string ov] 41) = WB := ⟨_, rfl⟩
  have bB : Below w.heap.size w WB := by rw [← hWB]; exact (Below.refl _ _).alloc (Nat.le_refl _) _
  have zB : WB.heap.size = w.heap.size + 1 := by rw [← hWB]; simp
  have C1 := hide (refchk6_any L a n c room WB (h.later bB) hf)
  have C2 := hide (fun (W : World) (hW : Below w.heap.size w W) => refent6_any L a n c xc xn ok os ov W (HS.out.later hW) hx.ow)
  have p0 : WB.cell? ⟨w.heap.size, 0, none⟩ = some (.int .i64 xc) := by subst hWB; go_simp
  have p1 : WB.cell? ⟨w.heap.size, 1, none⟩ = some (.int .i64 xn) := by subst hWB; go_simp
  have p2 : WB.cell? ⟨w.heap.size, 2, none⟩ = some (.int .i64 ok) := by subst hWB; go_simp
  have p3 : WB.cell? ⟨w.heap.size, 3, none⟩ = some (.int .i64 os) := by subst hWB; go_simp
  have p4 : WB.cell? ⟨w.heap.size, 4, none⟩ = some (.string ov) := by subst hWB; go_simp
  have HW := hide hWB
  have HZ := hide zB
  clear hWB zB h hf hx
  generalize hE : spE L room ((L.length : Int) + 1) [⟨xc, xn, ⟨ok, os, ov⟩⟩] = E at *
  generalize hZ : spL L room ((L.length : Int) + 1) [⟨xc, xn, ⟨ok, os, ov⟩⟩] = Z at *
  clear hE hZ
  by_cases h1 : (chk L room).1 = 0
  · obtain ⟨z1, z2, z3, z4⟩ := hz h1
    rw [h1] at C1
    rw [if_neg (by simp [h1])] at HE
    generalize (chk L room).2 = X2 at C1
    rw [hln] at z1 z4 HE
    by_cases h2 : (n : Int) = room
    · rw [if_pos h2] at HE
      have hEe := HE.out
      subst hEe
      have hZe : Z = [] := by rw [HL.out]; rfl
      subst hZe
      clear HE HL C2
      go_enter Try.func22, Try.ntmps22
      go_wp2_with fail
      rw [HW.out]
      refine C1.out.mono ?_
      rintro e w1 ⟨rfl, b1⟩
      clear C1 p0 p1 p2 p3 p4
      go_wp2
      go_ret2
      exact ⟨_, rfl, OwnY.nil _ _ _, bB.trans (b1.mono (by have := HZ.out; omega))⟩
    · rw [if_neg h2] at HE
      have hd2 : decide ((n : Int) = room) = false := by simpa using h2
      rw [← HE.out] at C2
      have HJ : Hid (∀ (W : World), Below w.heap.size w W → Calls Try.prog 59 #[.slice a n c, .slice (some ⟨W.heap.size, 0, none⟩) 1 1] (W.alloc (.cells #[.int .i64 xc, .int .i64 xn, .int .i64 ok, .int .i64 os, .string ov] 41)) fun e w' => ∃ v', e = .returned v' ∧ OwnY yE (W.heap.size + 1) w' v' (L ++ [⟨xc, xn, ⟨ok, os, ov⟩⟩]) ∧ Below (W.heap.size + 1) (W.alloc (.cells #[.int .i64 xc, .int .i64 xn, .int .i64 ok, .int .i64 os, .string ov] 41)) w') := fun W hW => by
        have hsb : SlY yE (W.alloc (.cells #[.int .i64 xc, .int .i64 xn, .int .i64 ok, .int .i64 os, .string ov] 41)) (some ⟨W.heap.size, 0, none⟩) 1 1 [⟨xc, xn, ⟨ok, os, ov⟩⟩] := sl_box (Y := yE) W ⟨xc, xn, ⟨ok, os, ov⟩⟩ 41
        have hal : Below W.heap.size W (W.alloc (.cells #[.int .i64 xc, .int .i64 xn, .int .i64 ok, .int .i64 os, .string ov] 41)) := (Below.refl _ _).alloc (Nat.le_refl _) _
        have hsz : (W.alloc (.cells #[.int .i64 xc, .int .i64 xn, .int .i64 ok, .int .i64 os, .string ov] 41)).heap.size = W.heap.size + 1 := by simp
        generalize W.alloc (.cells #[.int .i64 xc, .int .i64 xn, .int .i64 ok, .int .i64 os, .string ov] 41) = WA at *
        have := refjoin6_any L [⟨xc, xn, ⟨ok, os, ov⟩⟩] a (some ⟨W.heap.size, 0, none⟩) n c 1 1 WA ((HS.out.later hW).later hal) hsb z1 (by omega)
        rw [hsz] at this
        exact this
      go_enter Try.func22, Try.ntmps22
      go_wp2_with fail
      rw [HW.out]
      refine C1.out.mono ?_
      rintro e w1 ⟨rfl, b1⟩
      have zz := HZ.out
      have bw1 : Below w.heap.size w w1 := bB.trans (b1.mono (by omega))
      have r0 := (b1.cell (p := ⟨w.heap.size, 0, none⟩) (by show w.heap.size < _; omega)).trans p0
      have r1 := (b1.cell (p := ⟨w.heap.size, 1, none⟩) (by show w.heap.size < _; omega)).trans p1
      have r2 := (b1.cell (p := ⟨w.heap.size, 2, none⟩) (by show w.heap.size < _; omega)).trans p2
      have r3 := (b1.cell (p := ⟨w.heap.size, 3, none⟩) (by show w.heap.size < _; omega)).trans p3
      have r4 := (b1.cell (p := ⟨w.heap.size, 4, none⟩) (by show w.heap.size < _; omega)).trans p4
      have zw1 : w.heap.size < w1.heap.size := by have := b1.size; omega
      clear C1 p0 p1 p2 p3 p4 zz
      go_wp2_with fail
      refine (C2.out w1 bw1).mono ?_
      rintro e w2 ⟨rfl, b2⟩
      have bw2 : Below w.heap.size w w2 := bw1.trans (b2.mono (by omega))
      have s0 := (b2.cell (p := ⟨w.heap.size, 0, none⟩) zw1).trans r0
      have s1 := (b2.cell (p := ⟨w.heap.size, 1, none⟩) zw1).trans r1
      have s2 := (b2.cell (p := ⟨w.heap.size, 2, none⟩) zw1).trans r2
      have s3 := (b2.cell (p := ⟨w.heap.size, 3, none⟩) zw1).trans r3
      have s4 := (b2.cell (p := ⟨w.heap.size, 4, none⟩) zw1).trans r4
      clear r0 r1 r2 r3 r4 C2 HE
      by_cases hE0 : E = 0
      · subst hE0
        have hZe : Z = L ++ [⟨xc, xn, ⟨ok, os, ov⟩⟩] := by rw [HL.out]; rfl
        go_wp2_with fail
        refine (HJ.out w2 bw2).mono ?_
        rintro e w3 ⟨v3, rfl, o3, b3⟩
        have z2 := bw2.size
        have O3 := hide (o3.low (show w.heap.size ≤ w2.heap.size + 1 by omega))
        have B3 := hide ((bw2.trans ((Below.refl w.heap.size w2).alloc z2 _)).trans (b3.mono (show w.heap.size ≤ w2.heap.size + 1 by omega)))
        clear o3 b3 HJ
        go_wp2
        go_ret2
        exact ⟨_, rfl, by rw [hZe]; exact O3.out, B3.out⟩
      · have hZe : Z = [] := by rw [HL.out, if_neg hE0]
        go_wp2
        go_ret2
        exact ⟨_, rfl, by rw [hZe]; exact OwnY.nil _ _ _, bw2⟩
  · rw [if_pos h1] at HE
    have hZe : Z = [] := by rw [HL.out, HE.out, if_neg h1]
    have hEe := HE.out
    subst hEe hZe
    clear HE HL C2 hz
    generalize chk L room = Y at *
    obtain ⟨y, y2⟩ := Y
    dsimp only at *
    go_enter Try.func22, Try.ntmps22
    go_wp2_with fail
    rw [HW.out]
    refine C1.out.mono ?_
    rintro e w1 ⟨rfl, b1⟩
    clear C1 p0 p1 p2 p3 p4
    go_wp2
    go_ret2
    exact ⟨_, rfl, OwnY.nil _ _ _, bB.trans (b1.mono (by have := HZ.out; omega))⟩

end Go.Proofs.Ytdfoafpcoigklaa
