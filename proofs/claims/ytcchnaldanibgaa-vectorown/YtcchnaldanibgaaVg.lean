import Derived.Test.YtcchnaldanibgaaVf
namespace Go.Proofs.Ytcchnaldanibgaa
open Go.RowKit
set_option linter.unusedVariables false
set_option linter.unusedSimpArgs false

/-- A slice of vectors of the call's own. -/
def OwnV (B : Nat) (w : World) (v : Value) (L : List Vec) : Prop := w.ownsRow B 23 1 v L.length (L.map Vec.v)
theorem OwnV.nil (B : Nat) (w : World) : OwnV B w (.slice none 0 0) [] := World.ownsRow_nil w B 23 1
theorem OwnV.upd {B : Nat} {S : Nat → Prop} {w w' : World} {v : Value} {l : List Vec} (h : OwnV B w v l) (u : Upd S w w') (hs : ∀ k, B ≤ k → ¬ S k) : OwnV B w' v l := by
  obtain ⟨h1, h2⟩ := h
  refine ⟨h1, ?_⟩
  rcases h2 with h2 | ⟨g, cap, cur, e1, e2, e3, r⟩
  · exact .inl h2
  · refine .inr ⟨g, cap, cur, e1, e2, ?_, r⟩
    have hlt : g < w.heap.size := by
      rcases Nat.lt_or_ge g w.heap.size with h' | h'
      · exact h'
      · rw [Array.getElem?_eq_none h'] at e3; cases e3
    rw [u.block g hlt (hs g e2)]
    exact e3
theorem OwnV.bel {B : Nat} {w w' : World} {v : Value} {l : List Vec} (h : OwnV B w v l) {B' : Nat} (hb : Below B' w w') (hB : w.heap.size ≤ B') : OwnV B w' v l :=
  h.upd (S := fun _ => False) (Upd.of_below (hb.mono hB)) (fun _ _ => id)
theorem OwnV.form {B : Nat} {w : World} {v : Value} {l : List Vec} (h : OwnV B w v l) (hl : l ≠ []) : ∃ g c, v = .slice (some ⟨g, 0, none⟩) l.length c ∧ l.length ≤ c ∧ c ≤ maxLen ∧ B ≤ g ∧ g < w.heap.size := by
  rcases h.2 with ⟨e1, e2⟩ | ⟨g, cap, cur, e1, e2, e3, e4, e5, _⟩
  · exact absurd (List.eq_nil_of_length_eq_zero e2) hl
  · refine ⟨g, cap, e1, e4, e5, e2, ?_⟩
    rcases Nat.lt_or_ge g w.heap.size with h' | h'
    · exact h'
    · rw [Array.getElem?_eq_none h'] at e3; cases e3
theorem OwnV.cell {B : Nat} {w : World} {g n c : Nat} {l : List Vec} (h : OwnV B w (.slice (some ⟨g, 0, none⟩) n c) l) (i : Nat) (y : Vec) (hd : l[i]? = some y) : w.cell? ⟨g, i, none⟩ = some (.slice y.a y.D.length y.c) := by
  have h0 := World.ownsRow.cells h (g := g) rfl i (Vec.v y) (by rw [List.getElem?_map, hd]; rfl)
  rw [Addr.add_lit, Nat.zero_add] at h0
  exact h0
theorem OwnV.grown {B : Nat} {w0 w w' : World} {v : Value} {l : List Vec} (ho : OwnV B w v l) (h0 : Below B w0 w) (hg : w.grownBy w' v.ownBlock) (hB : B ≤ w.heap.size) : Below B w0 w' :=
  h0.grown hg hB (fun k hk => (World.ownsRow.lt ho k hk).1)
theorem info_vec : (Try.prog.info? 23).map (fun i => (i.zero, i.size, i.bytes)) = some (some (.slice none 0 0), 1, 24) := by kernel_rfl
theorem run_app_vec (w : World) (ty : TypeId) (B : Nat) (L : List Vec) (v : Value) (ad : Addr) (y : Vec) (hc : w.cell? ad = some (.slice y.a y.D.length y.c)) (hown : OwnV B w v L) (hB : B ≤ w.heap.size) (hb : (L.length + 1) * 24 ≤ 140737488355328) :
    ∃ v' w', (Builtin.append_ #[28, 28] ty #[v, .slice (some ad) 1 1]).run Try.prog w = .ok v' w' ∧ OwnV B w' v' (L ++ [y]) ∧ w.grownBy w' v.ownBlock := by
  obtain ⟨i0, hi, hz0, hz1, hz2⟩ := info_parts info_vec
  obtain ⟨v', w', hr, h2, h3, h4⟩ := run_append_own (P := Try.prog) w B 28 ty 23 i0 (.slice none 0 0) 1 24 Try.underlying28 hi hz0 hz1 hz2 rfl (by decide) v L.length (L.map Vec.v) hown ad 1 1 [Vec.v y] rfl (by
    intro j u hu
    match j, hu with
    | 0, hu => simp at hu; subst hu; obtain ⟨b, o, s⟩ := ad; exact hc
    | j + 1, hu => simp at hu) (by intro u hu; simp at hu; subst hu; rfl) (by unfold maxLen; omega) hb hB
  refine ⟨v', w', hr, ?_, h3⟩
  unfold OwnV
  rw [List.map_append, List.length_append]
  exact h2
theorem app_vec (w : World) {ops : Array Oper} {rest : List Oper} {o : Oper} {a : Act} {Q : Exit → Act → World → Prop} (hgd : o.guard = none) (s x : Operand)
    (ho : o.op = .call { callee := .builtin .append, args := #[s, x], argTypes := #[28, 28] }) (B : Nat) (L : List Vec) (v : Value) (hs : a.eval s = v)
    (ad : Addr) (hx : a.eval x = .slice (some ad) 1 1) (y : Vec) (hc : w.cell? ad = some (.slice y.a y.D.length y.c)) (hown : OwnV B w v L) (hB : B ≤ w.heap.size) (hb : (L.length + 1) * 24 ≤ 140737488355328)
    (hk : ∀ v' w', OwnV B w' v' (L ++ [y]) → w.grownBy w' v.ownBlock → wpList Try.prog ops Q rest (a.put o.dst v') w') : wpList Try.prog ops Q (o :: rest) a w := by
  refine wpList_plain hgd fun K hK => ?_
  obtain ⟨v', w', hr, h2, h3⟩ := run_app_vec w o.type B L v ad y hc hown hB hb
  unfold Oper.wp execOp
  simp only [ho, resolve, invoke, builtin, Sem.run_bind, Sem.run_pure, Result.andThen_ok, List.map_toArray, List.map_cons, List.map_nil, hs, hx, hr]
  exact hK _ _ (hk v' w' h2 h3)
/-- 'make([]api.Vector, 0, n)'. -/
theorem make_vecs (w : World) {ops : Array Oper} {rest : List Oper} {o : Oper} {a : Act} {Q : Exit → Act → World → Prop} (hgd : o.guard = none) (c : Operand)
    (hop : o.op = Op.makeSlice 28 (.const (.int .i64 0)) c) (n : Nat) (hc : a.eval c = .int .i64 (n : Int)) (hm : n * 24 ≤ 281474976710656)
    (hK : ∀ v' w', OwnV w.heap.size w' v' [] → Below w.heap.size w w' → wpList Try.prog ops Q rest (a.put o.dst v') w') : wpList Try.prog ops Q (o :: rest) a w := by
  obtain ⟨i0, hi, hz0, hz1, hz2⟩ := info_parts info_vec
  refine wpList_make_own w hgd (.const (.int .i64 0)) c 28 hop w.heap.size 23 i0 (.slice none 0 0) 1 Try.underlying28 hi hz0 hz1 .i64 .i64 n n rfl hc rfl (by rw [hz2]; omega) (by unfold maxLen; omega) (Nat.le_refl _) ?_
  intro w' h1 h2
  exact hK _ w' h1 ((Below.refl _ _).grown h2 (Nat.le_refl _) (fun k hk => by cases hk))

/-- Voices that lie from an address on. -/
def LieW (w : World) (q o : Nat) (L : List Voi) : Prop := ∀ i m, L[i]? = some m → w.cell? ⟨q, o + i * 2, none⟩ = some (.int .i64 m.node) ∧ w.cell? ⟨q, o + i * 2 + 1, none⟩ = some (.slice m.x.a m.x.D.length m.x.c) ∧ m.x.ok w
theorem LieW.bel {w w' : World} {q o : Nat} {L : List Voi} (h : LieW w q o L) (hq : q < w.heap.size) (b : Below w.heap.size w w') : LieW w' q o L := fun i m hm =>
  ⟨(b.cell (p := ⟨q, o + i * 2, none⟩) hq).trans (h i m hm).1, (b.cell (p := ⟨q, o + i * 2 + 1, none⟩) hq).trans (h i m hm).2.1, (h i m hm).2.2.bel b (Nat.le_refl _)⟩
/-- Voices that may be, with vectors of one length. -/
def okV (L : List Voi) (n : Nat) : Prop := ∀ m, m ∈ L → mayv m.node m.x.D.length ∧ m.x.D.length = n

theorem mv_none (a : Option Addr) (c : Nat) (w : World) :
    Calls Try.prog 49 #[.slice a 0 c] w fun e w' => e = .returned (.tuple #[.slice none 0 0, .int .i64 0]) ∧ w' = w := by
  go_enter Try.func49, Try.ntmps49
  go_wp2
  go_ret2
  exact ⟨rfl, rfl⟩
set_option maxRecDepth 100000 in
set_option maxHeartbeats 1000000 in
theorem mv_any (m0 : Voi) (T : List Voi) (q o c : Nat) (w : World) (h : LieW w q o (m0 :: T)) (hq : q < w.heap.size) (hc : T.length + 1 ≤ c) (hm : c ≤ maxLen) (hb : (T.length + 1) * 32 ≤ 140737488355328) :
    Calls Try.prog 49 #[.slice (some ⟨q, o, none⟩) (T.length + 1) c] w fun e w' =>
      ((okV (m0 :: T) m0.x.D.length ∧ ∃ g, e = .returned (.tuple #[.slice (some ⟨g, 0, none⟩) m0.x.D.length m0.x.D.length, .int .i64 0]) ∧ OwnD w.heap.size w' (.slice (some ⟨g, 0, none⟩) m0.x.D.length m0.x.D.length) (mer m0.x.D (T.map (·.x.D))))
        ∨ (¬ okV (m0 :: T) m0.x.D.length ∧ e = .returned (.tuple #[.slice none 0 0, .int .i64 30]))) ∧ Below w.heap.size w w' := by
  have HL := hide h
  unfold maxLen at hm
  have f1 : ((T.length : Int) + 1 == 0) = false := by simp; omega
  have f2 : ¬ ((T.length : Int) + 1 = 0) := by omega
  clear h
  generalize hn : T.length + 1 = n at *
  have hcast : (T.length : Int) + 1 = (n : Int) := by omega
  rw [hcast] at f1 f2
  have HN : Hid ((m0 :: T).length = n) := by show _ = _; rw [List.length_cons, hn]
  have n0 : 0 < n := by omega
  clear hn hcast
  go_enter Try.func49, Try.ntmps49
  go_wp2_with (at_make; go_must (refine make_vecs _ rfl (.tmp 11) rfl n rfl (by omega) ?_))
  intro v1 w1 o1 b1
  go_wp2_with fail
  go_loopw [15, 4] (fun i v wr => ∃ (k : Nat), i = .int .i64 (k : Int) ∧ k ≤ n ∧ OwnV w.heap.size wr v (((m0 :: T).take k).map (·.x)) ∧ (∀ m, m ∈ (m0 :: T).take k → mayv m.node m.x.D.length) ∧ Below w.heap.size w wr) (fun i _ _ => n - (intOf i).toNat)
  case atStart => exact ⟨0, rfl, Nat.zero_le _, o1, (fun m hm => by cases hm), b1⟩
  case round =>
    obtain ⟨k, rfl, hk, ho, ha, hb2⟩ := hrel
    have hsz := hb2.size
    by_cases hlt : k < n
    · obtain ⟨y, hy⟩ : ∃ y, (m0 :: T)[k]? = some y := ⟨_, List.getElem?_eq_getElem (by rw [HN.out]; exact hlt)⟩
      obtain ⟨t0, t1, t2⟩ := HL.out k y hy
      have t0 := (hb2.cell (p := ⟨q, o + k * 2, none⟩) hq).trans t0
      have t1 := (hb2.cell (p := ⟨q, o + k * 2 + 1, none⟩) hq).trans t1
      have H := hide (fun w => voicemay_any y.x.a y.x.D.length y.x.c y.node w)
      have hmem : y ∈ m0 :: T := List.mem_of_getElem? hy
      by_cases hmy : mayv y.node y.x.D.length
      · rw [decide_eq_true hmy] at H
        have hst : (m0 :: T).take (k + 1) = (m0 :: T).take k ++ [y] := by rw [List.take_add_one, hy]; rfl
        have ST := hide hst
        have HO := hide ho
        have HA := hide ha
        have hlen : (((m0 :: T).take k).map (·.x)).length = k := by rw [List.length_map, List.length_take, HN.out]; omega
        have HLN := hide hlen
        clear hst ho ha hlen t2 hy
        obtain ⟨yn, ya, yc, yD⟩ := y
        simp only at t0 t1 H hmy
        go_wp2_with fail
        refine (H.out _).mono ?_
        rintro e w2 ⟨rfl, bb⟩
        have b2 : Below wr.heap.size wr w2 := ((Below.refl _ _).alloc (Nat.le_refl _) _).trans (bb.mono (by simp))
        have s2 := b2.size
        have z0 : w2.cell? ⟨wr.heap.size, 0, none⟩ = some (.int .i64 yn) := (bb.cell (p := ⟨wr.heap.size, 0, none⟩) (by simp)).trans (by simp)
        have z1 : w2.cell? ⟨wr.heap.size, 1, none⟩ = some (.slice ya yD.length yc) := (bb.cell (p := ⟨wr.heap.size, 1, none⟩) (by simp)).trans (by simp)
        have OO := hide ((HO.out.bel b2 (Nat.le_refl _)).bel ((Below.refl _ _).alloc (Nat.le_refl _) (.cells #[.slice ya yD.length yc] 23)) (Nat.le_refl _))
        clear bb HO
        go_wp2_with (at_builtin; go_must (refine app_vec _ rfl (.tmp 22) (.tmp 25) rfl w.heap.size _ _ rfl ⟨w2.heap.size, 0, none⟩ rfl ⟨ya, yc, yD⟩ (by simp) OO.out (by simp; omega) (by rw [HLN.out]; omega) ?_))
        intro v' w3 o3 g3
        have b3 : Below w.heap.size w w3 := OO.out.grown ((hb2.trans (b2.mono hsz)).alloc (by omega) _) g3 (by simp; omega)
        have O3 := hide o3
        clear g3 o3 OO
        go_wp2
        go_round
        case rel =>
          refine ⟨k + 1, by go_num, by omega, by rw [ST.out, List.map_append]; have e := O3.out; simpa using e, ?_, b3⟩
          intro m hm
          rw [ST.out, List.mem_append, List.mem_singleton] at hm
          rcases hm with hm | rfl
          · exact HA.out m hm
          · exact hmy
        case measure => simp [intOf]; omega
      · rw [decide_eq_false hmy] at H
        have BAD : Hid (¬ okV (m0 :: T) m0.x.D.length) := fun hh => hmy (hh y hmem).1
        clear ho ha t2 hy hmem
        obtain ⟨yn, ya, yc, yD⟩ := y
        simp only at t0 t1 H hmy
        go_wp2_with fail
        refine (H.out _).mono ?_
        rintro e w2 ⟨rfl, bb⟩
        have b2 : Below wr.heap.size wr w2 := ((Below.refl _ _).alloc (Nat.le_refl _) _).trans (bb.mono (by simp))
        clear bb
        go_wp2
        go_ret2
        exact ⟨.inr ⟨BAD.out, rfl⟩, hb2.trans (b2.mono hsz)⟩
    · obtain rfl : k = n := by omega
      rw [List.take_of_length_le (by rw [HN.out]; exact Nat.le_refl _)] at ho ha
      obtain ⟨g, c', hv, hc', hm', hBg, hgs⟩ := ho.form (by simp)
      have hlen : ((m0 :: T).map (·.x)).length = k := by rw [List.length_map, HN.out]
      rw [hlen] at hv hc'
      subst hv
      have LV : LieV wr g 0 (m0.x :: T.map (·.x)) := fun i y hy => by
        rw [Nat.zero_add]
        refine ⟨ho.cell i y hy, ?_⟩
        have hy2 : ((m0 :: T).map (·.x))[i]? = some y := hy
        rw [List.getElem?_map] at hy2
        cases hm2 : (m0 :: T)[i]? with
        | none => rw [hm2] at hy2; cases hy2
        | some m =>
          rw [hm2] at hy2
          cases hy2
          exact (HL.out i m hm2).2.2.bel hb2 (Nat.le_refl _)
      have m0may := ha m0 (by simp)
      have hTl : (T.map (·.x)).length + 1 = k := by rw [List.length_map]; have := HN.out; simpa using this
      by_cases hall : ∀ y, y ∈ T.map (·.x) → y.D.length = m0.x.D.length
      · have R := merge_ok m0.x (T.map (·.x)) g 0 c' wr LV hgs (by rw [hTl]; exact hc') hm' m0may.1 hall
        rw [hTl] at R
        have RH := hide R
        have GOOD : Hid (okV (m0 :: T) m0.x.D.length) := fun m hm => ⟨ha m hm, by
          rcases List.mem_cons.1 hm with rfl | hm
          · rfl
          · exact hall m.x (List.mem_map_of_mem hm)⟩
        clear R LV ho ha hall HL m0may
        go_wp2_with fail
        refine RH.out.mono ?_
        rintro e w2 ⟨g2, rfl, o2, b2⟩
        have O2 := hide (o2.low hsz)
        clear o2 RH
        go_wp2
        go_ret2
        refine ⟨.inl ⟨GOOD.out, g2, rfl, ?_⟩, hb2.trans (b2.mono hsz)⟩
        have e := O2.out
        rw [List.map_map] at e
        exact e
      · have R := merge_bad m0.x (T.map (·.x)) g 0 c' wr LV hgs (by rw [hTl]; exact hc') hm' m0may.1 hall
        rw [hTl] at R
        have RH := hide R
        have BAD : Hid (¬ okV (m0 :: T) m0.x.D.length) := fun hh => hall (fun y hy => by
          obtain ⟨m, hm, rfl⟩ := List.mem_map.1 hy
          exact (hh m (List.mem_cons_of_mem _ hm)).2)
        clear R LV ho ha hall HL m0may
        go_wp2_with fail
        refine RH.out.mono ?_
        rintro e w2 ⟨rfl, b2⟩
        clear RH
        go_wp2
        go_ret2
        exact ⟨.inr ⟨BAD.out, rfl⟩, hb2.trans (b2.mono hsz)⟩

end Go.Proofs.Ytcchnaldanibgaa
