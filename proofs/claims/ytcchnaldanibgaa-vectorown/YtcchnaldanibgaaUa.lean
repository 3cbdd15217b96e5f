import Derived.Test.YtcchnaldanibgaaVk
namespace Go.Proofs.Ytcchnaldanibgaa
open Go.RowKit
set_option linter.unusedVariables false
set_option linter.unusedSimpArgs false

/-- Ints of the call's own. -/
def ics (l : List Nat) : List Value := l.map fun (x : Nat) => Value.int .i64 (x : Int)
def OwnI (B : Nat) (w : World) (v : Value) (l : List Nat) : Prop := w.ownsRow B 3 1 v l.length (ics l)
theorem OwnI.nil (B : Nat) (w : World) : OwnI B w (.slice none 0 0) [] := World.ownsRow_nil w B 3 1
theorem OwnI.upd {B : Nat} {S : Nat → Prop} {w w' : World} {v : Value} {l : List Nat} (h : OwnI B w v l) (u : Upd S w w') (hs : ∀ k, B ≤ k → ¬ S k) : OwnI B w' v l := by
  obtain ⟨h1, h2⟩ := h
  refine ⟨h1, ?_⟩
  rcases h2 with h2 | ⟨g, cap, cur, e1, e2, e3, r⟩
  · exact .inl h2
  · refine .inr ⟨g, cap, cur, e1, e2, ?_, r⟩
    have hlt : g < w.heap.size := by
      rcases Nat.lt_or_ge g w.heap.size with h' | h'
      · exact h'
      · rw [Array.getElem?_eq_none h'] at e3; cases e3
    rw [u.block g hlt (hs g e2)]
    exact e3
theorem OwnI.bel {B : Nat} {w w' : World} {v : Value} {l : List Nat} (h : OwnI B w v l) {B' : Nat} (hb : Below B' w w') (hB : w.heap.size ≤ B') : OwnI B w' v l :=
  h.upd (S := fun _ => False) (Upd.of_below (hb.mono hB)) (fun _ _ => id)
theorem OwnI.grown {B : Nat} {w0 w w' : World} {v : Value} {l : List Nat} (ho : OwnI B w v l) (h0 : Below B w0 w) (hg : w.grownBy w' v.ownBlock) (hB : B ≤ w.heap.size) : Below B w0 w' :=
  h0.grown hg hB (fun k hk => (World.ownsRow.lt ho k hk).1)
theorem OwnI.form {B : Nat} {w : World} {v : Value} {l : List Nat} (h : OwnI B w v l) : ∃ a c, v = .slice a l.length c ∧ l.length ≤ c ∧ c ≤ maxLen ∧ (l ≠ [] → ∃ g, a = some ⟨g, 0, none⟩ ∧ B ≤ g ∧ g < w.heap.size ∧ ∀ (i x : Nat), l[i]? = some x → w.cell? ⟨g, i, none⟩ = some (.int .i64 (x : Int))) := by
  have h' := h
  rcases h.2 with ⟨e1, e2⟩ | ⟨g, cap, cur, e1, e2, e3, e4, e5, _⟩
  · exact ⟨none, 0, by rw [e1, e2], by omega, by unfold maxLen; omega, fun hh => absurd (List.eq_nil_of_length_eq_zero e2) hh⟩
  · refine ⟨_, cap, e1, e4, e5, fun _ => ⟨g, rfl, e2, ?_, fun i x hx => ?_⟩⟩
    · rcases Nat.lt_or_ge g w.heap.size with h' | h'
      · exact h'
      · rw [Array.getElem?_eq_none h'] at e3; cases e3
    · rw [e1] at h'
      have := World.ownsRow.cells h' (g := g) rfl i (.int .i64 (x : Int)) (by unfold ics; rw [List.getElem?_map, hx]; rfl)
      rw [Addr.add_lit, Nat.zero_add] at this
      exact this
theorem info_int : (Try.prog.info? 3).map (fun i => (i.zero, i.size, i.bytes)) = some (some (.int .i64 0), 1, 8) := by kernel_rfl
theorem app_int (w : World) {ops : Array Oper} {rest : List Oper} {o : Oper} {a : Act} {Q : Exit → Act → World → Prop} (hgd : o.guard = none) (s x : Operand)
    (ho : o.op = .call { callee := .builtin .append, args := #[s, x], argTypes := #[62, 62] }) (B : Nat) (L : List Nat) (v : Value) (hs : a.eval s = v)
    (ad : Addr) (hx : a.eval x = .slice (some ad) 1 1) (y : Nat) (hc : w.cell? ad = some (.int .i64 (y : Int))) (hown : OwnI B w v L) (hB : B ≤ w.heap.size) (hb : (L.length + 1) * 8 ≤ 140737488355328)
    (hk : ∀ v' w', OwnI B w' v' (L ++ [y]) → w.grownBy w' v.ownBlock → wpList Try.prog ops Q rest (a.put o.dst v') w') : wpList Try.prog ops Q (o :: rest) a w := by
  refine wpList_plain hgd fun K hK => ?_
  obtain ⟨i0, hi, hz0, hz1, hz2⟩ := info_parts info_int
  obtain ⟨v', w', hr, h2, h3, h4⟩ := run_append_own (P := Try.prog) w B 62 o.type 3 i0 (.int .i64 0) 1 8 Try.underlying62 hi hz0 hz1 hz2 rfl (by decide) v L.length (ics L) hown ad 1 1 [.int .i64 (y : Int)] rfl (by
    intro j u hu
    match j, hu with
    | 0, hu => simp at hu; subst hu; obtain ⟨b, o, s⟩ := ad; exact hc
    | j + 1, hu => simp at hu) (by intro u hu; simp at hu; subst hu; rfl) (by unfold maxLen; omega) hb hB
  unfold Oper.wp execOp
  simp only [ho, resolve, invoke, builtin, Sem.run_bind, Sem.run_pure, Result.andThen_ok, List.map_toArray, List.map_cons, List.map_nil, hs, hx, hr]
  refine hK _ _ (hk v' w' ?_ h3)
  unfold OwnI ics
  rw [List.map_append, List.length_append]
  exact h2

theorem rowsI_apart {B B' : Nat} {w : World} {v v' : Value} {D : List (Int × Int)} {L : List Nat} {k : Nat} (h : OwnD B w v D) (h' : OwnI B' w v' L) (e : v.ownBlock = some k) (e' : v'.ownBlock = some k) : False := by
  rcases h.2 with ⟨rfl, _⟩ | ⟨g, cap, cur, rfl, _, hg, _⟩
  · cases e
  · rcases h'.2 with ⟨rfl, _⟩ | ⟨g', cap', cur', rfl, _, hg', _⟩
    · cases e'
    · cases e
      cases e'
      rw [hg] at hg'
      cases hg'
theorem OwnD.grownI {B B' : Nat} {w w' : World} {v v2 : Value} {D : List (Int × Int)} {L : List Nat} (h : OwnD B w v D) (hv : OwnI B' w v2 L) (hg : w.grownBy w' v2.ownBlock) : OwnD B w' v D := by
  refine World.ownsRow.kept h hg ?_
  cases e : v.ownBlock with
  | none => exact .inl rfl
  | some k => exact .inr (fun e' => rowsI_apart h hv e e'.symm)

/-- The places at which p is false. -/
def outs (p : Nat → Bool) (n : Nat) : List Nat := (List.range n).filter fun i => !p i
theorem outs_succ (p : Nat → Bool) (n : Nat) : outs p (n + 1) = outs p n ++ (if p n then [] else [n]) := by
  unfold outs
  rw [List.range_succ, List.filter_append]
  cases h : p n <;> simp [h]
theorem outs_le (p : Nat → Bool) (n : Nat) : (outs p n).length ≤ n := by
  unfold outs
  exact Nat.le_trans (List.length_filter_le _ _) (by simp)

theorem alive_none (a : Option Addr) (c : Nat) (w : World) :
    Calls Try.prog 27 #[.slice a 0 c] w fun e w' => e = .returned (.tuple #[.slice none 0 0, .int .i64 0]) ∧ w' = w := by
  go_enter Try.func27, Try.ntmps27
  go_wp2_with fail
  refine (mv_none a c w).mono ?_
  rintro e w1 ⟨rfl, e1⟩
  have e1 := e1.symm
  subst e1
  go_wp2_with fail
  go_loopw [19, 6] (fun i v wr => i = .int .i64 0 ∧ v = .slice none 0 0 ∧ wr = w) (fun _ _ _ => 0)
  case atStart => exact ⟨rfl, rfl, rfl⟩
  case round =>
    obtain ⟨rfl, rfl, rfl⟩ := hrel
    go_wp2
    go_ret2
    exact ⟨rfl, rfl⟩
set_option maxRecDepth 100000 in
set_option maxHeartbeats 1000000 in
theorem alive_any (m0 : Voi) (T : List Voi) (q o c : Nat) (w : World) (h : LieW w q o (m0 :: T)) (hq : q < w.heap.size) (hc : T.length + 1 ≤ c) (hm : c ≤ maxLen) (hb : (T.length + 1) * 32 ≤ 140737488355328) :
    Calls Try.prog 27 #[.slice (some ⟨q, o, none⟩) (T.length + 1) c] w fun e w' =>
      ((okV (m0 :: T) m0.x.D.length ∧ ∃ v, e = .returned (.tuple #[v, .int .i64 0]) ∧ OwnI w.heap.size w' v (outs (fun i => ov (mer m0.x.D (T.map (·.x.D))) (vD (m0 :: T) i) (vN (m0 :: T) i)) (T.length + 1)))
        ∨ (¬ okV (m0 :: T) m0.x.D.length ∧ e = .returned (.tuple #[.slice none 0 0, .int .i64 30]))) ∧ Below w.heap.size w w' := by
  have MV := hide (mv_any m0 T q o c w h hq hc hm hb)
  have HL := hide h
  have hm2 := hide hm
  unfold maxLen at hm
  clear h
  generalize hT : m0 :: T = L at *
  have HLen : Hid (L.length = T.length + 1) := by show _ = _; rw [← hT]; rfl
  generalize hMg : mer m0.x.D (T.map (·.x.D)) = Mg at *
  have HMl : Hid (Mg.length = m0.x.D.length) := by show _ = _; rw [← hMg, mer_length]
  generalize m0.x.D.length = nd at *
  clear hT hMg
  generalize T.length + 1 = n at *
  clear m0 T
  go_enter Try.func27, Try.ntmps27
  go_wp2_with fail
  refine MV.out.mono ?_
  rintro e w1 ⟨⟨hok, g, rfl, o1⟩ | ⟨hbad, rfl⟩, b1⟩
  · have OK := hide hok
    have O1 := hide o1
    clear MV hok o1
    go_wp2_with fail
    go_loopw [19, 6] (fun i v wr => ∃ (j : Nat), i = .int .i64 (j : Int) ∧ j ≤ n ∧ OwnI w.heap.size wr v (outs (fun i => ov Mg (vD L i) (vN L i)) j) ∧ Below w.heap.size w wr ∧ OwnD w.heap.size wr (.slice (some ⟨g, 0, none⟩) nd nd) Mg) (fun i _ _ => n - (intOf i).toNat)
    case atStart => exact ⟨0, rfl, Nat.zero_le _, OwnI.nil _ _, b1, O1.out⟩
    case round =>
      obtain ⟨j, rfl, hj, hi, hb2, ho⟩ := hrel
      have hsz := hb2.size
      by_cases hlt : j < n
      · have hy := vAt_get (L := L) (i := j) (by rw [HLen.out]; exact hlt)
        have hymem := vAt_mem (L := L) (i := j) (by rw [HLen.out]; exact hlt)
        obtain ⟨p0, p1, t2⟩ := HL.out j _ hy
        have t0 := (hb2.cell (p := ⟨q, o + j * 2, none⟩) hq).trans p0
        have t1 := (hb2.cell (p := ⟨q, o + j * 2 + 1, none⟩) hq).trans p1
        clear p0 p1
        obtain ⟨hmay, hyl⟩ := OK.out _ hymem
        have hnode : (vAt L j).node = ((vN L j : Nat) : Int) := by unfold vN; have := hmay.2.1; omega
        have hkl : vN L j < (vD L j).length := by have := hmay.2.2; unfold vN vD; omega
        have hDl : (vD L j).length = nd := hyl
        obtain ⟨ga, gc, hgs, _⟩ := ho.sl
        have hgf := hgs.form
        rw [HMl.out] at hgf
        injection hgf with hg1 hg2 hg3
        subst hg1 hg3
        have KN := hide (fun w' (bb : Below wr.heap.size wr w') => knows_any Mg (vD L j) _ (vAt L j).x.a _ (vAt L j).x.c (vN L j) w' (hgs.form ▸ hgs.upd (S := fun _ => False) (Upd.of_below bb) (fun _ _ _ => id)) (t2.bel (hb2.trans (bb.mono hsz)) (Nat.le_refl _)) hkl (by rw [HMl.out, hDl]))
        rw [HMl.out, hDl] at KN
        rw [hnode] at t0
        rw [show (vAt L j).x.D.length = nd from hyl] at t1
        have ES := hide (outs_succ (fun i => ov Mg (vD L i) (vN L i)) j)
        have LE := hide (outs_le (fun i => ov Mg (vD L i) (vN L i)) j)
        have HI := hide hi
        have HO := hide ho
        clear hi ho t2 hy hymem hyl hmay hnode hkl hDl hgs hg2
        generalize (vAt L j).x.a = ya at *
        generalize (vAt L j).x.c = yc at *
        have bal : ∀ ob, Below wr.heap.size wr (wr.alloc ob) := fun ob => (Below.refl _ _).alloc (Nat.le_refl _) ob
        have BAL := hide bal
        clear bal
        cases hbo : ov Mg (vD L j) (vN L j) with
        | true =>
          rw [hbo] at KN
          simp only [hbo, if_true, List.append_nil] at ES
          generalize hkk : vN L j = kk at *
          go_wp2_with fail
          refine (KN.out (wr.alloc (.cells #[.int .i64 (kk : Int), .slice ya nd yc] 56)) (BAL.out _)).mono ?_
          rintro e w2 ⟨rfl, bb⟩
          have b2 : Below wr.heap.size wr w2 := (BAL.out _).trans (bb.mono (by simp))
          have b3 : Below w.heap.size w w2 := hb2.trans (b2.mono hsz)
          have I2 := hide (HI.out.bel b2 (Nat.le_refl _))
          have O2 := hide (HO.out.bel b2 (Nat.le_refl _))
          clear KN bb HI HO
          go_wp2
          go_round
          case rel => exact ⟨j + 1, by go_num, by omega, by rw [ES.out]; exact I2.out, b3, O2.out⟩
          case measure => simp [intOf]; omega
        | false =>
          rw [hbo] at KN
          simp only [hbo, Bool.false_eq_true, if_false] at ES
          generalize hkk : vN L j = kk at *
          generalize outs (fun i => ov Mg (vD L i) (vN L i)) j = OL at *
          go_wp2_with fail
          refine (KN.out (wr.alloc (.cells #[.int .i64 (kk : Int), .slice ya nd yc] 56)) (BAL.out _)).mono ?_
          rintro e w2 ⟨rfl, bb⟩
          have b2 : Below wr.heap.size wr w2 := (BAL.out _).trans (bb.mono (by simp))
          have b3 : Below w.heap.size w w2 := hb2.trans (b2.mono hsz)
          have ba : Below w2.heap.size w2 (w2.alloc (.cells #[.int .i64 (j : Int)] 3)) := (Below.refl _ _).alloc (Nat.le_refl _) _
          have I2 := hide ((HI.out.bel b2 (Nat.le_refl _)).bel ba (Nat.le_refl _))
          have O2 := hide ((HO.out.bel b2 (Nat.le_refl _)).bel ba (Nat.le_refl _))
          clear KN bb HI HO ba
          go_wp2_with (at_builtin; go_must (refine app_int _ rfl (.tmp 28) (.tmp 30) rfl w.heap.size OL _ rfl ⟨w2.heap.size, 0, none⟩ rfl j (by simp) I2.out (by have := b3.size; simp; omega) (by have := LE.out; omega) ?_))
          intro v' w3 o3 g3
          have b4 : Below w.heap.size w w3 := I2.out.grown (b3.alloc b3.size _) g3 (by have := b3.size; simp; omega)
          have O3 := hide (O2.out.grownI I2.out g3)
          have I3 := hide o3
          clear o3 g3 I2 O2
          go_wp2
          go_round
          case rel => exact ⟨j + 1, by go_num, by omega, by rw [ES.out]; exact I3.out, b4, O3.out⟩
          case measure => simp [intOf]; omega
      · obtain rfl : j = n := by omega
        have HI := hide hi
        clear hi ho
        go_wp2
        go_ret2
        exact ⟨.inl ⟨OK.out, _, rfl, HI.out⟩, hb2⟩
  · have BAD := hide hbad
    clear MV hbad
    go_wp2
    go_ret2
    exact ⟨.inr ⟨BAD.out, rfl⟩, b1⟩

end Go.Proofs.Ytcchnaldanibgaa
