import Derived.Test.YtacalgpdhgpmbaaGLo
namespace Go.Proofs.Ytacalgpdhgpmbaa
open Go.ChangeShapes Go.WideShapes Go.ChangeAt Go.RowKit
open Classical
set_option linter.unusedVariables false

/-- Operations that came in; a nil slice has no room. -/
def CameN (W : World) (a : Option Addr) (len cap : Nat) : Prop := ∃ P : List Opn, P.length = len ∧ Ops W a P ∧ (∀ p ∈ P, p.fits) ∧ len * 32 ≤ 140737488351232 ∧ len ≤ cap ∧ cap ≤ maxLen ∧ (a = none → len = 0 ∧ cap = 0)
set_option maxRecDepth 100000 in
theorem open_opsN {H : Type} {enc : TypeId × Value → H} {W : World} {base : Nat} {v : Value} {d : DataW H} {p : List MemPlace} (hv : Value.okWide Try.prog W .any base 29 v) (h : DataW.Trod enc Try.prog W 0 (fun _ => true) true 29 v d p)
    (hs : ∀ el sp, d = .slice el sp → (el.length + sp.length) * Try.prog.bytesOf 23 ≤ reachBytes) :
    ∃ a len cap, v = .slice a len cap ∧ CameN W a len cap := by
  obtain ⟨a, n, c, rfl⟩ := okWide_slice Try.underlying29 hv
  refine ⟨a, n, c, rfl, ?_⟩
  obtain ⟨fuel, h⟩ := h
  simp only [Value.cells] at h
  rcases Go.Deep.open_slice Try.underlying29 h with ⟨hcs, hx⟩ | ⟨y, ln, cp, m, k, D, Pl, hcs, hb, hl, hm, hmm, hx, hall⟩
  · have e := (List.cons_eq_cons.1 hcs).1
    cases e
    exact ⟨[], rfl, fun i hi => by (simp at hi), by simp, by omega, Nat.le_refl _, by unfold maxLen; omega, fun _ => ⟨rfl, rfl⟩⟩
  · have e := (List.cons_eq_cons.1 hcs).1
    cases e
    have hlm : n ≤ m := by rw [hmm]; split <;> omega
    have each : ∀ i, i < n → ∃ p : Opn, p.fits ∧ (∀ j, j < 3 → W.cell? ((y.add (i * 3)).add j) = [Value.int .i64 p.k, .int .i64 p.s, .string p.v][j]?) := by
      intro i hi
      obtain ⟨cs', h1, h2⟩ := hall i (by omega)
      rw [opCells] at h1
      obtain ⟨p, hf, rfl⟩ := open_opc h2
      obtain ⟨_, _, hcell⟩ := World.cells?_some h1
      exact ⟨p, hf, hcell⟩
    haveI : Inhabited Opn := ⟨⟨0, 0, ⟨#[]⟩⟩⟩
    obtain ⟨p, hp⟩ := Go.Deep.choose_lt each
    have hd := hs _ _ (congrArg Prod.fst hx)
    rw [opBytes] at hd
    simp only [List.length_map, List.length_range, reachBytes] at hd
    refine ⟨(List.range n).map p, by simp, ?_, ?_, by omega, hl, hm, (fun e => by cases e)⟩
    · intro i hi
      have hi2 : i < n := by simpa using hi
      have e : ((List.range n).map p)[i] = p i := by simp
      rw [e]
      obtain ⟨hf, hcell⟩ := hp i hi2
      have z0 := (hp 0 (by omega)).2 0 (by omega)
      obtain ⟨b, o, s⟩ := y
      have hs := World.cell?_spot z0
      obtain rfl : s = none := by
        rw [Nat.zero_mul] at hs
        simpa [Addr.add] using hs
      have c0 := hcell 0 (by omega)
      have c1 := hcell 1 (by omega)
      have c2 := hcell 2 (by omega)
      rw [Addr.add_lit, Addr.add_lit] at c0 c1 c2
      exact ⟨b, o, rfl, c0, c1, c2⟩
    · intro q hq
      obtain ⟨i, hi, rfl⟩ := List.mem_map.1 hq
      exact (hp i (List.mem_range.1 hi)).1

def Opn.t (o : Opn) : Rs := (o.k, o.s, o.v)
theorem ops_cells : ∀ (P : List Opn) (W : World) (b o : Nat), (∀ i (h : i < P.length), W.cell? ⟨b, o + i * 3, none⟩ = some (.int .i64 P[i].k) ∧ W.cell? ⟨b, o + i * 3 + 1, none⟩ = some (.int .i64 P[i].s) ∧ W.cell? ⟨b, o + i * 3 + 2, none⟩ = some (.string P[i].v)) → ∀ j u, (rcs (P.map Opn.t))[j]? = some u → W.cell? ⟨b, o + j, none⟩ = some u
  | [], W, b, o, _, j, u, hu => by simp [rcs] at hu
  | p :: r, W, b, o, h, j, u, hu => by
    obtain ⟨h0, h1, h2⟩ := h 0 (by simp)
    simp only [Nat.zero_mul, Nat.add_zero, List.getElem_cons_zero] at h0 h1 h2
    match j, hu with
    | 0, hu => simp [rcs, Opn.t] at hu; subst hu; exact h0
    | 1, hu => simp [rcs, Opn.t] at hu; subst hu; exact h1
    | 2, hu => simp [rcs, Opn.t] at hu; subst hu; exact h2
    | j + 3, hu =>
      have := ops_cells r W b (o + 3) (fun i hi => by
        have := h (i + 1) (by simpa using hi)
        simp only [List.getElem_cons_succ] at this
        rw [show o + 3 + i * 3 = o + (i + 1) * 3 by omega]
        exact this) j u (by simpa [rcs] using hu)
      rw [show o + (j + 3) = o + 3 + j by omega]
      exact this
theorem ops_of_own {T : TypeId} {B : Nat} {w : World} {g n c : Nat} {P : List Opn} {E : List Rs} (h : Own3 T B w (.slice (some ⟨g, 0, none⟩) n c) (P.map Opn.t ++ E)) : Ops w (some ⟨g, 0, none⟩) P := fun i hi => by
  obtain ⟨c0, c1, c2⟩ := h.cell i P[i].t (by rw [List.getElem?_append_left (by simpa using hi)]; simp [hi])
  refine ⟨g, 0, rfl, ?_, ?_, ?_⟩
  · rw [Nat.zero_add]; exact c0
  · rw [Nat.zero_add]; exact c1
  · rw [Nat.zero_add]; exact c2
/-- 'append' of operations that came in. -/
theorem app_ops (w : World) {ops : Array Oper} {rest : List Oper} {o : Oper} {a : Act} {Q : Exit → Act → World → Prop} (hgd : o.guard = none) (s x : Operand)
    (ho : o.op = .call { callee := .builtin .append, args := #[s, x], argTypes := #[29, 29] }) (B : Nat) (l : List Rs) (v : Value) (hs : a.eval s = v)
    (ad : Option Addr) (P : List Opn) (c : Nat) (hx : a.eval x = .slice ad P.length c) (hP : Ops w ad P) (hnil : ad = none → P.length = 0 ∧ c = 0) (hown : Own3 23 B w v l) (hB : B ≤ w.heap.size) (hb : (l.length + P.length) * 32 ≤ 140737488355328)
    (hk : ∀ v' w', Own3 23 B w' v' (l ++ P.map Opn.t) → w.grownBy w' v.ownBlock → wpList Try.prog ops Q rest (a.put o.dst v') w') : wpList Try.prog ops Q (o :: rest) a w := by
  cases ad with
  | none =>
    obtain ⟨hp0, rfl⟩ := hnil rfl
    obtain rfl : P = [] := List.eq_nil_of_length_eq_zero hp0
    exact app3_none tyOp w hgd s x ho B l v hs hx hown (hk v w (by simpa using hown) (World.grownBy.refl _ _))
  | some y =>
    refine app3 tyOp w hgd s x ho B l v hs y P.length c hx (P.map Opn.t) (by simp) (fun j u hu => ?_) hown hB hb hk
    cases P with
    | nil => simp [rcs] at hu
    | cons p r =>
      obtain ⟨q, o', e, _⟩ := hP 0 (by simp)
      cases e
      rw [Addr.add_lit]
      refine ops_cells (p :: r) w q o' (fun i hi => ?_) j u hu
      obtain ⟨q2, o2, e2, c0, c1, c2⟩ := hP i hi
      cases e2
      exact ⟨c0, c1, c2⟩
set_option maxRecDepth 100000 in
set_option maxHeartbeats 2000000 in
theorem replays_walk (P : List Opn) (a : Option Addr) (cap : Nat) (w : World) (hP : Ops w a P) (hf : ∀ p ∈ P, p.fits) (hl : P.length * 32 ≤ 140737488351232) (hcp : P.length ≤ cap) (hmx : cap ≤ maxLen) (hnil : a = none → P.length = 0 ∧ cap = 0) :
    Calls Try.prog 6 #[.slice a P.length cap] w fun e w' => e = .returned (.bool true) ∧ Below w.heap.size w w' := by
  have HP := hide hP
  have HF := hide hf
  have HN := hide hnil
  unfold maxLen at hmx
  have hlz : (P.length : Int) ≤ 9223372036854775807 := by omega
  have hcz : (cap : Int) ≤ 9223372036854775807 := by omega
  clear hP hf hnil
  go_enter Try.func6, Try.ntmps6
  go_wp2_with (at_builtin; go_must (refine app_ops _ rfl (.tmp 9) (.tmp 10) rfl w.heap.size [] _ rfl a P cap rfl HP.out HN.out (Own3.nil _ _ _) (Nat.le_refl _) (by simp; omega) ?_))
  intro v2 w2 o2 hg2
  have b2 : Below w.heap.size w w2 := (Below.refl _ w).grown hg2 (Nat.le_refl _) (fun k hk => by cases hk)
  have hs2 := b2.size
  have hlm : (P.map Opn.t).length = P.length := by simp
  have o2h := hide o2
  clear hg2 o2
  go_wp2_with (at_builtin; go_must (refine app3 tyOp _ rfl (.tmp 12) (.tmp 14) rfl w.heap.size (P.map Opn.t) v2 rfl ⟨w2.heap.size, 0, none⟩ 1 1 rfl [(-7, 0, ByteArray.empty)] rfl (rcs_one3 _ (-7, 0, ByteArray.empty) 23 w2.heap.size (At3.new w2 (-7) 0 ByteArray.empty 23)) (o2h.out.alloc _) (by simp; omega) (by rw [hlm]; omega) ?_))
  intro v3 w3 o3 hg3
  have b3 : Below w.heap.size w w3 := (b2.alloc hs2 _).grown hg3 (by simp; omega) (fun k hk => (World.ownsRow.lt (o2h.out.alloc (.cells #[.int .i64 (-7), .int .i64 0, .string ByteArray.empty] 23)) k hk).1)
  clear hg3 o2h b2 hs2
  obtain ⟨ag, c3, hv3, hle3, hmx3, hnil3, hx3⟩ := o3.form
  subst hv3
  cases ag with
  | none => have := (hnil3 rfl).1; simp at this
  | some z =>
  obtain ⟨g, rfl, hg1, hg2⟩ := hx3 z rfl
  clear hnil3 hx3
  have hln : (P.map Opn.t ++ [((-7 : Int), (0 : Int), ByteArray.empty)]).length = P.length + 1 := by simp
  rw [hln] at o3 hle3 ⊢
  unfold maxLen at hmx3
  have sp := hide (ops_of_own o3)
  have o3h := hide o3
  have hs3 := b3.size
  clear o3 hln hlm
  go_wp2_with fail
  refine (replay_any P (some ⟨g, 0, none⟩) c3 w3 sp.out HF.out hl).mono ?_
  rintro e w4 ⟨vc4, vr4, rfl, oc4, or4, b4⟩
  obtain ⟨a4, q4, sl4, _⟩ := oc4.sl
  have hv4 := sl4.form
  subst hv4
  go_wp2_with fail
  refine (refreplay_any P a cap w4 ((HP.out.later b3).later b4) HF.out hl).mono ?_
  rintro e w5 ⟨vc5, vr5, rfl, oc5, or5, b5⟩
  obtain ⟨a5, q5, sl5, _⟩ := oc5.sl
  have hv5 := sl5.form
  subst hv5
  go_wp2_with fail
  refine (same_own (pl [] P) _ _ _ _ w5 (sl4.later b5) sl5).mono ?_
  rintro e w6 ⟨rfl, b6⟩
  go_wp2_with fail
  refine (sameres_own (rl [] P) _ _ vr4 vr5 w6 ((or4.grow b5).grow b6) (or5.grow b6)).mono ?_
  rintro e w7 ⟨rfl, b7⟩
  have bb : Below w3.heap.size w3 w7 := b4.trans ((b5.mono b4.size).trans ((b6.mono (Nat.le_trans b4.size b5.size)).trans (b7.mono (Nat.le_trans b4.size (Nat.le_trans b5.size b6.size)))))
  have o7 := o3h.out.grow bb
  obtain ⟨m0, m1, m2⟩ := o7.cell P.length (-7, 0, ByteArray.empty) (by simp)
  dsimp only at m0 m1 m2
  have b37 := hide (b3.trans (bb.mono hs3))
  have o7h := hide o7
  have hP7 := hide ((HP.out.later b3).later bb)
  clear bb o7 b4 b5 b6 b7 oc4 or4 oc5 or5 sl4 sl5
  go_wp2
  go_loopw [8] (fun i wr => ∃ k n : Nat, i = .int .i64 (k : Int) ∧ k ≤ P.length ∧ wr = w7.drewN n) (fun i _ => P.length - (intOf i).toNat)
  case atStart => exact ⟨0, 0, rfl, Nat.zero_le _, rfl⟩
  case round =>
    obtain ⟨k, n, rfl, hk, rfl⟩ := hrel
    by_cases hlt : k < P.length
    · obtain ⟨e0, e1, e2⟩ := o7h.out.cell k P[k].t (by rw [List.getElem?_append_left (by simpa using hlt)]; simp [hlt])
      obtain ⟨q, o, ea, c0, c1, c2⟩ := hP7.out k hlt
      generalize P[k] = p at *
      obtain ⟨x, y, z⟩ := p
      subst ea
      dsimp only [Opn.t] at e0 e1 e2 c0 c1 c2
      go_wp2
      go_quiet (fail)
      go_wp2
      go_round
      case rel => exact ⟨k + 1, n + nq, by go_num, by omega, by simp⟩
      case measure => simp [intOf]; omega
    · obtain rfl : k = P.length := by omega
      go_wp2_with (go_at_call 16; refine (works_any _).mono ?_; rintro e w9 ⟨rfl, b9⟩)
      go_ret
      exact ⟨rfl, (belN b37.out n).trans (b9.mono (belN b37.out n).size)⟩
theorem replays_came (a : Option Addr) (len cap : Nat) (W : World) (h : CameN W a len cap) :
    Calls Try.prog 6 #[.slice a len cap] W fun e w' => e = .returned (.bool true) ∧ Below W.heap.size W w' := by
  obtain ⟨P, rfl, hP, hf, hl, hc, hm, hn⟩ := h
  exact replays_walk P a cap W hP hf hl hc hm hn

end Go.Proofs.Ytacalgpdhgpmbaa
