import Derived.Test.YtgjmiemkjnnepaaHj
namespace Go.Proofs.Ytgjmiemkjnnepaa
open Go.RowKit Go.Maps
open Classical
set_option linter.unusedVariables false
set_option linter.unusedSimpArgs false

theorem RI.load0 {T0 : Array Value} {w0 : World} {qa qb b B : Nat} {m m' : Mg} {s t s' t' : Value} {n1 n2 m1 m2 : Nat} {L L' : List En} {D D' : List (Int × Int)} {x0 x1 x2 x3 x4 x5 : Bool} {a : Act} {w : World} (h : RI T0 w0 qa qb b B m m' s t s' t' n1 n2 m1 m2 L L' D D' x0 x1 x2 x3 x4 x5 a w) (hsz : 51 = T0.size) : RI T0 w0 qa qb b B m m' s t s' t' n1 n2 m1 m2 L L' D D' true x1 x2 x3 x4 x5 (a.put (some 9) (m.val s t)) w := by
  have hz : 9 < a.tmps.size := by rw [h.sz]; omega
  obtain ⟨v2, v3, v4, v5, Da, Db, La, Lb, G, K, g1, g3⟩ := h.g
  refine ⟨h.df, put_size.trans h.sz, fun i hi => (put_at (by omega)).trans (h.fr i hi), ?_, ?_, h.bl, h.ba, h.bb, h.ord, h.ord2, ⟨v2, v3, v4, v5, Da, Db, La, Lb, G, K, fun e => ?_, fun e => ?_⟩, fun e => ?_, fun e => ?_, fun e e' => ?_⟩
  · exact fun _ => put_self hz
  · exact fun e => (put_at (by omega)).trans (h.l2 e)
  · obtain ⟨ss, tt, e1, e2⟩ := g1 e
    exact ⟨ss, tt, (put_at (by omega)).trans e1, e2⟩
  · obtain ⟨ss, tt, e1, e2⟩ := g3 e
    exact ⟨ss, tt, (put_at (by omega)).trans e1, e2⟩
  · obtain ⟨p, e1, r⟩ := h.p6 e
    exact ⟨p, (put_at (by omega)).trans e1, r⟩
  · obtain ⟨p, e1, r⟩ := h.p7 e
    exact ⟨p, (put_at (by omega)).trans e1, r⟩
  · rw [put_at (by omega), put_at (by omega)]
    exact h.ne e e'
theorem RI.load2 {T0 : Array Value} {w0 : World} {qa qb b B : Nat} {m m' : Mg} {s t s' t' : Value} {n1 n2 m1 m2 : Nat} {L L' : List En} {D D' : List (Int × Int)} {x0 x1 x2 x3 x4 x5 : Bool} {a : Act} {w : World} (h : RI T0 w0 qa qb b B m m' s t s' t' n1 n2 m1 m2 L L' D D' x0 x1 x2 x3 x4 x5 a w) (hsz : 51 = T0.size) : RI T0 w0 qa qb b B m m' s t s' t' n1 n2 m1 m2 L L' D D' x0 x1 true x3 x4 x5 (a.put (some 11) (m'.val s' t')) w := by
  have hz : 11 < a.tmps.size := by rw [h.sz]; omega
  obtain ⟨v2, v3, v4, v5, Da, Db, La, Lb, G, K, g1, g3⟩ := h.g
  refine ⟨h.df, put_size.trans h.sz, fun i hi => (put_at (by omega)).trans (h.fr i hi), ?_, ?_, h.bl, h.ba, h.bb, h.ord, (fun _ => rfl), ⟨v2, v3, v4, v5, Da, Db, La, Lb, G, K, fun e => ?_, fun e => ?_⟩, fun e => ?_, fun e => ?_, fun e e' => ?_⟩
  · exact fun e => (put_at (by omega)).trans (h.l0 e)
  · exact fun _ => put_self hz
  · obtain ⟨ss, tt, e1, e2⟩ := g1 e
    exact ⟨ss, tt, (put_at (by omega)).trans e1, e2⟩
  · obtain ⟨ss, tt, e1, e2⟩ := g3 e
    exact ⟨ss, tt, (put_at (by omega)).trans e1, e2⟩
  · obtain ⟨p, e1, r⟩ := h.p6 e
    exact ⟨p, (put_at (by omega)).trans e1, r⟩
  · obtain ⟨p, e1, r⟩ := h.p7 e
    exact ⟨p, (put_at (by omega)).trans e1, r⟩
  · rw [put_at (by omega), put_at (by omega)]
    exact h.ne e e'
theorem RI.alloc4 {T0 : Array Value} {w0 : World} {qa qb b B : Nat} {m m' : Mg} {s t s' t' : Value} {n1 n2 m1 m2 : Nat} {L L' : List En} {D D' : List (Int × Int)} {x0 x1 x2 x3 x4 x5 : Bool} {a : Act} {w : World} (h : RI T0 w0 qa qb b B m m' s t s' t' n1 n2 m1 m2 L L' D D' x0 x1 x2 x3 x4 x5 a w) (hsz : 51 = T0.size) (hw : w0.heap.size ≤ w.heap.size) {w' : World} (hM : MBox w' w.heap.size zM nS nS) (hb : Below w.heap.size w w') : RI T0 w0 qa qb b B m m' s t s' t' n1 n2 m1 m2 L L' D D' x0 x1 x2 x3 true x5 (a.put (some 6) (pt w.heap.size)) w' := by
  have hz : 6 < a.tmps.size := by rw [h.sz]; omega
  obtain ⟨v2, v3, v4, v5, Da, Db, La, Lb, G, K, g1, g3⟩ := h.g
  refine ⟨h.df, put_size.trans h.sz, fun i hi => (put_at (by omega)).trans (h.fr i hi), fun e => (put_at (by omega)).trans (h.l0 e), fun e => (put_at (by omega)).trans (h.l2 e), h.bl.trans (hb.mono hw), h.ba.bel hb, h.bb.bel hb, h.ord, h.ord2, ⟨v2, v3, v4, v5, Da, Db, La, Lb, G.bel hb, K, fun e => ?_, fun e => ?_⟩, ?_, ?_, fun e e' => ?_⟩
  · obtain ⟨ss, tt, e1, e2⟩ := g1 e
    exact ⟨ss, tt, (put_at (by omega)).trans e1, e2⟩
  · obtain ⟨ss, tt, e1, e2⟩ := g3 e
    exact ⟨ss, tt, (put_at (by omega)).trans e1, e2⟩
  · intro _
    exact ⟨w.heap.size, put_self hz, fun e => by have := h.ba.lt; omega, fun e => by have := h.bb.lt; omega, fun e => by have := G.lt; have := G.ltB; omega, hw, hM⟩
  · intro e
    obtain ⟨p, e1, e2, e3, e4, e9, e5⟩ := h.p7 e
    exact ⟨p, (put_at (by omega)).trans e1, e2, e3, e4, e9, e5.bel hb⟩
  · rw [put_self hz, put_at (by omega)]
    obtain ⟨p, e1, _, _, _, _, e5⟩ := h.p7 e'
    rw [e1]
    have := e5.lt
    intro hh
    injection hh with hh
    injection hh with hh
    injection hh with hh
    injection hh with hh
    omega
theorem RI.alloc5 {T0 : Array Value} {w0 : World} {qa qb b B : Nat} {m m' : Mg} {s t s' t' : Value} {n1 n2 m1 m2 : Nat} {L L' : List En} {D D' : List (Int × Int)} {x0 x1 x2 x3 x4 x5 : Bool} {a : Act} {w : World} (h : RI T0 w0 qa qb b B m m' s t s' t' n1 n2 m1 m2 L L' D D' x0 x1 x2 x3 x4 x5 a w) (hsz : 51 = T0.size) (hw : w0.heap.size ≤ w.heap.size) {w' : World} (hM : MBox w' w.heap.size zM nS nS) (hb : Below w.heap.size w w') : RI T0 w0 qa qb b B m m' s t s' t' n1 n2 m1 m2 L L' D D' x0 x1 x2 x3 x4 true (a.put (some 7) (pt w.heap.size)) w' := by
  have hz : 7 < a.tmps.size := by rw [h.sz]; omega
  obtain ⟨v2, v3, v4, v5, Da, Db, La, Lb, G, K, g1, g3⟩ := h.g
  refine ⟨h.df, put_size.trans h.sz, fun i hi => (put_at (by omega)).trans (h.fr i hi), fun e => (put_at (by omega)).trans (h.l0 e), fun e => (put_at (by omega)).trans (h.l2 e), h.bl.trans (hb.mono hw), h.ba.bel hb, h.bb.bel hb, h.ord, h.ord2, ⟨v2, v3, v4, v5, Da, Db, La, Lb, G.bel hb, K, fun e => ?_, fun e => ?_⟩, ?_, ?_, fun e e' => ?_⟩
  · obtain ⟨ss, tt, e1, e2⟩ := g1 e
    exact ⟨ss, tt, (put_at (by omega)).trans e1, e2⟩
  · obtain ⟨ss, tt, e1, e2⟩ := g3 e
    exact ⟨ss, tt, (put_at (by omega)).trans e1, e2⟩
  · intro e
    obtain ⟨p, e1, e2, e3, e4, e9, e5⟩ := h.p6 e
    exact ⟨p, (put_at (by omega)).trans e1, e2, e3, e4, e9, e5.bel hb⟩
  · intro _
    exact ⟨w.heap.size, put_self hz, fun e => by have := h.ba.lt; omega, fun e => by have := h.bb.lt; omega, fun e => by have := G.lt; have := G.ltB; omega, hw, hM⟩
  · rw [put_self hz, put_at (by omega)]
    obtain ⟨p, e1, _, _, _, _, e5⟩ := h.p6 e
    rw [e1]
    have := e5.lt
    intro hh
    injection hh with hh
    injection hh with hh
    injection hh with hh
    injection hh with hh
    omega
theorem RI.call1 {T0 : Array Value} {w0 : World} {qa qb b B : Nat} {m m' : Mg} {s t s' t' : Value} {n1 n2 m1 m2 : Nat} {L L' : List En} {D D' : List (Int × Int)} {x0 x2 x4 x5 : Bool} {a : Act} {w : World} (h : RI T0 w0 qa qb b B m m' s t s' t' n1 n2 m1 m2 L L' D D' x0 false x2 false x4 x5 a w) (hsz : 51 = T0.size) (hbw : w0.heap.size ≤ b) (hBw : w0.heap.size ≤ B) {v2 v3 v4 v5 v2' v3' v4' v5' : Value} {Da Db : List (SV (Int × Int))} {La Lb : List (SV En)} {x y : SV En} {x' y' : SV (Int × Int)} {w' : World} {ss tt : Value} (hqa : b ≠ qa) (hqb : b ≠ qb)
    (G : GM w b B v2 v3 v4 v5 Da Db La Lb) (K : Kept La Lb Da Db 0) (G' : GM w' b B v2' v3' v4' v5' (Da ++ [x']) (Db ++ [y']) (La ++ [x]) (Lb ++ [y])) (ex : x.D = y.D) (ex' : x'.D = y'.D) (u : Upd (fun k => k = b ∨ v2.ownBlock = some k ∨ v3.ownBlock = some k ∨ v4.ownBlock = some k ∨ v5.ownBlock = some k) w w') (hI : In (La ++ [x]) (Da ++ [x']) L D n1 n2 ss tt) : RI T0 w0 qa qb b B m m' s t s' t' n1 n2 m1 m2 L L' D D' x0 true x2 false x4 x5 (a.put (some 10) (m.val ss tt)) w' := by
  have hz : 10 < a.tmps.size := by rw [h.sz]; omega
  have bw : Below w0.heap.size w w' := u.below h.bl.size (fun k hk => by
    rcases hk with e | e | e | e | e
    · omega
    · have := (G.o2.blk _ e).1; omega
    · have := (G.o3.blk _ e).1; omega
    · have := (G.o4.blk _ e).1; omega
    · have := (G.o5.blk _ e).1; omega)
  refine ⟨h.df, put_size.trans h.sz, fun i hi => (put_at (by omega)).trans (h.fr i hi), fun e => (put_at (by omega)).trans (h.l0 e), fun e => (put_at (by omega)).trans (h.l2 e), h.bl.trans bw, h.ba.given G hqa u, h.bb.given G hqb u, fun _ => rfl, (fun e => by cases e), ⟨v2', v3', v4', v5', _, _, _, _, G', K.snoc ex ex', ?_, ?_⟩, fun e => ?_, fun e => ?_, fun e e' => ?_⟩
  · exact fun _ => ⟨ss, tt, put_self hz, hI⟩
  · exact fun e => by cases e
  · obtain ⟨p, e1, e2, e3, e4, e9, e5⟩ := h.p6 e
    exact ⟨p, (put_at (by omega)).trans e1, e2, e3, e4, e9, e5.given G e4 u⟩
  · obtain ⟨p, e1, e2, e3, e4, e9, e5⟩ := h.p7 e
    exact ⟨p, (put_at (by omega)).trans e1, e2, e3, e4, e9, e5.given G e4 u⟩
  · rw [put_at (by omega), put_at (by omega)]
    exact h.ne e e'
theorem RI.call3 {T0 : Array Value} {w0 : World} {qa qb b B : Nat} {m m' : Mg} {s t s' t' : Value} {n1 n2 m1 m2 : Nat} {L L' : List En} {D D' : List (Int × Int)} {x0 x4 x5 : Bool} {a : Act} {w : World} (h : RI T0 w0 qa qb b B m m' s t s' t' n1 n2 m1 m2 L L' D D' x0 true true false x4 x5 a w) (hsz : 51 = T0.size) (hbw : w0.heap.size ≤ b) (hBw : w0.heap.size ≤ B) {v2 v3 v4 v5 v2' v3' v4' v5' : Value} {Da Db : List (SV (Int × Int))} {La Lb : List (SV En)} {x y : SV En} {x' y' : SV (Int × Int)} {w' : World} {ss tt : Value} (hqa : b ≠ qa) (hqb : b ≠ qb)
    (G : GM w b B v2 v3 v4 v5 Da Db La Lb) (K : Kept La Lb Da Db 1) (g1 : ∃ ss tt, a.tmps[10]? = some (m.val ss tt) ∧ In La Da L D n1 n2 ss tt) (G' : GM w' b B v2' v3' v4' v5' (Da ++ [x']) (Db ++ [y']) (La ++ [x]) (Lb ++ [y])) (ex : x.D = y.D) (ex' : x'.D = y'.D) (u : Upd (fun k => k = b ∨ v2.ownBlock = some k ∨ v3.ownBlock = some k ∨ v4.ownBlock = some k ∨ v5.ownBlock = some k) w w') (hI : In (La ++ [x]) (Da ++ [x']) L' D' m1 m2 ss tt) : RI T0 w0 qa qb b B m m' s t s' t' n1 n2 m1 m2 L L' D D' x0 true true true x4 x5 (a.put (some 12) (m'.val ss tt)) w' := by
  have hz : 12 < a.tmps.size := by rw [h.sz]; omega
  have bw : Below w0.heap.size w w' := u.below h.bl.size (fun k hk => by
    rcases hk with e | e | e | e | e
    · omega
    · have := (G.o2.blk _ e).1; omega
    · have := (G.o3.blk _ e).1; omega
    · have := (G.o4.blk _ e).1; omega
    · have := (G.o5.blk _ e).1; omega)
  refine ⟨h.df, put_size.trans h.sz, fun i hi => (put_at (by omega)).trans (h.fr i hi), fun e => (put_at (by omega)).trans (h.l0 e), fun e => (put_at (by omega)).trans (h.l2 e), h.bl.trans bw, h.ba.given G hqa u, h.bb.given G hqb u, fun _ => rfl, fun _ => rfl, ⟨v2', v3', v4', v5', _, _, _, _, G', K.snoc ex ex', ?_, ?_⟩, fun e => ?_, fun e => ?_, fun e e' => ?_⟩
  · obtain ⟨ss', tt', e1, e2⟩ := g1
    exact fun _ => ⟨ss', tt', (put_at (by omega)).trans e1, e2.app x x'⟩
  · exact fun _ => ⟨ss, tt, put_self hz, hI⟩
  · obtain ⟨p, e1, e2, e3, e4, e9, e5⟩ := h.p6 e
    exact ⟨p, (put_at (by omega)).trans e1, e2, e3, e4, e9, e5.given G e4 u⟩
  · obtain ⟨p, e1, e2, e3, e4, e9, e5⟩ := h.p7 e
    exact ⟨p, (put_at (by omega)).trans e1, e2, e3, e4, e9, e5.given G e4 u⟩
  · rw [put_at (by omega), put_at (by omega)]
    exact h.ne e e'
theorem GM.msg {w w' : World} {b B q : Nat} {v2 v3 v4 v5 : Value} {Da Db : List (SV (Int × Int))} {La Lb : List (SV En)} {m : Mg} {s t : Value} (G : GM w b B v2 v3 v4 v5 Da Db La Lb) (hM' : MBox w q m s t) (hb : b ≠ q) (u : Upd (fun k => k = q) w w') : GM w' b B v2 v3 v4 v5 Da Db La Lb :=
  G.upd u hb (by
    rintro k c f T hk hT rfl
    obtain ⟨c', f', hk'⟩ := hM'.kind
    rw [hk'] at hk
    injection hk with hk
    injection hk with _ hk
    exact hM T hT hk.symm)
theorem RI.store {T0 : Array Value} {w0 : World} {qa qb b B : Nat} {m m' : Mg} {s t s' t' : Value} {n1 n2 m1 m2 : Nat} {L L' : List En} {D D' : List (Int × Int)}  {a : Act} {w : World} (h : RI T0 w0 qa qb b B m m' s t s' t' n1 n2 m1 m2 L L' D D' true true true true true true a w) (hw : w0.heap.size ≤ qa) {w' : World} {p6 : Nat} {ss tt : Value} (e6 : a.tmps[6]? = some (pt p6)) (e10 : a.tmps[10]? = some (m.val ss tt)) (hM' : MBox w' p6 m ss tt) (u : Upd (fun k => k = p6) w w') (hp6 : w0.heap.size ≤ p6) : RJ T0 w0 qa qb b B m m' s t s' t' n1 n2 m1 m2 L L' D D' false a w' := by
  obtain ⟨v2, v3, v4, v5, Da, Db, La, Lb, G, K, g1, g3⟩ := h.g
  obtain ⟨ss1, tt1, f1, I1⟩ := g1 rfl
  obtain ⟨ss2, tt2, f2, I2⟩ := g3 rfl
  obtain ⟨q6, j1, j2, j3, j4, j9, j5⟩ := h.p6 rfl
  obtain ⟨q7, k1, k2, k3, k4, k9, k5⟩ := h.p7 rfl
  rw [e6] at j1
  have : p6 = q6 := by
    injection j1 with j1
    injection j1 with j1
    injection j1 with j1
    injection j1 with j1
  subst this
  rw [e10] at f1
  have hne : q7 ≠ p6 := fun e => h.ne rfl rfl (by rw [e6, k1, e])
  have hv : m.val ss tt = m.val ss1 tt1 := Option.some.inj f1
  have hs : ss = ss1 ∧ tt = tt1 := by
    unfold Mg.val at hv
    injection hv with hv
    simp at hv
    exact hv
  obtain ⟨rfl, rfl⟩ := hs
  exact ⟨h.df, h.sz, h.fr, h.bl.trans (u.below h.bl.size (fun k hk => by omega)), h.ba.upd u (fun e => j2 e.symm), h.bb.upd u (fun e => j3 e.symm), ⟨v2, v3, v4, v5, Da, Db, La, Lb, p6, q7, ss, tt, ss2, tt2, G.msg j5 j4 u, K, I1, I2, e6, k1, hne, j2, j3, k2, k3, j4, k4, k9, hM', ⟨k5.upd u hne, f2⟩⟩⟩
theorem RJ.store {T0 : Array Value} {w0 : World} {qa qb b B : Nat} {m m' : Mg} {s t s' t' : Value} {n1 n2 m1 m2 : Nat} {L L' : List En} {D D' : List (Int × Int)} {a : Act} {w : World} (h : RJ T0 w0 qa qb b B m m' s t s' t' n1 n2 m1 m2 L L' D D' false a w) (hw : w0.heap.size ≤ qa) :
    ∃ p7 ss' tt', a.tmps[7]? = some (pt p7) ∧ a.tmps[12]? = some (m'.val ss' tt') ∧ ss'.oneCell' = true ∧ tt'.oneCell' = true ∧ MBox w p7 zM nS nS ∧ ∀ w', MBox w' p7 m' ss' tt' → Upd (fun k => k = p7) w w' → RJ T0 w0 qa qb b B m m' s t s' t' n1 n2 m1 m2 L L' D D' true a w' := by
  obtain ⟨v2, v3, v4, v5, Da, Db, La, Lb, p6, p7, ss, tt, ss', tt', G, K, I1, I2, e6, e7, ne, f1, f2, f3, f4, f5, f6, f9, M6, M7⟩ := h.g
  obtain ⟨M7, e12⟩ : MBox w p7 zM nS nS ∧ a.tmps[12]? = some (m'.val ss' tt') := M7
  refine ⟨p7, ss', tt', e7, e12, I2.one.1, I2.one.2, M7, fun w' hM' u => ?_⟩
  exact ⟨h.df, h.sz, h.fr, h.bl.trans (u.below h.bl.size (fun k hk => by omega)), h.ba.upd u (fun e => f3 e.symm), h.bb.upd u (fun e => f4 e.symm), ⟨v2, v3, v4, v5, Da, Db, La, Lb, p6, p7, ss, tt, ss', tt', G.msg M7 f6 u, K, I1, I2, e6, e7, ne, f1, f2, f3, f4, f5, f6, f9, M6.upd u (fun e => ne e.symm), hM'⟩⟩

end Go.Proofs.Ytgjmiemkjnnepaa
