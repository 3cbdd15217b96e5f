import Derived.Test.YtamdkajkmokenaaGLo
namespace Go.Proofs.Ytamdkajkmokenaa
open Go.ChangeShapes Go.WideShapes Go.ChangeAt Go.RowKit
set_option linter.unusedVariables false

/-- Operations that came in; a nil slice has no room. -/
def CameN (W : World) (a : Option Addr) (len cap : Nat) : Prop := ∃ P : List Opn, P.length = len ∧ Ops W a P ∧ (∀ p ∈ P, p.fits) ∧ len * 32 ≤ 140737488351232 ∧ len ≤ cap ∧ cap ≤ maxLen ∧ (a = none → len = 0 ∧ cap = 0)
set_option maxRecDepth 100000 in
theorem open_opsN {H : Type} {enc : TypeId × Value → H} {W : World} {base : Nat} {v : Value} {d : DataW H} {p : List MemPlace} (hv : Value.okWide Try.prog W .any base 22 v) (h : DataW.Trod enc Try.prog W 0 (fun _ => true) true 22 v d p)
    (hs : ∀ el sp, d = .slice el sp → (el.length + sp.length) * Try.prog.bytesOf 30 ≤ reachBytes) :
    ∃ a len cap, v = .slice a len cap ∧ CameN W a len cap := by
  obtain ⟨a, n, c, rfl⟩ := okWide_slice Try.underlying22 hv
  refine ⟨a, n, c, rfl, ?_⟩
  obtain ⟨fuel, h⟩ := h
  simp only [Value.cells] at h
  rcases Go.Deep.open_slice Try.underlying22 h with ⟨hcs, hx⟩ | ⟨y, ln, cp, m, k, D, Pl, hcs, hb, hl, hm, hmm, hx, hall⟩
  · have e := (List.cons_eq_cons.1 hcs).1
    cases e
    exact ⟨[], rfl, fun i hi => by (simp at hi), by simp, by omega, Nat.le_refl _, by unfold maxLen; omega, fun _ => ⟨rfl, rfl⟩⟩
  · have e := (List.cons_eq_cons.1 hcs).1
    cases e
    have hlm : n ≤ m := by rw [hmm]; split <;> omega
    have each : ∀ i, i < n → ∃ p : Opn, p.fits ∧ (∀ j, j < 3 → W.cell? ((y.add (i * 3)).add j) = [Value.int .i64 p.k, .int .i64 p.s, .string p.v][j]?) := by
      intro i hi
      obtain ⟨cs', h1, h2⟩ := hall i (by omega)
      rw [opCells] at h1
      obtain ⟨p, hf, rfl⟩ := open_opc h2
      obtain ⟨_, _, hcell⟩ := World.cells?_some h1
      exact ⟨p, hf, hcell⟩
    obtain ⟨p, hp⟩ := Go.Deep.choose_lt each
    have hd := hs _ _ (congrArg Prod.fst hx)
    rw [opBytes] at hd
    simp only [List.length_map, List.length_range, reachBytes] at hd
    refine ⟨(List.range n).map p, by simp, ?_, ?_, by omega, hl, hm, (fun e => by cases e)⟩
    · intro i hi
      have hi2 : i < n := by simpa using hi
      have e : ((List.range n).map p)[i] = p i := by simp
      rw [e]
      obtain ⟨hf, hcell⟩ := hp i hi2
      have z0 := (hp 0 (by omega)).2 0 (by omega)
      obtain ⟨b, o, s⟩ := y
      have hs := World.cell?_spot z0
      obtain rfl : s = none := by
        rw [Nat.zero_mul] at hs
        simpa [Addr.add] using hs
      have c0 := hcell 0 (by omega)
      have c1 := hcell 1 (by omega)
      have c2 := hcell 2 (by omega)
      rw [Addr.add_lit, Addr.add_lit] at c0 c1 c2
      exact ⟨b, o, rfl, c0, c1, c2⟩
    · intro q hq
      obtain ⟨i, hi, rfl⟩ := List.mem_map.1 hq
      exact (hp i (List.mem_range.1 hi)).1

def Opn.t (o : Opn) : Rs := (o.k, o.s, o.v)
theorem ops_cells : ∀ (P : List Opn) (W : World) (b o : Nat), (∀ i (h : i < P.length), W.cell? ⟨b, o + i * 3, none⟩ = some (.int .i64 P[i].k) ∧ W.cell? ⟨b, o + i * 3 + 1, none⟩ = some (.int .i64 P[i].s) ∧ W.cell? ⟨b, o + i * 3 + 2, none⟩ = some (.string P[i].v)) → ∀ j u, (rcs (P.map Opn.t))[j]? = some u → W.cell? ⟨b, o + j, none⟩ = some u
  | [], W, b, o, _, j, u, hu => by simp [rcs] at hu
  | p :: r, W, b, o, h, j, u, hu => by
    obtain ⟨h0, h1, h2⟩ := h 0 (by simp)
    simp only [Nat.zero_mul, Nat.add_zero, List.getElem_cons_zero] at h0 h1 h2
    match j, hu with
    | 0, hu => simp [rcs, Opn.t] at hu; subst hu; exact h0
    | 1, hu => simp [rcs, Opn.t] at hu; subst hu; exact h1
    | 2, hu => simp [rcs, Opn.t] at hu; subst hu; exact h2
    | j + 3, hu =>
      have := ops_cells r W b (o + 3) (fun i hi => by
        have := h (i + 1) (by simpa using hi)
        simp only [List.getElem_cons_succ] at this
        rw [show o + 3 + i * 3 = o + (i + 1) * 3 by omega]
        exact this) j u (by simpa [rcs] using hu)
      rw [show o + (j + 3) = o + 3 + j by omega]
      exact this
theorem ops_of_own {T : TypeId} {B : Nat} {w : World} {g n c : Nat} {P : List Opn} {E : List Rs} (h : Own3 T B w (.slice (some ⟨g, 0, none⟩) n c) (P.map Opn.t ++ E)) : Ops w (some ⟨g, 0, none⟩) P := fun i hi => by
  obtain ⟨c0, c1, c2⟩ := h.cell i P[i].t (by rw [List.getElem?_append_left (by simpa using hi)]; simp [hi])
  refine ⟨g, 0, rfl, ?_, ?_, ?_⟩
  · rw [Nat.zero_add]; exact c0
  · rw [Nat.zero_add]; exact c1
  · rw [Nat.zero_add]; exact c2
/-- 'append' of operations that came in. -/
theorem app_ops (w : World) {ops : Array Oper} {rest : List Oper} {o : Oper} {a : Act} {Q : Exit → Act → World → Prop} (hgd : o.guard = none) (s x : Operand)
    (ho : o.op = .call { callee := .builtin .append, args := #[s, x], argTypes := #[22, 22] }) (B : Nat) (l : List Rs) (v : Value) (hs : a.eval s = v)
    (ad : Option Addr) (P : List Opn) (c : Nat) (hx : a.eval x = .slice ad P.length c) (hP : Ops w ad P) (hnil : ad = none → P.length = 0 ∧ c = 0) (hown : Own3 30 B w v l) (hB : B ≤ w.heap.size) (hb : (l.length + P.length) * 32 ≤ 140737488355328)
    (hk : ∀ v' w', Own3 30 B w' v' (l ++ P.map Opn.t) → w.grownBy w' v.ownBlock → wpList Try.prog ops Q rest (a.put o.dst v') w') : wpList Try.prog ops Q (o :: rest) a w := by
  cases ad with
  | none =>
    obtain ⟨hp0, rfl⟩ := hnil rfl
    obtain rfl : P = [] := List.eq_nil_of_length_eq_zero hp0
    exact app3_none tyOp w hgd s x ho B l v hs hx hown (hk v w (by simpa using hown) (World.grownBy.refl _ _))
  | some y =>
    refine app3 tyOp w hgd s x ho B l v hs y P.length c hx (P.map Opn.t) (by simp) (fun j u hu => ?_) hown hB hb hk
    cases P with
    | nil => simp [rcs] at hu
    | cons p r =>
      obtain ⟨q, o', e, _⟩ := hP 0 (by simp)
      cases e
      rw [Addr.add_lit]
      refine ops_cells (p :: r) w q o' (fun i hi => ?_) j u hu
      obtain ⟨q2, o2, e2, c0, c1, c2⟩ := hP i hi
      cases e2
      exact ⟨c0, c1, c2⟩
end Go.Proofs.Ytamdkajkmokenaa
