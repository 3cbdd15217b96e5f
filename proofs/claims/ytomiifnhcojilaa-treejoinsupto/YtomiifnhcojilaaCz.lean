import Derived.Test.YtomiifnhcojilaaGYa
namespace Go.Proofs.Ytomiifnhcojilaa
open Go.RowKit Go.Maps
open Classical
set_option linter.unusedVariables false
set_option linter.unusedSimpArgs false

/-- An entry of a log. -/
structure En where
  c : Int
  n : Int
  o : Opn
def En.cs (e : En) : List Value := [.int .i64 e.c, .int .i64 e.n, .int .i64 e.o.k, .int .i64 e.o.s, .string e.o.v]
structure En.fits (e : En) : Prop where
  cw : (Lit.int .i64 e.c).wf = true
  nw : (Lit.int .i64 e.n).wf = true
  ow : e.o.fits
def yE : Lay En := ⟨28, 22, 5, 48, En.cs, ⟨0, 0, ⟨0, 0, ByteArray.empty⟩⟩⟩
theorem kE : yE.Ok := ⟨by decide, fun x => rfl, fun x u h => by
    simp [yE, En.cs] at h
    rcases h with rfl | rfl | rfl | rfl | rfl <;> rfl, Try.underlying22, ⟨.agg #[.int .i64 0, .int .i64 0, .int .i64 0, .int .i64 0, .string ByteArray.empty], by kernel_rfl, rfl⟩⟩
theorem SlY.en {w : World} {a : Option Addr} {n c : Nat} {L : List En} (h : SlY yE w a n c L) {j : Nat} {e : En} (he : L[j]? = some e) : ∃ q o, a = some ⟨q, o, none⟩ ∧ q < w.heap.size ∧ w.cell? ⟨q, o + j * 5, none⟩ = some (.int .i64 e.c) ∧ w.cell? ⟨q, o + j * 5 + 1, none⟩ = some (.int .i64 e.n) ∧ w.cell? ⟨q, o + j * 5 + 2, none⟩ = some (.int .i64 e.o.k) ∧ w.cell? ⟨q, o + j * 5 + 3, none⟩ = some (.int .i64 e.o.s) ∧ w.cell? ⟨q, o + j * 5 + 4, none⟩ = some (.string e.o.v) := by
  obtain ⟨q, o, ea, hq, hl⟩ := h.place (by rintro rfl; simp at he)
  exact ⟨q, o, ea, hq, hl j e he 0 _ rfl, hl j e he 1 _ rfl, hl j e he 2 _ rfl, hl j e he 3 _ rfl, hl j e he 4 _ rfl⟩
/-- One element in a new block. -/
theorem sl_box {α : Type} {Y : Lay α} (w : World) (x : α) (T : TypeId) : SlY Y (w.alloc (.cells (Y.cs x).toArray T)) (some ⟨w.heap.size, 0, none⟩) 1 1 [x] :=
  ⟨rfl, Nat.le_refl _, by unfold maxLen; omega, (fun e => by cases e), fun y hy => by
    cases hy
    refine .inr ⟨w.heap.size, 0, rfl, by simp, fun i z hz j u hu => ?_⟩
    match i, hz with
    | 0, hz =>
      simp at hz
      subst hz
      rw [Nat.zero_mul, Nat.zero_add]
      rw [World.cell?_alloc_at _ _ _ _ rfl, List.getElem?_toArray]
      exact hu
    | i + 1, hz => simp at hz⟩
theorem OwnY.drew {α : Type} {Y : Lay α} {B : Nat} {w : World} {v : Value} {l : List α} (h : OwnY Y B w v l) : OwnY Y B w.drew v l := World.ownsRow.drew h
/-- A box is a row of one. -/
theorem own_box {α : Type} {Y : Lay α} (K : Y.Ok) (B : Nat) (w : World) (x : α) (hB : B ≤ w.heap.size) : OwnY Y B (w.alloc (.cells (Y.cs x).toArray Y.T)) (.slice (some ⟨w.heap.size, 0, none⟩) 1 1) [x] := by
  have h := World.ownsRow_lit (e := Y.T) (size := Y.k) w (Y.cs x).toArray 1 hB (by unfold maxLen; omega) (by rw [List.size_toArray, K.len, Nat.one_mul])
  have e : fl Y [x] = (Y.cs x).toArray.toList := by simp [fl]
  unfold OwnY
  rw [e]
  exact h
theorem SlY.drewN {α : Type} {Y : Lay α} {w : World} {a : Option Addr} {n c : Nat} {l : List α} (h : SlY Y w a n c l) (k : Nat) : SlY Y (w.drewN k) a n c l := h.later (belN (Below.refl _ w) k)
/-- Elements in a new block. -/
theorem sl_lit {α : Type} {Y : Lay α} (K : Y.Ok) (w : World) (l : List α) (T : TypeId) (hm : l.length ≤ maxLen) : SlY Y (w.alloc (.cells (fl Y l).toArray T)) (some ⟨w.heap.size, 0, none⟩) l.length l.length l :=
  ⟨rfl, Nat.le_refl _, hm, (fun e => by cases e), fun y hy => by
    cases hy
    refine .inr ⟨w.heap.size, 0, rfl, by simp, fun i z hz j u hu => ?_⟩
    rw [Nat.zero_add, World.cell?_alloc_at _ _ _ _ rfl, List.getElem?_toArray, fl_get K l i z hz j (by have := (List.getElem?_eq_some_iff.1 hu).1; rw [K.len] at this; exact this)]
    exact hu⟩
def zE : Lay (SV En) := yS En 22 31
theorem kzE : zE.Ok := kS Try.underlying31 (by kernel_rfl)
/-- The mark behind. -/
def mkE : En := ⟨-77, -88, ⟨0, 0, ByteArray.empty⟩⟩
set_option maxRecDepth 100000 in
theorem copyent_any (a : Option Addr) (n c : Nat) (D : List En) (w : World) (h : SlY yE w a n c D) (hb : n * 48 ≤ 140737488355328) :
    Calls Try.prog 40 #[.slice a n c] w fun e w' => ∃ v', e = .returned v' ∧ OwnY yE w.heap.size w' v' D ∧ Below w.heap.size w w' := by
  have H := hide h
  clear h
  go_enter Try.func40, Try.ntmps40
  go_wp2_with (at_builtin; go_must (refine appY kE _ rfl (.const (.slice none 0 0)) (.tmp 3) rfl w.heap.size [] _ rfl a n c rfl D H.out (OwnY.nil _ _ _) (Nat.le_refl _) (by unfold maxLen; simp; omega) (by show (0 + n) * 48 ≤ _; omega) ?_))
  intro v' w' h1 h3 _
  have hb : Below w.heap.size w w' := (Below.refl _ _).grown h3 (Nat.le_refl _) (fun k hk => by cases hk)
  go_wp2
  go_ret
  exact ⟨v', rfl, h1, hb⟩
set_option maxRecDepth 100000 in
/-- A call of CopyEntries, in a region that draws its order. -/
theorem step_copyent {ops : Array Oper} {o : Oper} {a : Act} {w : World} {K : Act → World → Prop} {Q : Exit → Act → World → Prop} {E : Prop} (hg : o.guard = none) (x : Operand)
    (ho : o.op = .call { callee := .value (.func 40), args := #[x], argTypes := #[22] }) (ad : Option Addr) (n c : Nat) (hx : a.eval x = .slice ad n c) (D : List En) (h : SlY yE w ad n c D) (hm : n * 48 ≤ 140737488355328)
    (hK : ∀ v' w', OwnY yE w.heap.size w' v' D → Below w.heap.size w w' → K (a.put o.dst v') w') :
    if Region.wanted o (yielded ops a.tmps) = true then Oper.wp Try.prog o a w K Q else E := by
  have hw : Region.wanted o (yielded ops a.tmps) = true := by simp [Region.wanted, hg]
  rw [if_pos hw]
  have hr : (execOp a.eval o).run Try.prog w = .ok (.enter 40 #[.slice ad n c]) w := by
    unfold execOp
    simp only [ho, resolve, invoke, Sem.run_bind, List.map_toArray, List.map_cons, List.map_nil, hx]
    rfl
  unfold Oper.wp
  rw [hr, Oper.upon_enter]
  refine (copyent_any ad n c D w h hm).mono ?_
  rintro e w' ⟨v', rfl, h1, h2⟩
  exact hK v' w' h1 h2
theorem hTE : yE.T ≠ zE.T := by decide
theorem eqlE (a b c d : Int) (v : ByteArray) (a' b' c' d' : Int) (v' : ByteArray) (w : World) : (binOp .eql 28 (.agg #[.int .i64 a, .int .i64 b, .int .i64 c, .int .i64 d, .string v]) (.agg #[.int .i64 a', .int .i64 b', .int .i64 c', .int .i64 d', .string v'])).run Try.prog w = .ok (.bool (decide ((⟨a, b, ⟨c, d, v⟩⟩ : En) = ⟨a', b', ⟨c', d', v'⟩⟩))) w := by
  go_simp
  by_cases e1 : a = a' <;> by_cases e2 : b = b' <;> by_cases e3 : c = c' <;> by_cases e4 : d = d' <;> by_cases e5 : v = v' <;> simp [e1, e2, e3, e4, e5, bytes_inj]
theorem neqE (a b c d : Int) (v : ByteArray) (a' b' c' d' : Int) (v' : ByteArray) (w : World) : (binOp .neq 28 (.agg #[.int .i64 a, .int .i64 b, .int .i64 c, .int .i64 d, .string v]) (.agg #[.int .i64 a', .int .i64 b', .int .i64 c', .int .i64 d', .string v'])).run Try.prog w = .ok (.bool (!decide ((⟨a, b, ⟨c, d, v⟩⟩ : En) = ⟨a', b', ⟨c', d', v'⟩⟩))) w := by
  go_simp
  by_cases e1 : a = a' <;> by_cases e2 : b = b' <;> by_cases e3 : c = c' <;> by_cases e4 : d = d' <;> by_cases e5 : v = v' <;> simp [e1, e2, e3, e4, e5, bytes_inj]

end Go.Proofs.Ytomiifnhcojilaa
