import Derived.Test.YtolnkoneilipeaaKd
import Derived.Test.YtolnkoneilipeaaKq
import Derived.Test.YtolnkoneilipeaaKp
import Derived.Test.YtolnkoneilipeaaDe
import Derived.Test.YtolnkoneilipeaaIu1
import Derived.Laws.EntriesVeiled
namespace Go.Proofs.Ytolnkoneilipeaa
open Go.RowKit Go.Shelf
open Classical
set_option linter.unusedVariables false
attribute [local go_sem] Oper.semAt_some

def e00 : En := ⟨0, 0, ⟨0, 0, ByteArray.empty⟩⟩
def encE (K : List En) (first : Int) (i : Nat) : Array Value := #[.int .i64 (first + (i : Int)), (K.getD i e00).val]
/-- Each's function of oplog, as an iterator. -/
theorem each2O_in (n : Nat) (hn : 1 ≤ n) (k f g : Nat) (first : Int) (K : List En) (h1 : 1 ≤ first) (h2 : first + K.length < 9223372036854775807) (hD : K.length * 48 ≤ 140737488355328) :
    Iter n 17 #[.pointer (some ⟨k, 0, none⟩), .pointer (some ⟨f, 0, none⟩)] K.length (encE K first) (fun W => (LieY yE W g 0 K ∧ W.cell? ⟨f, 0, none⟩ = some (.int .i64 first) ∧ f < W.heap.size) ∧ W.cell? ⟨k, 0, none⟩ = some (.slice (some ⟨g, 0, none⟩) K.length K.length)) := by
  intro l J Jx W hY hJa hJk h0
  refine eachO1_in n hn l k f g first K J Jx h1 h2 (fun i x W hx hJ => ?_) hJa (fun i W h => (hJk i W h).1) W (hJk _ _ h0).2 hD h0
  have hi := (List.getElem?_eq_some_iff.1 hx).1
  have hge : K.getD i e00 = x := by simp [List.getD, hx]
  have := hY i W hi hJ
  rw [encE, hge] at this
  exact this
theorem func_nilO (k f : Nat) (w : World) : (binOp .eql 34 (.func (.func 17) #[] #[.pointer (some ⟨k, 0, none⟩), .pointer (some ⟨f, 0, none⟩)]) .nilFunc).run Try.prog w = .ok (.bool false) w := by kernel_rfl
theorem OwnY.slY {α : Type} {Y : Lay α} {B : Nat} {w : World} {a : Option Addr} {n c : Nat} {l : List α} (K : Y.Ok) (h : OwnY Y B w (.slice a n c) l) : SlY Y w a n c l := by
  obtain ⟨a', c', e, h1, h2, h3, h4⟩ := h.form
  injection e with e1 e2 e3
  subst e1 e2 e3
  refine ⟨rfl, h1, h2, fun e => ?_, fun x hx => ?_⟩
  · obtain ⟨q1, q2⟩ := h3 e
    rw [q1, q2]
    exact ⟨rfl, rfl⟩
  · obtain ⟨g, rfl, hb, hg⟩ := h4 x hx
    subst hx
    refine .inr ⟨g, 0, rfl, hg, fun i x hx j u hu => ?_⟩
    rw [Nat.zero_add]
    exact h.cell K i x hx j u hu
/-- A region that draws its order and only reads, in a round; its steps behind a structure. -/
structure WR (ops : Array Oper) (C : World → Prop) (Q : Act → Prop) (l : List Oper) (a : Act) : Prop where
  out : wpQuiet Try.prog ops C Q l a
theorem region_rw {l n id : Nat} {Q : Exit → Act → World → Prop} {a : Act} {w : World} {os : List Oper} (hm : Try.prog.follows .mixedOrders = true) (hB : Region.lexB .any os.toArray = true) (hnd : os.all noDefer = true)
    (h : WR os.toArray (fun w' => ∃ n, w' = w.drewN n) (fun a' => ∀ w', (∃ n, w' = w.drewN n) → Q .normal a' w') os a) : (Code.region id os.toArray true).wpIn (Fence.wide.inRound l) n Try.prog Q a w :=
  region_round hm hB hnd h.out
theorem wrv {ops : Array Oper} {rest : List Oper} {o : Oper} {a : Act} {C : World → Prop} {Q : Act → Prop} {u : Value} (hw : Region.wanted o (yielded ops a.tmps) = true) (h : ∀ v, C v → (execOp a.eval o).run Try.prog v = .ok (.value u) v) (hk : WR ops C Q rest (a.put o.dst u)) : WR ops C Q (o :: rest) a :=
  ⟨BigFrame.wpQuiet_want hw (fun K hK => ⟨u, fun v hv => by unfold Oper.quietAt; rw [h v hv]; exact ⟨rfl, rfl⟩, hK _ hk.out⟩)⟩
theorem wrn {ops : Array Oper} {rest : List Oper} {o : Oper} {a : Act} {C : World → Prop} {Q : Act → Prop} (hw : Region.wanted o (yielded ops a.tmps) = true) {T ty : TypeId} {x y : Operand} (ho : o.op = .binOp .neq T x y ty) (X Y u : Value) (hx : a.eval x = X) (hy : a.eval y = Y) (hq : ∀ v, (do eqGuard .neq T x y X Y; binOp .neq T X Y : Sem Value).run Try.prog v = .ok u v) (hk : WR ops C Q rest (a.put o.dst u)) : WR ops C Q (o :: rest) a :=
  wrv hw (fun v _ => by
    unfold execOp
    simp only [ho, hx, hy]
    rw [Sem.run_bind, hq v]
    rfl) hk
theorem wrnil {ops : Array Oper} {a : Act} {C : World → Prop} {Q : Act → Prop} (h : Q a) : WR ops C Q [] a := ⟨wpQuiet_nil h⟩

/-- What holds ahead of a turn. -/
structure TI (w8 : World) (t pt : Nat) (rs : List Nat) (ds : List Deferred) (W : World) : Prop where
  le : t ≤ 3
  pl : w8.heap.size ≤ pt
  cell : W.cell? ⟨pt, 0, none⟩ = some (.int .i64 (t : Int))
  fz : W.frozen? ⟨pt, 0, none⟩ = false
  bel : Below w8.heap.size w8 W
  marks : Marks W rs ds
  low : ∀ r, r ∈ rs → w8.heap.size ≤ r
def tmeas11 (a : Act) (W : World) : Nat := match a.tmps.getD 11 undef with
  | .pointer (some p) => 3 - (intOf ((W.cell? p).getD undef)).toNat
  | _ => 0
theorem wpIn_loop_k {F : Fence} {n : Nat} {P : Program} {Q : Exit → Act → World → Prop} {a : Act} {w : World} {c : Code} (I : Act → World → Prop) (m : Act → World → Nat) (h0 : I a w)
    (round : ∀ a w, I a w → ∀ K : Act → World → Prop, Hid (∀ a' w', I a' w' → m a' w' < m a w → K a' w') → c.wpIn F n P (Exit.then K Q) a w) : (Code.loop c).wpIn F n P Q a w :=
  wpIn_loop I m h0 fun a w h => round a w h _ (hide (fun _ _ h1 h2 => ⟨h1, h2⟩))
/-- What a round keeps: the counter's cell alone has changed. -/
structure EI (wR : World) (pn i : Nat) (V : World) : Prop where
  upd : Upd (· = pn) wR V
  cell : V.cell? ⟨pn, 0, none⟩ = some (.int .i64 (i : Int))
  fz : V.frozen? ⟨pn, 0, none⟩ = false
theorem EI.row {wR V V' : World} {pn i : Nat} {row : Option Nat} (h : EI wR pn i V) (hg : V.grownBy V' row) (hr : ∀ r, row = some r → r ≠ pn ∧ wR.heap.size ≤ r) : EI wR pn i V' :=
  ⟨h.upd.grownBy hg (fun k e hk => by have := (hr k e).2; omega), gcell hg h.cell (fun e => (hr _ e).1 rfl), gfroz hg (World.block_lt_of_cell? _ _ h.cell) h.fz (fun e => (hr _ e).1 rfl)⟩
theorem EI.set {wR V : World} {pn i : Nat} (h : EI wR pn i V) {v : Int} (hv : v = ((i + 1 : Nat) : Int)) : EI wR pn (i + 1) (V.setCell ⟨pn, 0, none⟩ (.int .i64 v)) :=
  ⟨h.upd.setCell (p := ⟨pn, 0, none⟩) (.inl rfl) _, by rw [hv]; exact setc_eq h.cell, setf h.fz⟩
theorem EI.on {wR V U : World} {pn i pm : Nat} (h : EI wR pn i V) (u : Upd (· = pm) V U) (hp : wR.heap.size ≤ pm) (hn : pn ≠ pm) : EI wR pn i U :=
  ⟨⟨u.os.trans h.upd.os, u.tape.trans h.upd.tape, u.output.trans h.upd.output, Nat.le_trans h.upd.size u.size, fun k hk hs => (u.block k (Nat.lt_of_lt_of_le hk h.upd.size) (by omega)).trans (h.upd.block k hk hs)⟩,
    (u.cell (p := ⟨pn, 0, none⟩) (World.block_lt_of_cell? _ _ h.cell) hn).trans h.cell, (u.frozen (p := ⟨pn, 0, none⟩) (World.block_lt_of_cell? _ _ h.cell) hn).trans h.fz⟩
theorem EI.new (w : World) (T : TypeId) : EI (w.alloc (.cells #[.int .i64 0] T)) w.heap.size 0 (w.alloc (.cells #[.int .i64 0] T)) :=
  ⟨Upd.refl _ _, by go_simp, by go_simp⟩

end Go.Proofs.Ytolnkoneilipeaa
