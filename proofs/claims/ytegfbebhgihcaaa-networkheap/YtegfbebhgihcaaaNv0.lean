import Derived.Test.YtegfbebhgihcaaaNl3
import Derived.Test.YtegfbebhgihcaaaVl
namespace Go.Proofs.Ytegfbebhgihcaaa
open Go.RowKit Go.Maps
open Classical
set_option linter.unusedVariables false
set_option linter.unusedSimpArgs false

/-! Frames that are variables, for network. -/
theorem v_cond9 {x : Code} {R : Exit → Act → World → Prop} {T : Array Value} {w : World} {t : Nat} {b : Bool} (J : Array Value → World → Prop) (ht : T[t]? = some (gw true (.bool b))) (h1 : b = true → x.wp Try.prog (Exit.then (fun a w' => ∃ T', a = ⟨T', []⟩ ∧ J T' w') R) ⟨T, []⟩ w) (h2 : b = false → J T w) (hk : ∀ T' w', J T' w' → R .normal ⟨T', []⟩ w') : (Code.cond (.tmp t) x .skip).wp Try.prog R ⟨T, []⟩ w := by
  cases b with
  | true =>
    refine wp_cond_true (ev ht rfl) (Code.wp_mono (fun e a' w' h => ?_) (h1 rfl))
    cases e with
    | normal =>
      obtain ⟨T', rfl, hJ⟩ := h
      exact hk T' w' hJ
    | _ => exact h
  | false => exact wp_cond_false (ev ht rfl) (wp_skip (hk T w (h2 rfl)))
theorem want_k {ops : Array Oper} {o : Oper} {T : Array Value} {g j : Nat} {pol : Bool} (h : o.guard = some (g, pol)) (hg : (ops[g]?).bind (·.dst) = some j) (hj : T[j]? = some (gw true (.bool pol))) : Region.wanted o (yielded ops T) = true := by
  rw [want_g h hg hj]
  simp
theorem vh_val9 {ops : Array Oper} {o : Oper} {T : Array Value} {df : List Deferred} {w : World} {Q : Exit → Act → World → Prop} {S : World → Prop} {fuel d n : Nat} {listed : Array Bool} (i : Nat) (V : Value) (w' : World) (hi : ops[i]? = some o) (hr : Region.ready .any ops listed = [i])
    (hw : Region.wanted o (yielded ops T) = true) (he : (execOp (⟨T, df⟩ : Act).eval o).run Try.prog w = .ok (.value V) w') (hd : o.dst = some d) (hz : T.size = n) (hn : d < n) (hS : S w')
    (hk : ∀ T' : Array Value, T'.size = n → (∀ j, j ≠ d → T'[j]? = T[j]?) → T'[d]? = some (gw true V) → VH ops Q S fuel (listed.setIfInBounds i true) ⟨T', df⟩ w') : VH ops Q S (fuel + 1) listed ⟨T, df⟩ w := by
  refine ⟨wpAnyH_all hr (by simp) (fun j hj => ?_)⟩
  obtain rfl : j = i := by simpa using hj
  unfold wpOp
  rw [hi]
  simp only [hw, if_true]
  unfold Oper.wp
  rw [he]
  simp only [Oper.upon]
  rw [hd]
  exact .inl ⟨hS, (hk (T.setIfInBounds d V) (by simp [hz]) (fun i hi => at_set_ne _ hi) (at_set _ (by omega))).out⟩
theorem vh_store9 {ops : Array Oper} {o : Oper} {T : Array Value} {df : List Deferred} {w : World} {Q : Exit → Act → World → Prop} {S : World → Prop} {fuel : Nat} {listed : Array Bool} (i : Nat) (w' : World) (hi : ops[i]? = some o) (hr : Region.ready .any ops listed = [i])
    (hw : Region.wanted o (yielded ops T) = true) (he : (execOp (⟨T, df⟩ : Act).eval o).run Try.prog w = .ok .skip w') (hd : o.dst = none) (hS : S w')
    (hk : VH ops Q S fuel (listed.setIfInBounds i true) ⟨T, df⟩ w') : VH ops Q S (fuel + 1) listed ⟨T, df⟩ w := by
  refine ⟨wpAnyH_all hr (by simp) (fun j hj => ?_)⟩
  obtain rfl : j = i := by simpa using hj
  unfold wpOp
  rw [hi]
  simp only [hw, if_true]
  unfold Oper.wp
  rw [he]
  simp only [Oper.upon]
  rw [hd]
  exact .inl ⟨hS, hk.out⟩
theorem ex_ext9 {o : Oper} {ρ : Operand → Value} {x : Operand} {i : Nat} {X V : Value} {w : World} (ho : o.op = .extract x i) (hx : ρ x = X) (hr : (Instr.extract X i).run Try.prog w = .ok V w) : (execOp ρ o).run Try.prog w = .ok (.value V) w := by
  unfold execOp
  simp only [ho, hx]
  simp [hr]
theorem ex_slice9 {o : Oper} {ρ : Operand → Value} {s : TypeId} {x : Operand} {lo hi mx : Option Operand} {X V : Value} {l h m : Option Value} {w : World} (ho : o.op = .slice s x lo hi mx) (hx : ρ x = X) (hl : lo.map ρ = l) (hh : hi.map ρ = h) (hm : mx.map ρ = m) (hr : (Instr.sliceAt s X l h m).run Try.prog w = .ok V w) : (execOp ρ o).run Try.prog w = .ok (.value V) w := by
  unfold execOp
  simp only [ho, hx, hl, hh, hm]
  simp [hr]
theorem ex_app9 {o : Oper} {T : Array Value} {df : List Deferred} {s x : Nat} {t : TypeId} {X Y V : Value} {w w' : World} (ho : o.op = .call { callee := .builtin .append, args := #[.tmp s, .tmp x], argTypes := #[t, t] }) (hs : (⟨T, df⟩ : Act).eval (.tmp s) = X) (hx : (⟨T, df⟩ : Act).eval (.tmp x) = Y) (hr : (Builtin.append_ #[t, t] o.type #[X, Y]).run Try.prog w = .ok V w') : (execOp (⟨T, df⟩ : Act).eval o).run Try.prog w = .ok (.value V) w' := by
  unfold execOp
  simp only [ho, resolve, invoke, builtin, Sem.run_bind, Sem.run_pure, Result.andThen_ok, List.map_toArray, List.map_cons, List.map_nil, hs, hx, hr]
theorem ex_lenP {o : Oper} {ρ : Operand → Value} {i : Nat} {a : Option Addr} {n k : Nat} {w : World} (ho : o.op = .call { callee := .builtin .len, args := #[.tmp i], argTypes := #[60] }) (ht : o.type = 3) (hx : ρ (.tmp i) = .slice a n k) : (execOp ρ o).run Try.prog w = .ok (.value (.int .i64 (n : Int))) w := by
  unfold execOp
  simp only [ho, resolve, invoke, builtin, Sem.run_bind, Sem.run_pure, Result.andThen_ok, List.map_toArray, List.map_cons, List.map_nil, hx, ht]
  go_simp
theorem ex_lenU {o : Oper} {ρ : Operand → Value} {i : Nat} {a : Option Addr} {n k : Nat} {w : World} (ho : o.op = .call { callee := .builtin .len, args := #[.tmp i], argTypes := #[44] }) (ht : o.type = 3) (hx : ρ (.tmp i) = .slice a n k) : (execOp ρ o).run Try.prog w = .ok (.value (.int .i64 (n : Int))) w := by
  unfold execOp
  simp only [ho, resolve, invoke, builtin, Sem.run_bind, Sem.run_pure, Result.andThen_ok, List.map_toArray, List.map_cons, List.map_nil, hx, ht]
  go_simp
/-- Three cells: a packet that lies somewhere. -/
structure C3 (w : World) (q o : Nat) (x : Ap) : Prop where
  lt : q < w.heap.size
  c0 : w.cell? ⟨q, o, none⟩ = some (.int .i64 x.f)
  c1 : w.cell? ⟨q, o + 1, none⟩ = some (.int .i64 x.t)
  c2 : w.cell? ⟨q, o + 2, none⟩ = some (.slice x.a x.s.length x.c)
theorem C3.upd {S : Nat → Prop} {w w' : World} {q o : Nat} {x : Ap} (h : C3 w q o x) (u : Upd S w w') (hs : ¬ S q) : C3 w' q o x :=
  ⟨Nat.lt_of_lt_of_le h.lt u.size, (u.cell (p := ⟨q, o, none⟩) h.lt hs).trans h.c0, (u.cell (p := ⟨q, o + 1, none⟩) h.lt hs).trans h.c1, (u.cell (p := ⟨q, o + 2, none⟩) h.lt hs).trans h.c2⟩
theorem C3.bel {w w' : World} {q o : Nat} {x : Ap} (h : C3 w q o x) (hb : Below w.heap.size w w') : C3 w' q o x := h.upd (S := fun _ => False) (Upd.of_below hb) id
theorem C3.ld {w : World} {q o : Nat} {x : Ap} (h : C3 w q o x) : (Instr.loadAt 46 (.pointer (some ⟨q, o, none⟩))).run Try.prog w = .ok x.val w := by
  have h0 := h.c0
  have h1 := h.c1
  have h2 := h.c2
  unfold Ap.val
  clear h
  go_simp
theorem C3.ldB {w : World} {q o : Nat} {x : Ap} (h : C3 w q o x) : (Instr.loadAt 44 (.pointer (some ⟨q, o + 2, none⟩))).run Try.prog w = .ok (.slice x.a x.s.length x.c) w := by
  have h2 := h.c2
  clear h
  go_simp
theorem faB (q o : Nat) (w : World) : (Instr.fieldAt 46 (.pointer (some ⟨q, o, none⟩)) 2).run Try.prog w = .ok (.pointer (some ⟨q, o + 2, none⟩)) w := by go_simp
theorem ixP (q o n c i : Nat) (hi : i < n) (w : World) : (Instr.indexAt 60 (.slice (some ⟨q, o, none⟩) n c) (.int .i64 (i : Int))).run Try.prog w = .ok (.pointer (some ⟨q, o + i * 3, none⟩)) w := by
  have h1 : (i : Int) < (n : Int) := by omega
  go_simp
theorem ixU (g n c i : Nat) (hi : i < n) (w : World) : (Instr.indexAt 44 (.slice (some ⟨g, 0, none⟩) n c) (.int .i64 (i : Int))).run Try.prog w = .ok (.pointer (some ⟨g, i, none⟩)) w := by
  have h1 : (i : Int) < (n : Int) := by omega
  go_simp
theorem ldU {w : World} {g i : Nat} {z : UInt8} (h : w.cell? ⟨g, i, none⟩ = some (.int .u8 (z.toNat : Int))) : (Instr.loadAt 5 (.pointer (some ⟨g, i, none⟩))).run Try.prog w = .ok (.int .u8 (z.toNat : Int)) w := by
  go_simp
theorem stU {w : World} {g i : Nat} {z : Value} (h : w.cell? ⟨g, i, none⟩ = some z) (hf : w.frozen? ⟨g, i, none⟩ = false) (y : Int) : (Instr.storeAt 5 (.pointer (some ⟨g, i, none⟩)) (.int .u8 y)).run Try.prog w = .ok () (w.setCell ⟨g, i, none⟩ (.int .u8 y)) := by
  go_simp
theorem xorU (x y : Operand) (a b : UInt8) (w : World) : (do eqGuard .xor 5 x y (.int .u8 (a.toNat : Int)) (.int .u8 (b.toNat : Int)); binOp .xor 5 (.int .u8 (a.toNat : Int)) (.int .u8 (b.toNat : Int)) : Sem Value).run Try.prog w = .ok (.int .u8 ((a ^^^ b).toNat : Int)) w := by
  have ha := a.toNat_lt
  have hb := b.toNat_lt
  have e : bits .xor .u8 (a.toNat : Int) (b.toNat : Int) = ((a ^^^ b).toNat : Int) := u8_xor a b
  go_simp
  first | done | exact congrArg _ e | (simp [e])
theorem neqU (x y : Operand) (a : Int) (w : World) : (do eqGuard .neq 5 x y (.int .u8 a) (.int .u8 a); binOp .neq 5 (.int .u8 a) (.int .u8 a) : Sem Value).run Try.prog w = .ok (.bool false) w := by
  go_simp
theorem neqE9 (x y : Operand) (a : Int) (w : World) : (do eqGuard .neq 24 x y (.int .i64 a) (.int .i64 a); binOp .neq 24 (.int .i64 a) (.int .i64 a) : Sem Value).run Try.prog w = .ok (.bool false) w := by
  go_simp
theorem eqlE9 (x y : Operand) (a : Int) (w : World) : (do eqGuard .eql 24 x y (.int .i64 a) (.int .i64 a); binOp .eql 24 (.int .i64 a) (.int .i64 a) : Sem Value).run Try.prog w = .ok (.bool true) w := by
  go_simp
theorem neqI (x y : Operand) (a : Int) (w : World) : (do eqGuard .neq 3 x y (.int .i64 a) (.int .i64 a); binOp .neq 3 (.int .i64 a) (.int .i64 a) : Sem Value).run Try.prog w = .ok (.bool false) w := by
  go_simp
theorem subI (x y : Operand) (n : Nat) (h1 : 0 < n) (h2 : n < 4611686018427387904) (w : World) : (do eqGuard .sub 3 x y (.int .i64 (n : Int)) (.int .i64 1); binOp .sub 3 (.int .i64 (n : Int)) (.int .i64 1) : Sem Value).run Try.prog w = .ok (.int .i64 ((n : Int) - 1)) w := by
  have e : IntKind.i64.wrap ((n : Int) - 1) = (n : Int) - 1 := by rw [IntKind.wrap_i64]; omega
  go_simp
theorem addI (x y : Operand) (n : Nat) (h2 : n < 4611686018427387904) (w : World) : (do eqGuard .add 3 x y (.int .i64 (n : Int)) (.int .i64 1); binOp .add 3 (.int .i64 (n : Int)) (.int .i64 1) : Sem Value).run Try.prog w = .ok (.int .i64 ((n + 1 : Nat) : Int)) w := by
  have e : IntKind.i64.wrap ((n : Int) + 1) = ((n + 1 : Nat) : Int) := by rw [IntKind.wrap_i64]; omega
  go_simp
theorem alP (w : World) : (Instr.alloc 46 true (.tuple #[])).run Try.prog w = .ok (.pointer (some ⟨w.heap.size, 0, none⟩)) (w.alloc (.cells #[.int .i64 0, .int .i64 0, .slice none 0 0] 46)) := by
  go_simp
/-- A packet's box written over. -/
def put3 (w : World) (q : Nat) (x : Ap) : World := ((w.setCell ⟨q, 0, none⟩ (.int .i64 x.f)).setCell ⟨q, 1, none⟩ (.int .i64 x.t)).setCell ⟨q, 2, none⟩ (.slice x.a x.s.length x.c)
theorem stP {w : World} {q : Nat} {x y z : Value} (h : B3 w q x y z) (p : Ap) : (Instr.storeAt 46 (.pointer (some ⟨q, 0, none⟩)) p.val).run Try.prog w = .ok () (put3 w q p) := by
  obtain ⟨_, c0, c1, c2, fr⟩ := h
  have f0 := fr 0
  have f1 := fr 1
  have f2 := fr 2
  unfold Ap.val put3
  go_simp
theorem B3.put3 {w : World} {q : Nat} {x y z : Value} (h : B3 w q x y z) (p : Ap) : B3 (put3 w q p) q (.int .i64 p.f) (.int .i64 p.t) (.slice p.a p.s.length p.c) ∧ Upd (fun k => k = q) w (put3 w q p) :=
  ⟨((h.set0 _).set1 _).set2 _, set3 w q _ _ _⟩
theorem B3.c3 {w : World} {q : Nat} {p : Ap} (h : B3 w q (.int .i64 p.f) (.int .i64 p.t) (.slice p.a p.s.length p.c)) : C3 w q 0 p := ⟨h.lt, h.c0, h.c1, h.c2⟩

theorem Hs.c3 {A : Nat → Prop} {w0 w : World} {Bp Tp b q o n c : Nat} {K : List Ap} {W P : List Pk} (h : Hs A w0 Bp Tp b (.slice (some ⟨q, o, none⟩) n c) K W w P) {i : Nat} {u : Ap} (hu : K[i]? = some u) : C3 w q (o + i * 3) u := by
  obtain ⟨q', o', e', hq, hl⟩ := (OwnY.sl' kA h.l.l.own).place (by rintro rfl; simp at hu)
  cases e'
  exact ⟨hq, hl _ _ hu 0 _ rfl, hl _ _ hu 1 _ rfl, hl _ _ hu 2 _ rfl⟩
theorem Hs.uin {A : Nat → Prop} {w0 w : World} {Bp Tp b : Nat} {v : Value} {K : List Ap} {W P : List Pk} (h : Hs A w0 Bp Tp b v K W w P) {i : Nat} {u : Ap} (hu : K[i]? = some u) : u.In w := (h.l.l.ow u (List.mem_of_getElem? hu)).sl
theorem Hs.ne {A : Nat → Prop} {w0 w : World} {Bp Tp b : Nat} {v : Value} {K : List Ap} {W P : List Pk} (h : Hs A w0 Bp Tp b v K W w P) {q : Nat} (hq : A q) : ¬ q = b := by
  obtain ⟨pv, rv, mb, n, R, M, h1, h2, h3, h4, h5⟩ := h.n.ex
  exact (h5 q hq).1
theorem Hs.less {A A' : Nat → Prop} {w0 w : World} {Bp Tp b : Nat} {v : Value} {K : List Ap} {W P : List Pk} (h : Hs A w0 Bp Tp b v K W w P) (hA : ∀ j, A' j → A j) : Hs A' w0 Bp Tp b v K W w P := h.stepA (Below.refl _ _) (fun j hj => .inl (hA j hj))
/-- l[:k] -/
theorem slTo (q o n c k : Nat) (h1 : k ≤ n) (h2 : k ≤ c) (w : World) : (Instr.sliceAt 60 (.slice (some ⟨q, o, none⟩) n c) none (some (.int .i64 (k : Int))) none).run Try.prog w = .ok (.slice (some ⟨q, o, none⟩) k c) w := by
  have e1 : (0 : Int) ≤ (k : Int) := by omega
  have e2 : (k : Int) ≤ (c : Int) := by omega
  go_simp
def adK (q o c k : Nat) : Addr := if c = k then ⟨q, o, none⟩ else ⟨q, o + k * 3, none⟩
/-- l[k:] -/
theorem slFrom (q o n c k : Nat) (h1 : k ≤ n) (h2 : n ≤ c) (w : World) : (Instr.sliceAt 60 (.slice (some ⟨q, o, none⟩) n c) (some (.int .i64 (k : Int))) none none).run Try.prog w = .ok (.slice (some (adK q o c k)) (n - k) (c - k)) w := by
  have e1 : (0 : Int) ≤ (k : Int) := by omega
  have e2 : (k : Int) ≤ (n : Int) := by omega
  have e3 : (n : Int) ≤ (c : Int) := by omega
  unfold adK
  by_cases h : c = k
  · subst h
    go_simp
    first | done | simp
  · rw [if_neg h]
    go_simp
    first | done | simp [h]

end Go.Proofs.Ytegfbebhgihcaaa
