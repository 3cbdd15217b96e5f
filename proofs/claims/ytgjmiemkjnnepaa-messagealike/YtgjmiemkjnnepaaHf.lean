import Derived.Test.YtgjmiemkjnnepaaHx
namespace Go.Proofs.Ytgjmiemkjnnepaa
open Go.RowKit Go.Maps
open Classical
set_option linter.unusedVariables false
set_option linter.unusedSimpArgs false

theorem boxMk {ops : Array Oper} {rest : List Oper} {o : Oper} {a : Act} {w : World} {Q : Exit → Act → World → Prop} (hgd : o.guard = none) (x : Operand) (ho : o.op = .box 36 x) (m : Mg) (s t : Value) (hx : a.eval x = m.val s t)
    (hk : ∀ p w', p = w.heap.size → MBox w' p m s t → Below w.heap.size w w' → w'.heap.size = p + 1 → wpList Try.prog ops Q rest (a.put o.dst (.pointer (some ⟨p, 0, none⟩))) w') : wpList Try.prog ops Q (o :: rest) a w :=
  boxM hgd x ho m s t hx (hk _ _ rfl (MBox.new w m s t) ((Below.refl _ _).alloc (Nat.le_refl _) _) (by simp))
/-- Are two messages one? -/
def enM (a b : En) : Bool := decide (a.c = b.c) && (decide (a.n = b.n) && (decide (a.o.k = b.o.k) && (decide (a.o.s = b.o.s) && decide (a.o.v.data = b.o.v.data))))
theorem enM_iff (a b : En) : enM a b = true ↔ a = b := by
  obtain ⟨c, n, ⟨k, s, ⟨v⟩⟩⟩ := a
  obtain ⟨c', n', ⟨k', s', ⟨v'⟩⟩⟩ := b
  simp only [enM, Bool.and_eq_true, decide_eq_true_eq, En.mk.injEq, Opn.mk.injEq, ByteArray.mk.injEq]
def leM : List En → List En → Bool
  | [], [] => true
  | a :: r, b :: s => enM a b && leM r s
  | _, _ => false
theorem leM_iff : ∀ A B : List En, leM A B = true ↔ A = B
  | [], [] => by simp [leM]
  | a :: r, b :: s => by simp [leM, enM_iff, leM_iff r s]
  | [], b :: s => by simp [leM]
  | a :: r, [] => by simp [leM]
def sameM (m m' : Mg) (L L' : List En) (D D' : List (Int × Int)) : Bool := decide (m.k = m'.k) && (decide (m.nd = m'.nd) && (decide (m.vw = m'.vw) && (enM m.e m'.e && (decide (m.r.1 = m'.r.1) && (decide (m.r.2.1 = m'.r.2.1) && (decide (m.r.2.2.data = m'.r.2.2.data) && (decide (m.p = m'.p) && (decide (m.cm = m'.cm) && (decide (m.ls = m'.ls) && (decide (m.d = m'.d) && (leM L L' && decide (D = D'))))))))))))
theorem sameM_iff (m m' : Mg) (L L' : List En) (D D' : List (Int × Int)) : sameM m m' L L' D D' = true ↔ (m = m' ∧ L = L' ∧ D = D') := by
  obtain ⟨k, nd, vw, e, ⟨r1, r2, ⟨r3⟩⟩, p, cm, ls, d⟩ := m
  obtain ⟨k', nd', vw', e', ⟨r1', r2', ⟨r3'⟩⟩, p', cm', ls', d'⟩ := m'
  simp only [sameM, Bool.and_eq_true, decide_eq_true_eq, enM_iff, leM_iff, Mg.mk.injEq, Prod.mk.injEq, ByteArray.mk.injEq]
  constructor
  · rintro ⟨h1, h2, h3, h4, h5, h6, h7, h8, h9, h10, h11, h12, h13⟩
    exact ⟨⟨h1, h2, h3, h4, ⟨h5, h6, h7⟩, h8, h9, h10, h11⟩, h12, h13⟩
  · rintro ⟨⟨h1, h2, h3, h4, ⟨h5, h6, h7⟩, h8, h9, h10, h11⟩, h12, h13⟩
    exact ⟨h1, h2, h3, h4, h5, h6, h7, h8, h9, h10, h11, h12, h13⟩
theorem eqlI (ty : TypeId) (x y : Operand) (hu : Try.prog.underlying ty = some (.int .i64)) (a b : Int) (w : World) : (do eqGuard .eql ty x y (.int .i64 a) (.int .i64 b); binOp .eql ty (.int .i64 a) (.int .i64 b) : Sem Value).run Try.prog w = .ok (.bool (decide (a = b))) w := by
  go_simp
  by_cases h : a = b <;> simp [h]
theorem eqlEn (x y : Operand) (e e' : En) (w : World) : (do eqGuard .eql 26 x y (.agg #[.int .i64 e.c, .int .i64 e.n, .int .i64 e.o.k, .int .i64 e.o.s, .string e.o.v]) (.agg #[.int .i64 e'.c, .int .i64 e'.n, .int .i64 e'.o.k, .int .i64 e'.o.s, .string e'.o.v]); binOp .eql 26 (.agg #[.int .i64 e.c, .int .i64 e.n, .int .i64 e.o.k, .int .i64 e.o.s, .string e.o.v]) (.agg #[.int .i64 e'.c, .int .i64 e'.n, .int .i64 e'.o.k, .int .i64 e'.o.s, .string e'.o.v]) : Sem Value).run Try.prog w = .ok (.bool (decide (e = e'))) w := by
  obtain ⟨a, b, ⟨c, d, v⟩⟩ := e
  obtain ⟨a', b', ⟨c', d', v'⟩⟩ := e'
  go_simp
  by_cases e1 : a = a' <;> by_cases e2 : b = b' <;> by_cases e3 : c = c' <;> by_cases e4 : d = d' <;> by_cases e5 : v = v' <;> simp [e1, e2, e3, e4, e5, bytes_inj]
theorem eqlRs (x y : Operand) (r r' : Int × Int × ByteArray) (w : World) : (do eqGuard .eql 28 x y (.agg #[.int .i64 r.1, .int .i64 r.2.1, .string r.2.2]) (.agg #[.int .i64 r'.1, .int .i64 r'.2.1, .string r'.2.2]); binOp .eql 28 (.agg #[.int .i64 r.1, .int .i64 r.2.1, .string r.2.2]) (.agg #[.int .i64 r'.1, .int .i64 r'.2.1, .string r'.2.2]) : Sem Value).run Try.prog w = .ok (.bool (decide (r = r'))) w := by
  obtain ⟨a, b, v⟩ := r
  obtain ⟨a', b', v'⟩ := r'
  go_simp
  by_cases e1 : a = a' <;> by_cases e2 : b = b' <;> by_cases e5 : v = v' <;> simp [e1, e2, e5, bytes_inj]
theorem eqlDr (x y : Operand) (r r' : Int × Int) (w : World) : (do eqGuard .eql 31 x y (.agg #[.int .u64 r.1, .int .u64 r.2]) (.agg #[.int .u64 r'.1, .int .u64 r'.2]); binOp .eql 31 (.agg #[.int .u64 r.1, .int .u64 r.2]) (.agg #[.int .u64 r'.1, .int .u64 r'.2]) : Sem Value).run Try.prog w = .ok (.bool (decide (r = r'))) w := by
  obtain ⟨a, b⟩ := r
  obtain ⟨a', b'⟩ := r'
  go_simp
  by_cases e1 : a = a' <;> by_cases e2 : b = b' <;> simp [e1, e2]
theorem MBox.faKind (q : Nat) (w : World) : (Instr.fieldAt 36 (.pointer (some ⟨q, 0, none⟩)) 0).run Try.prog w = .ok (.pointer (some ⟨q, 0, none⟩)) w := by
  go_simp
theorem MBox.ldKind {w : World} {q : Nat} {m : Mg} {s t : Value} (h : MBox w q m s t) : (Instr.loadAt 22 (.pointer (some ⟨q, 0, none⟩))).run Try.prog w = .ok (.int .i64 m.k) w := by
  obtain ⟨x0, x1, x2, x3, x4, x5, x6, x7, x8, x9, x10, x11, x12, x13, x14, x15, x16, x17⟩ := h.all
  go_simp
theorem MBox.faNode (q : Nat) (w : World) : (Instr.fieldAt 36 (.pointer (some ⟨q, 0, none⟩)) 1).run Try.prog w = .ok (.pointer (some ⟨q, 1, none⟩)) w := by
  go_simp
theorem MBox.ldNode {w : World} {q : Nat} {m : Mg} {s t : Value} (h : MBox w q m s t) : (Instr.loadAt 3 (.pointer (some ⟨q, 1, none⟩))).run Try.prog w = .ok (.int .i64 m.nd) w := by
  obtain ⟨x0, x1, x2, x3, x4, x5, x6, x7, x8, x9, x10, x11, x12, x13, x14, x15, x16, x17⟩ := h.all
  go_simp
theorem MBox.faView (q : Nat) (w : World) : (Instr.fieldAt 36 (.pointer (some ⟨q, 0, none⟩)) 2).run Try.prog w = .ok (.pointer (some ⟨q, 2, none⟩)) w := by
  go_simp
theorem MBox.ldView {w : World} {q : Nat} {m : Mg} {s t : Value} (h : MBox w q m s t) : (Instr.loadAt 3 (.pointer (some ⟨q, 2, none⟩))).run Try.prog w = .ok (.int .i64 m.vw) w := by
  obtain ⟨x0, x1, x2, x3, x4, x5, x6, x7, x8, x9, x10, x11, x12, x13, x14, x15, x16, x17⟩ := h.all
  go_simp
theorem MBox.faEntry (q : Nat) (w : World) : (Instr.fieldAt 36 (.pointer (some ⟨q, 0, none⟩)) 3).run Try.prog w = .ok (.pointer (some ⟨q, 3, none⟩)) w := by
  go_simp
theorem MBox.ldEntry {w : World} {q : Nat} {m : Mg} {s t : Value} (h : MBox w q m s t) : (Instr.loadAt 26 (.pointer (some ⟨q, 3, none⟩))).run Try.prog w = .ok (.agg #[.int .i64 m.e.c, .int .i64 m.e.n, .int .i64 m.e.o.k, .int .i64 m.e.o.s, .string m.e.o.v]) w := by
  obtain ⟨x0, x1, x2, x3, x4, x5, x6, x7, x8, x9, x10, x11, x12, x13, x14, x15, x16, x17⟩ := h.all
  go_simp
theorem MBox.faResult (q : Nat) (w : World) : (Instr.fieldAt 36 (.pointer (some ⟨q, 0, none⟩)) 4).run Try.prog w = .ok (.pointer (some ⟨q, 8, none⟩)) w := by
  go_simp
theorem MBox.ldResult {w : World} {q : Nat} {m : Mg} {s t : Value} (h : MBox w q m s t) : (Instr.loadAt 28 (.pointer (some ⟨q, 8, none⟩))).run Try.prog w = .ok (.agg #[.int .i64 m.r.1, .int .i64 m.r.2.1, .string m.r.2.2]) w := by
  obtain ⟨x0, x1, x2, x3, x4, x5, x6, x7, x8, x9, x10, x11, x12, x13, x14, x15, x16, x17⟩ := h.all
  go_simp
theorem MBox.faPlace (q : Nat) (w : World) : (Instr.fieldAt 36 (.pointer (some ⟨q, 0, none⟩)) 5).run Try.prog w = .ok (.pointer (some ⟨q, 11, none⟩)) w := by
  go_simp
theorem MBox.ldPlace {w : World} {q : Nat} {m : Mg} {s t : Value} (h : MBox w q m s t) : (Instr.loadAt 3 (.pointer (some ⟨q, 11, none⟩))).run Try.prog w = .ok (.int .i64 m.p) w := by
  obtain ⟨x0, x1, x2, x3, x4, x5, x6, x7, x8, x9, x10, x11, x12, x13, x14, x15, x16, x17⟩ := h.all
  go_simp
theorem MBox.faCommit (q : Nat) (w : World) : (Instr.fieldAt 36 (.pointer (some ⟨q, 0, none⟩)) 6).run Try.prog w = .ok (.pointer (some ⟨q, 12, none⟩)) w := by
  go_simp
theorem MBox.ldCommit {w : World} {q : Nat} {m : Mg} {s t : Value} (h : MBox w q m s t) : (Instr.loadAt 3 (.pointer (some ⟨q, 12, none⟩))).run Try.prog w = .ok (.int .i64 m.cm) w := by
  obtain ⟨x0, x1, x2, x3, x4, x5, x6, x7, x8, x9, x10, x11, x12, x13, x14, x15, x16, x17⟩ := h.all
  go_simp
theorem MBox.faLast (q : Nat) (w : World) : (Instr.fieldAt 36 (.pointer (some ⟨q, 0, none⟩)) 7).run Try.prog w = .ok (.pointer (some ⟨q, 13, none⟩)) w := by
  go_simp
theorem MBox.ldLast {w : World} {q : Nat} {m : Mg} {s t : Value} (h : MBox w q m s t) : (Instr.loadAt 3 (.pointer (some ⟨q, 13, none⟩))).run Try.prog w = .ok (.int .i64 m.ls) w := by
  obtain ⟨x0, x1, x2, x3, x4, x5, x6, x7, x8, x9, x10, x11, x12, x13, x14, x15, x16, x17⟩ := h.all
  go_simp
theorem MBox.faDraw (q : Nat) (w : World) : (Instr.fieldAt 36 (.pointer (some ⟨q, 0, none⟩)) 8).run Try.prog w = .ok (.pointer (some ⟨q, 14, none⟩)) w := by
  go_simp
theorem MBox.ldDraw {w : World} {q : Nat} {m : Mg} {s t : Value} (h : MBox w q m s t) : (Instr.loadAt 31 (.pointer (some ⟨q, 14, none⟩))).run Try.prog w = .ok (.agg #[.int .u64 m.d.1, .int .u64 m.d.2]) w := by
  obtain ⟨x0, x1, x2, x3, x4, x5, x6, x7, x8, x9, x10, x11, x12, x13, x14, x15, x16, x17⟩ := h.all
  go_simp
theorem MBox.faLog (q : Nat) (w : World) : (Instr.fieldAt 36 (.pointer (some ⟨q, 0, none⟩)) 9).run Try.prog w = .ok (.pointer (some ⟨q, 16, none⟩)) w := by
  go_simp
theorem MBox.ldLog {w : World} {q : Nat} {m : Mg} {s t : Value} (h : MBox w q m s t) : (Instr.loadAt 32 (.pointer (some ⟨q, 16, none⟩))).run Try.prog w = .ok (s) w := by
  obtain ⟨x0, x1, x2, x3, x4, x5, x6, x7, x8, x9, x10, x11, x12, x13, x14, x15, x16, x17⟩ := h.all
  go_simp
theorem MBox.faVector (q : Nat) (w : World) : (Instr.fieldAt 36 (.pointer (some ⟨q, 0, none⟩)) 10).run Try.prog w = .ok (.pointer (some ⟨q, 17, none⟩)) w := by
  go_simp
theorem MBox.ldVector {w : World} {q : Nat} {m : Mg} {s t : Value} (h : MBox w q m s t) : (Instr.loadAt 34 (.pointer (some ⟨q, 17, none⟩))).run Try.prog w = .ok (t) w := by
  obtain ⟨x0, x1, x2, x3, x4, x5, x6, x7, x8, x9, x10, x11, x12, x13, x14, x15, x16, x17⟩ := h.all
  go_simp
theorem samemsg_bool (m m' : Mg) (L L' : List En) (D D' : List (Int × Int)) : (decide (m.k = m'.k) && decide (m.nd = m'.nd) && decide (m.vw = m'.vw) && decide (m.e = m'.e) && decide (m.r = m'.r) && decide (m.p = m'.p) && decide (m.cm = m'.cm) && decide (m.ls = m'.ls) && decide (m.d = m'.d) && decide (L = L') && decide (D = D')) = sameM m m' L L' D D' := by
  obtain ⟨k, nd, vw, e, r, p, cm, ls, d⟩ := m
  obtain ⟨k', nd', vw', e', r', p', cm', ls', d'⟩ := m'
  rw [Bool.eq_iff_iff, sameM_iff]
  simp only [Bool.and_eq_true, decide_eq_true_eq, Mg.mk.injEq]
  constructor
  · rintro ⟨⟨⟨⟨⟨⟨⟨⟨⟨⟨hk, hnd⟩, hvw⟩, he⟩, hr⟩, hp⟩, hcm⟩, hls⟩, hd⟩, hL⟩, hD⟩
    exact ⟨⟨hk, hnd, hvw, he, hr, hp, hcm, hls, hd⟩, hL, hD⟩
  · rintro ⟨⟨hk, hnd, hvw, he, hr, hp, hcm, hls, hd⟩, hL, hD⟩
    exact ⟨⟨⟨⟨⟨⟨⟨⟨⟨⟨hk, hnd⟩, hvw⟩, he⟩, hr⟩, hp⟩, hcm⟩, hls⟩, hd⟩, hL⟩, hD⟩
set_option maxRecDepth 100000 in
set_option maxHeartbeats 8000000 in
theorem samemsg_any (m m' : Mg) (a1 a2 b1 b2 : Option Addr) (n1 n2 m1 m2 c1 c2 e1 e2 : Nat) (L L' : List En) (D D' : List (Int × Int)) (w : World) (h1 : SlY yE w a1 n1 c1 L) (h2 : SlY yD w a2 n2 c2 D) (h3 : SlY yE w b1 m1 e1 L') (h4 : SlY yD w b2 m2 e2 D') :
    Calls Try.prog 7 #[m.val (.slice a1 n1 c1) (.slice a2 n2 c2), m'.val (.slice b1 m1 e1) (.slice b2 m2 e2)] w fun e w' => e = .returned (.bool (sameM m m' L L' D D')) ∧ Below w.heap.size w w' := by
  have HE := hide (fun (W : World) (hb : Below w.heap.size w W) => sameentsB L L' a1 b1 n1 m1 c1 e1 W (h1.later hb) (h3.later hb))
  have HD := hide (fun (W : World) (hb : Below w.heap.size w W) => samevecB D D' a2 b2 n2 m2 c2 e2 W (h2.later hb) (h4.later hb))
  clear h1 h2 h3 h4
  go_enter Try.func7, Try.ntmps7
  go_upto_region 1 with (first
    | (refine boxMk rfl (.tmp 0) rfl m _ _ rfl ?_; intro q1 w1 hq1 M1 b1' z1; subst hq1)
    | (refine boxMk rfl (.tmp 1) rfl m' _ _ rfl ?_; intro q2 w2 hq2 M2 b2' z2))
  have b2h : Below w1.heap.size w1 w2 := by first | exact b2' | (rw [z1]; exact b2')
  have hq3 : q2 = w.heap.size + 1 := by first | exact hq2 | exact hq2.trans z1
  subst hq3
  have HB := hide (b1'.trans (b2h.mono b1'.size))
  have A := hide (M1.bel b2h)
  have B := hide M2
  clear M1 M2 b1' b2' b2h z1 z2 hq2
  refine wp_region_lit ?_
  refine eq5 (d := 5) (f := 0) (p1 := .pointer (some ⟨w.heap.size, 0, none⟩)) (p2 := .pointer (some ⟨w.heap.size + 1, 0, none⟩)) (by decide) (Nat.lt_of_lt_of_eq (by decide : 9 < 80) rfl) rfl rfl (fun _ _ => ⟨rfl, rfl, rfl, rfl, rfl⟩) rfl rfl rfl rfl rfl rfl rfl rfl rfl rfl (MBox.faKind _ _) A.out.ldKind (MBox.faKind _ _) B.out.ldKind (eqlI _ _ _ Try.underlying22 _ _ _) (fun T1 z1 k1 s1 => ?_)
  have t2 : T1[2]? = some (.pointer (some ⟨w.heap.size, 0, none⟩)) := (k1 2 (by decide)).trans rfl
  have t3 : T1[3]? = some (.pointer (some ⟨w.heap.size + 1, 0, none⟩)) := (k1 3 (by decide)).trans rfl
  have hz : T1.size = 80 := z1.trans rfl
  clear k1 z1
  refine wl_val (v := .bool (decide (m.k = m'.k))) (want_none rfl) (by unfold execOp; simp only [Act.eval, getD_of s1]; rfl) ?_
  have s2 : (T1.setIfInBounds 10 (.bool (decide (m.k = m'.k))))[10]? = some (.bool (decide (m.k = m'.k))) := at_set _ (by omega)
  have q2 : (T1.setIfInBounds 10 (.bool (decide (m.k = m'.k))))[2]? = some (.pointer (some ⟨w.heap.size, 0, none⟩)) := (at_set_ne _ (by decide)).trans t2
  have q3 : (T1.setIfInBounds 10 (.bool (decide (m.k = m'.k))))[3]? = some (.pointer (some ⟨w.heap.size + 1, 0, none⟩)) := (at_set_ne _ (by decide)).trans t3
  have hz2 : (T1.setIfInBounds 10 (.bool (decide (m.k = m'.k)))).size = 80 := by simp [hz]
  show wpList _ _ _ _ ⟨T1.setIfInBounds 10 (.bool (decide (m.k = m'.k))), []⟩ _
  generalize T1.setIfInBounds 10 (.bool (decide (m.k = m'.k))) = S0 at s2 q2 q3 hz2 ⊢
  clear t2 t3 hz s1 T1
  refine conj7 (g := 5) (j := 10) (d := 11) (f := 1) (by decide) (by decide) (by omega) q2 q3 s2 rfl rfl rfl rfl rfl rfl rfl rfl rfl rfl rfl rfl rfl rfl rfl rfl rfl rfl rfl rfl rfl rfl (MBox.faNode _ _) A.out.ldNode (MBox.faNode _ _) B.out.ldNode (eqlI _ _ _ Try.underlying3 _ _ _) (fun S1 zz1 kk1 ss1 => ?_)
  have ta1 := (kk1 2 (by decide)).trans q2
  have tb1 := (kk1 3 (by decide)).trans q3
  have th1 := zz1.trans hz2
  clear zz1 kk1 q2 q3 s2 hz2 S0
  refine conj7 (g := 12) (j := 17) (d := 18) (f := 2) (by decide) (by decide) (by omega) ta1 tb1 ss1 rfl rfl rfl rfl rfl rfl rfl rfl rfl rfl rfl rfl rfl rfl rfl rfl rfl rfl rfl rfl rfl rfl (MBox.faView _ _) A.out.ldView (MBox.faView _ _) B.out.ldView (eqlI _ _ _ Try.underlying3 _ _ _) (fun S2 zz2 kk2 ss2 => ?_)
  have ta2 := (kk2 2 (by decide)).trans ta1
  have tb2 := (kk2 3 (by decide)).trans tb1
  have th2 := zz2.trans th1
  clear zz2 kk2 ta1 tb1 ss1 th1 S1
  refine conj7 (g := 19) (j := 24) (d := 25) (f := 3) (by decide) (by decide) (by omega) ta2 tb2 ss2 rfl rfl rfl rfl rfl rfl rfl rfl rfl rfl rfl rfl rfl rfl rfl rfl rfl rfl rfl rfl rfl rfl (MBox.faEntry _ _) A.out.ldEntry (MBox.faEntry _ _) B.out.ldEntry (eqlEn _ _ _ _ _) (fun S3 zz3 kk3 ss3 => ?_)
  have ta3 := (kk3 2 (by decide)).trans ta2
  have tb3 := (kk3 3 (by decide)).trans tb2
  have th3 := zz3.trans th2
  clear zz3 kk3 ta2 tb2 ss2 th2 S2
  refine conj7 (g := 26) (j := 31) (d := 32) (f := 4) (by decide) (by decide) (by omega) ta3 tb3 ss3 rfl rfl rfl rfl rfl rfl rfl rfl rfl rfl rfl rfl rfl rfl rfl rfl rfl rfl rfl rfl rfl rfl (MBox.faResult _ _) A.out.ldResult (MBox.faResult _ _) B.out.ldResult (eqlRs _ _ _ _ _) (fun S4 zz4 kk4 ss4 => ?_)
  have ta4 := (kk4 2 (by decide)).trans ta3
  have tb4 := (kk4 3 (by decide)).trans tb3
  have th4 := zz4.trans th3
  clear zz4 kk4 ta3 tb3 ss3 th3 S3
  refine conj7 (g := 33) (j := 38) (d := 39) (f := 5) (by decide) (by decide) (by omega) ta4 tb4 ss4 rfl rfl rfl rfl rfl rfl rfl rfl rfl rfl rfl rfl rfl rfl rfl rfl rfl rfl rfl rfl rfl rfl (MBox.faPlace _ _) A.out.ldPlace (MBox.faPlace _ _) B.out.ldPlace (eqlI _ _ _ Try.underlying3 _ _ _) (fun S5 zz5 kk5 ss5 => ?_)
  have ta5 := (kk5 2 (by decide)).trans ta4
  have tb5 := (kk5 3 (by decide)).trans tb4
  have th5 := zz5.trans th4
  clear zz5 kk5 ta4 tb4 ss4 th4 S4
  refine conj7 (g := 40) (j := 45) (d := 46) (f := 6) (by decide) (by decide) (by omega) ta5 tb5 ss5 rfl rfl rfl rfl rfl rfl rfl rfl rfl rfl rfl rfl rfl rfl rfl rfl rfl rfl rfl rfl rfl rfl (MBox.faCommit _ _) A.out.ldCommit (MBox.faCommit _ _) B.out.ldCommit (eqlI _ _ _ Try.underlying3 _ _ _) (fun S6 zz6 kk6 ss6 => ?_)
  have ta6 := (kk6 2 (by decide)).trans ta5
  have tb6 := (kk6 3 (by decide)).trans tb5
  have th6 := zz6.trans th5
  clear zz6 kk6 ta5 tb5 ss5 th5 S5
  refine conj7 (g := 47) (j := 52) (d := 53) (f := 7) (by decide) (by decide) (by omega) ta6 tb6 ss6 rfl rfl rfl rfl rfl rfl rfl rfl rfl rfl rfl rfl rfl rfl rfl rfl rfl rfl rfl rfl rfl rfl (MBox.faLast _ _) A.out.ldLast (MBox.faLast _ _) B.out.ldLast (eqlI _ _ _ Try.underlying3 _ _ _) (fun S7 zz7 kk7 ss7 => ?_)
  have ta7 := (kk7 2 (by decide)).trans ta6
  have tb7 := (kk7 3 (by decide)).trans tb6
  have th7 := zz7.trans th6
  clear zz7 kk7 ta6 tb6 ss6 th6 S6
  refine conj7 (g := 54) (j := 59) (d := 60) (f := 8) (by decide) (by decide) (by omega) ta7 tb7 ss7 rfl rfl rfl rfl rfl rfl rfl rfl rfl rfl rfl rfl rfl rfl rfl rfl rfl rfl rfl rfl rfl rfl (MBox.faDraw _ _) A.out.ldDraw (MBox.faDraw _ _) B.out.ldDraw (eqlDr _ _ _ _ _) (fun S8 zz8 kk8 ss8 => ?_)
  have ta8 := (kk8 2 (by decide)).trans ta7
  have tb8 := (kk8 3 (by decide)).trans tb7
  have th8 := zz8.trans th7
  clear zz8 kk8 ta7 tb7 ss7 th7 S7
  refine conjC7 (g := 61) (j := 66) (d := 67) (f := 9) (fid := 15) (by decide) (by decide) (by omega) ta8 tb8 ss8 rfl rfl rfl rfl rfl rfl rfl rfl rfl rfl rfl rfl (fun a h1 h2 => by unfold execOp; simp only [resolve, invoke, Sem.run_bind, List.map_toArray, List.map_cons, List.map_nil, h1, h2]; rfl) rfl rfl rfl rfl rfl rfl rfl rfl rfl (MBox.faLog _ _) A.out.ldLog (MBox.faLog _ _) B.out.ldLog (HE.out _ HB.out) (fun SL nl zl kl sl => ?_)
  have la := (kl 2 (by decide)).trans ta8
  have lb := (kl 3 (by decide)).trans tb8
  have lh := zl.trans th8
  have HB2 := hide (belN HB.out nl)
  have A2 := hide (A.out.bel (belN (Below.refl _ _) nl))
  have B2 := hide (B.out.bel (belN (Below.refl _ _) nl))
  clear zl kl ta8 tb8 ss8 th8 S8 A B HB HE
  refine conjC4 (g := 68) (j := 73) (d := 74) (f := 10) (fid := 16) (by decide) (by decide) (by omega) la lb sl rfl rfl rfl rfl rfl rfl rfl rfl rfl rfl rfl rfl (fun a h1 h2 => by unfold execOp; simp only [resolve, invoke, Sem.run_bind, List.map_toArray, List.map_cons, List.map_nil, h1, h2]; rfl) rfl rfl rfl rfl rfl rfl rfl rfl rfl (MBox.faVector _ _) A2.out.ldVector (MBox.faVector _ _) B2.out.ldVector (HD.out _ HB2.out) (fun SF nf sf => ?_)
  rw [samemsg_bool] at sf
  have HB3 := hide (belN HB2.out nf)
  clear la lb sl lh A2 B2 HB2 HD SL
  generalize (w2.drewN nl).drewN nf = W at *
  go_wp2
  refine bodyPost_ret (results_tmp rfl _ _ _) rfl ⟨?_, HB3.out⟩
  show Ending.returned (SF.getD 4 undef) = _
  rw [getD_of sf]

end Go.Proofs.Ytgjmiemkjnnepaa
