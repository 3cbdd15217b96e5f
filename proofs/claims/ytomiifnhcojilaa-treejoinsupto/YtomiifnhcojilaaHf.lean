import Derived.Test.YtomiifnhcojilaaHx
namespace Go.Proofs.Ytomiifnhcojilaa
open Go.RowKit Go.Maps
open Classical
set_option linter.unusedVariables false
set_option linter.unusedSimpArgs false

/-- Are two messages one? -/
def enM (a b : En) : Bool := decide (a.c = b.c) && (decide (a.n = b.n) && (decide (a.o.k = b.o.k) && (decide (a.o.s = b.o.s) && decide (a.o.v.data = b.o.v.data))))
theorem enM_iff (a b : En) : enM a b = true ↔ a = b := by
  obtain ⟨c, n, ⟨k, s, ⟨v⟩⟩⟩ := a
  obtain ⟨c', n', ⟨k', s', ⟨v'⟩⟩⟩ := b
  simp only [enM, Bool.and_eq_true, decide_eq_true_eq, En.mk.injEq, Opn.mk.injEq, ByteArray.mk.injEq]
def leM : List En → List En → Bool
  | [], [] => true
  | a :: r, b :: s => enM a b && leM r s
  | _, _ => false
theorem leM_iff : ∀ A B : List En, leM A B = true ↔ A = B
  | [], [] => by simp [leM]
  | a :: r, b :: s => by simp [leM, enM_iff, leM_iff r s]
  | [], b :: s => by simp [leM]
  | a :: r, [] => by simp [leM]
def sameM (m m' : Mg) (L L' : List En) (D D' : List (Int × Int)) : Bool := decide (m.k = m'.k) && (decide (m.nd = m'.nd) && (decide (m.vw = m'.vw) && (enM m.e m'.e && (decide (m.r.1 = m'.r.1) && (decide (m.r.2.1 = m'.r.2.1) && (decide (m.r.2.2.data = m'.r.2.2.data) && (decide (m.p = m'.p) && (decide (m.cm = m'.cm) && (decide (m.ls = m'.ls) && (decide (m.d = m'.d) && (leM L L' && decide (D = D'))))))))))))
theorem sameM_iff (m m' : Mg) (L L' : List En) (D D' : List (Int × Int)) : sameM m m' L L' D D' = true ↔ (m = m' ∧ L = L' ∧ D = D') := by
  obtain ⟨k, nd, vw, e, ⟨r1, r2, ⟨r3⟩⟩, p, cm, ls, d⟩ := m
  obtain ⟨k', nd', vw', e', ⟨r1', r2', ⟨r3'⟩⟩, p', cm', ls', d'⟩ := m'
  simp only [sameM, Bool.and_eq_true, decide_eq_true_eq, enM_iff, leM_iff, Mg.mk.injEq, Prod.mk.injEq, ByteArray.mk.injEq]
  constructor
  · rintro ⟨h1, h2, h3, h4, h5, h6, h7, h8, h9, h10, h11, h12, h13⟩
    exact ⟨⟨h1, h2, h3, h4, ⟨h5, h6, h7⟩, h8, h9, h10, h11⟩, h12, h13⟩
  · rintro ⟨⟨h1, h2, h3, h4, ⟨h5, h6, h7⟩, h8, h9, h10, h11⟩, h12, h13⟩
    exact ⟨h1, h2, h3, h4, h5, h6, h7, h8, h9, h10, h11, h12, h13⟩
theorem eqlI (ty : TypeId) (x y : Operand) (hu : Try.prog.underlying ty = some (.int .i64)) (a b : Int) (w : World) : (do eqGuard .eql ty x y (.int .i64 a) (.int .i64 b); binOp .eql ty (.int .i64 a) (.int .i64 b) : Sem Value).run Try.prog w = .ok (.bool (decide (a = b))) w := by
  go_simp
  by_cases h : a = b <;> simp [h]
theorem eqlEn (x y : Operand) (e e' : En) (w : World) : (do eqGuard .eql 28 x y (.agg #[.int .i64 e.c, .int .i64 e.n, .int .i64 e.o.k, .int .i64 e.o.s, .string e.o.v]) (.agg #[.int .i64 e'.c, .int .i64 e'.n, .int .i64 e'.o.k, .int .i64 e'.o.s, .string e'.o.v]); binOp .eql 28 (.agg #[.int .i64 e.c, .int .i64 e.n, .int .i64 e.o.k, .int .i64 e.o.s, .string e.o.v]) (.agg #[.int .i64 e'.c, .int .i64 e'.n, .int .i64 e'.o.k, .int .i64 e'.o.s, .string e'.o.v]) : Sem Value).run Try.prog w = .ok (.bool (decide (e = e'))) w := by
  obtain ⟨a, b, ⟨c, d, v⟩⟩ := e
  obtain ⟨a', b', ⟨c', d', v'⟩⟩ := e'
  go_simp
  by_cases e1 : a = a' <;> by_cases e2 : b = b' <;> by_cases e3 : c = c' <;> by_cases e4 : d = d' <;> by_cases e5 : v = v' <;> simp [e1, e2, e3, e4, e5, bytes_inj]
theorem eqlDr (x y : Operand) (r r' : Int × Int) (w : World) : (do eqGuard .eql 131 x y (.agg #[.int .u64 r.1, .int .u64 r.2]) (.agg #[.int .u64 r'.1, .int .u64 r'.2]); binOp .eql 131 (.agg #[.int .u64 r.1, .int .u64 r.2]) (.agg #[.int .u64 r'.1, .int .u64 r'.2]) : Sem Value).run Try.prog w = .ok (.bool (decide (r = r'))) w := by
  obtain ⟨a, b⟩ := r
  obtain ⟨a', b'⟩ := r'
  go_simp
  by_cases e1 : a = a' <;> by_cases e2 : b = b' <;> simp [e1, e2]
theorem samemsg_bool (m m' : Mg) (L L' : List En) (D D' : List (Int × Int)) : (decide (m.k = m'.k) && decide (m.nd = m'.nd) && decide (m.vw = m'.vw) && decide (m.e = m'.e) && decide (m.r = m'.r) && decide (m.p = m'.p) && decide (m.cm = m'.cm) && decide (m.ls = m'.ls) && decide (m.d = m'.d) && decide (L = L') && decide (D = D')) = sameM m m' L L' D D' := by
  obtain ⟨k, nd, vw, e, r, p, cm, ls, d⟩ := m
  obtain ⟨k', nd', vw', e', r', p', cm', ls', d'⟩ := m'
  rw [Bool.eq_iff_iff, sameM_iff]
  simp only [Bool.and_eq_true, decide_eq_true_eq, Mg.mk.injEq]
  constructor
  · rintro ⟨⟨⟨⟨⟨⟨⟨⟨⟨⟨hk, hnd⟩, hvw⟩, he⟩, hr⟩, hp⟩, hcm⟩, hls⟩, hd⟩, hL⟩, hD⟩
    exact ⟨⟨hk, hnd, hvw, he, hr, hp, hcm, hls, hd⟩, hL, hD⟩
  · rintro ⟨⟨hk, hnd, hvw, he, hr, hp, hcm, hls, hd⟩, hL, hD⟩
    exact ⟨⟨⟨⟨⟨⟨⟨⟨⟨⟨hk, hnd⟩, hvw⟩, he⟩, hr⟩, hp⟩, hcm⟩, hls⟩, hd⟩, hL⟩, hD⟩
end Go.Proofs.Ytomiifnhcojilaa
