import Derived.Test.YtjkleldoeojbbaaGYa
namespace Go.Proofs.Ytjkleldoeojbbaa
open Go.RowKit Go.Maps
set_option linter.unusedVariables false
set_option linter.unusedSimpArgs false

/-- A call of a history. -/
structure Kl where
  c : Int
  n : Int
  o : Opn
  b : Int
  e : Int
  r : Rs
def Kl.cs (x : Kl) : List Value := [.int .i64 x.c, .int .i64 x.n, .int .i64 x.o.k, .int .i64 x.o.s, .string x.o.v, .int .i64 x.b, .int .i64 x.e, .int .i64 x.r.1, .int .i64 x.r.2.1, .string x.r.2.2]
def Kl.val (x : Kl) : Value := .agg #[.int .i64 x.c, .int .i64 x.n, .int .i64 x.o.k, .int .i64 x.o.s, .string x.o.v, .int .i64 x.b, .int .i64 x.e, .int .i64 x.r.1, .int .i64 x.r.2.1, .string x.r.2.2]
structure Kl.fits (x : Kl) : Prop where
  cw : (Lit.int .i64 x.c).wf = true
  nw : (Lit.int .i64 x.n).wf = true
  ow : x.o.fits
  bw : (Lit.int .i64 x.b).wf = true
  ew : (Lit.int .i64 x.e).wf = true
  rl : x.r.2.2.size ≤ maxLen
def zK : Kl := ⟨0, 0, ⟨0, 0, ByteArray.empty⟩, 0, 0, (0, 0, ByteArray.empty)⟩
def yK : Lay Kl := ⟨66, 24, 10, 96, Kl.cs, zK⟩
theorem kK : yK.Ok := ⟨by decide, fun x => rfl, fun x u h => by
    simp [yK, Kl.cs] at h
    rcases h with rfl | rfl | rfl | rfl | rfl | rfl | rfl | rfl | rfl | rfl <;> rfl, Try.underlying24, ⟨.agg #[.int .i64 0, .int .i64 0, .int .i64 0, .int .i64 0, .string ByteArray.empty, .int .i64 0, .int .i64 0, .int .i64 0, .int .i64 0, .string ByteArray.empty], by kernel_rfl, rfl⟩⟩
/-- The cells of a call. -/
structure KAt (w : World) (q o : Nat) (x : Kl) : Prop where
  lt : q < w.heap.size
  c0 : w.cell? ⟨q, o, none⟩ = some (.int .i64 x.c)
  c1 : w.cell? ⟨q, o + 1, none⟩ = some (.int .i64 x.n)
  c2 : w.cell? ⟨q, o + 2, none⟩ = some (.int .i64 x.o.k)
  c3 : w.cell? ⟨q, o + 3, none⟩ = some (.int .i64 x.o.s)
  c4 : w.cell? ⟨q, o + 4, none⟩ = some (.string x.o.v)
  c5 : w.cell? ⟨q, o + 5, none⟩ = some (.int .i64 x.b)
  c6 : w.cell? ⟨q, o + 6, none⟩ = some (.int .i64 x.e)
  c7 : w.cell? ⟨q, o + 7, none⟩ = some (.int .i64 x.r.1)
  c8 : w.cell? ⟨q, o + 8, none⟩ = some (.int .i64 x.r.2.1)
  c9 : w.cell? ⟨q, o + 9, none⟩ = some (.string x.r.2.2)
theorem SlY.kl {w : World} {a : Option Addr} {n c : Nat} {L : List Kl} (h : SlY yK w a n c L) {j : Nat} {x : Kl} (hx : L[j]? = some x) : ∃ q o, a = some ⟨q, o, none⟩ ∧ KAt w q (o + j * 10) x := by
  obtain ⟨q, o, ea, hq, hl⟩ := h.place (by rintro rfl; simp at hx)
  exact ⟨q, o, ea, ⟨hq, hl j x hx 0 _ rfl, hl j x hx 1 _ rfl, hl j x hx 2 _ rfl, hl j x hx 3 _ rfl, hl j x hx 4 _ rfl, hl j x hx 5 _ rfl, hl j x hx 6 _ rfl, hl j x hx 7 _ rfl, hl j x hx 8 _ rfl, hl j x hx 9 _ rfl⟩⟩

/-- Is it answered? -/
def ansK (x : Kl) : Bool := decide (0 ≤ x.e)
/-- Was a answered ahead of b's asking? -/
def prcK (a b : Kl) : Bool := decide (0 ≤ a.e) && decide (a.e < b.b)
/-- May it be asked? -/
def askB (c n : Int) (o : Opn) : Bool := decide (0 ≤ c) && (decide (c < 16) && (decide (1 ≤ n) && decide (ck o.k o.s o.v = 0)))
def mayK (x : Kl) : Bool := askB x.c x.n x.o && (decide (0 ≤ x.b) && ((decide (x.e = -1) && decide (x.r = (0, 0, ByteArray.empty))) || decide (x.b < x.e)))
/-- Does a list have a call of that client and number? -/
def hasK (l : List Kl) (c n : Int) : Bool := l.any fun x => decide (x.c = c) && decide (x.n = n)
def kcA : List Kl → List Kl → Int
  | _, [] => 0
  | past, x :: r => if hasK past x.c x.n || !mayK x then 180 else kcA (past ++ [x]) r
/-- What Check answers. -/
def kchk (l : List Kl) : Int := kcA [] l
theorem kcA_at {L : List Kl} {j : Nat} {x : Kl} (h : L[j]? = some x) : kcA (L.take j) (L.drop j) = if hasK (L.take j) x.c x.n || !mayK x then 180 else kcA (L.take (j + 1)) (L.drop (j + 1)) := by
  have hj := (List.getElem?_eq_some_iff.1 h).1
  have he := (List.getElem?_eq_some_iff.1 h).2
  rw [List.drop_eq_getElem_cons hj, he, kcA, List.take_add_one, h]
  rfl
theorem kcA_end (L : List Kl) : kcA (L.take L.length) (L.drop L.length) = 0 := by simp [kcA]
theorem kcA_zero : ∀ (p l : List Kl), kcA p l = 0 ∨ kcA p l = 180
  | _, [] => .inl rfl
  | p, x :: r => by
    unfold kcA
    split
    · exact .inr rfl
    · exact kcA_zero _ r
theorem hasK_snoc (l : List Kl) (x : Kl) (c n : Int) : hasK (l ++ [x]) c n = (hasK l c n || (decide (x.c = c) && decide (x.n = n))) := by simp [hasK]
/-- What holds of a history that may be. -/
theorem kcA_ok : ∀ (p l : List Kl), kcA p l = 0 → (∀ x ∈ l, mayK x = true) ∧ l.Pairwise (fun x y => ¬ (x.c = y.c ∧ x.n = y.n)) ∧ ∀ x ∈ l, hasK p x.c x.n = false
  | _, [], _ => by simp
  | p, x :: r, h => by
    unfold kcA at h
    split at h
    · cases h
    · rename_i hc
      have hc : hasK p x.c x.n = false ∧ mayK x = true := by simpa using hc
      obtain ⟨h1, h2, h3⟩ := kcA_ok _ r h
      refine ⟨fun y hy => ?_, List.pairwise_cons.2 ⟨fun y hy he => ?_, h2⟩, fun y hy => ?_⟩
      · rcases List.mem_cons.1 hy with rfl | hy
        · exact hc.2
        · exact h1 y hy
      · have := h3 y hy
        rw [hasK_snoc] at this
        simp [he.1, he.2] at this
      · rcases List.mem_cons.1 hy with rfl | hy
        · exact hc.1
        · have := h3 y hy
          rw [hasK_snoc] at this
          simp at this
          exact this.1

/-! ### Orders and witnesses -/
/-- Is place i done? -/
def at9 (D : List Bool) (i : Nat) : Bool := D.getD i false
/-- Of each call, does it stand in an order? None: a number is no place, or stands there twice. -/
def stK (n : Nat) : List Int → List Bool → Option (List Bool)
  | [], s => some s
  | p :: r, s => if p < 0 ∨ (n : Int) ≤ p ∨ at9 s p.toNat = true then none else stK n r (s.set p.toNat true)
/-- Is one that is answered not done? (of the first i) -/
def lcI (l : List Kl) (D : List Bool) (i : Nat) : Bool := (List.range i).any fun j => match l[j]? with | some x => ansK x && !at9 D j | none => false
def lckK (l : List Kl) (D : List Bool) : Bool := lcI l D l.length
/-- Does one that is not done precede it? (of the first i) -/
def laI (l : List Kl) (D : List Bool) (x : Kl) (i : Nat) : Bool := (List.range i).any fun j => match l[j]? with | some y => !at9 D j && prcK y x | none => false
def lateK (l : List Kl) (D : List Bool) (x : Kl) : Bool := laI l D x l.length
/-- Does an answered call get another answer? -/
def offK (L : List Cl) (x : Kl) : Bool := ansK x && !decide (wd L x.o.k x.o.s x.o.v = x.r)
/-- May the call at place p come next? -/
def nxtK (l : List Kl) (D : List Bool) (L : List Cl) (p : Nat) (x : Kl) : Bool := !(at9 D p || offK L x) && !lateK l D x
def dnK (L : List Cl) (x : Kl) : List Cl := dn L x.o.k x.o.s x.o.v
/-- The search: the least way on from where D is done and the ledger has L. -/
def srK (l : List Kl) : Nat → List Bool → List Cl → Option (List Nat)
  | 0, D, L => if lckK l D then none else some []
  | k + 1, D, L => if lckK l D then (List.range l.length).findSome? (fun p => (l[p]?).bind fun x => if nxtK l D L p x then (srK l k (D.set p true) (dnK L x)).map (p :: ·) else none) else some []
theorem lcI_succ {l : List Kl} {D : List Bool} {i : Nat} {x : Kl} (h : l[i]? = some x) : lcI l D (i + 1) = (lcI l D i || (ansK x && !at9 D i)) := by
  simp [lcI, List.range_succ, h]
theorem laI_succ {l : List Kl} {D : List Bool} {i : Nat} {x y : Kl} (h : l[i]? = some y) : laI l D x (i + 1) = (laI l D x i || (!at9 D i && prcK y x)) := by
  simp [laI, List.range_succ, h]

end Go.Proofs.Ytjkleldoeojbbaa
