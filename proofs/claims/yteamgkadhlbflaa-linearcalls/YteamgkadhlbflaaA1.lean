import Derived.DeepKeys4
import Derived.WideKeyEntry
import Derived.Maps.RangeWalk
import Derived.Shelf.SlSortCmp.WholeK
import Derived.Shelf.SlicesG.Cmp
import Derived.Shelf.SlGeneric
import Derived.Shelf.Lay
import Derived.Ground.SlsfProg
import Derived.Ground.SlgcProg
import Derived.Laws.IdiomRangeMap
import Derived.Laws.CopyOwn
import Derived.Laws.Tables
import Derived.Test.YteamgkadhlbflaaA0
set_option maxRecDepth 100000
set_option linter.unusedVariables false
set_option linter.unusedSimpArgs false
namespace Go.Proofs.Yteamgkadhlbflaa
open Go.RowKit Go.Maps
structure Kl where
  c : Int
  n : Int
  o : Opn
  b : Int
  e : Int
  r : Rs
def Kl.cs (x : Kl) : List Value := [.int .i64 x.c, .int .i64 x.n, .int .i64 x.o.k, .int .i64 x.o.s, .string x.o.v, .int .i64 x.b, .int .i64 x.e, .int .i64 x.r.1, .int .i64 x.r.2.1, .string x.r.2.2]
def Kl.val (x : Kl) : Value := .agg #[.int .i64 x.c, .int .i64 x.n, .int .i64 x.o.k, .int .i64 x.o.s, .string x.o.v, .int .i64 x.b, .int .i64 x.e, .int .i64 x.r.1, .int .i64 x.r.2.1, .string x.r.2.2]
structure Kl.fits (x : Kl) : Prop where
  cw : (Lit.int .i64 x.c).wf = true
  nw : (Lit.int .i64 x.n).wf = true
  ow : x.o.fits
  bw : (Lit.int .i64 x.b).wf = true
  ew : (Lit.int .i64 x.e).wf = true
  rl : x.r.2.2.size ≤ maxLen
def zK : Kl := ⟨0, 0, ⟨0, 0, ByteArray.empty⟩, 0, 0, (0, 0, ByteArray.empty)⟩
def yK : Lay Kl := ⟨45, 24, 10, 96, Kl.cs, zK⟩
theorem kK : yK.Ok := ⟨by decide, fun x => rfl, fun x u h => by
    simp [yK, Kl.cs] at h
    rcases h with rfl | rfl | rfl | rfl | rfl | rfl | rfl | rfl | rfl | rfl <;> rfl, Try.underlying24, ⟨.agg #[.int .i64 0, .int .i64 0, .int .i64 0, .int .i64 0, .string ByteArray.empty, .int .i64 0, .int .i64 0, .int .i64 0, .int .i64 0, .string ByteArray.empty], by kernel_rfl, rfl⟩⟩
structure KAt (w : World) (q o : Nat) (x : Kl) : Prop where
  lt : q < w.heap.size
  c0 : w.cell? ⟨q, o, none⟩ = some (.int .i64 x.c)
  c1 : w.cell? ⟨q, o + 1, none⟩ = some (.int .i64 x.n)
  c2 : w.cell? ⟨q, o + 2, none⟩ = some (.int .i64 x.o.k)
  c3 : w.cell? ⟨q, o + 3, none⟩ = some (.int .i64 x.o.s)
  c4 : w.cell? ⟨q, o + 4, none⟩ = some (.string x.o.v)
  c5 : w.cell? ⟨q, o + 5, none⟩ = some (.int .i64 x.b)
  c6 : w.cell? ⟨q, o + 6, none⟩ = some (.int .i64 x.e)
  c7 : w.cell? ⟨q, o + 7, none⟩ = some (.int .i64 x.r.1)
  c8 : w.cell? ⟨q, o + 8, none⟩ = some (.int .i64 x.r.2.1)
  c9 : w.cell? ⟨q, o + 9, none⟩ = some (.string x.r.2.2)
theorem SlY.kl {w : World} {a : Option Addr} {n c : Nat} {L : List Kl} (h : SlY yK w a n c L) {j : Nat} {x : Kl} (hx : L[j]? = some x) : ∃ q o, a = some ⟨q, o, none⟩ ∧ KAt w q (o + j * 10) x := by
  obtain ⟨q, o, ea, hq, hl⟩ := h.place (by rintro rfl; simp at hx)
  exact ⟨q, o, ea, ⟨hq, hl j x hx 0 _ rfl, hl j x hx 1 _ rfl, hl j x hx 2 _ rfl, hl j x hx 3 _ rfl, hl j x hx 4 _ rfl, hl j x hx 5 _ rfl, hl j x hx 6 _ rfl, hl j x hx 7 _ rfl, hl j x hx 8 _ rfl, hl j x hx 9 _ rfl⟩⟩
def ansK (x : Kl) : Bool := decide (0 ≤ x.e)
def prcK (a b : Kl) : Bool := decide (0 ≤ a.e) && decide (a.e < b.b)
def askB (c n : Int) (o : Opn) : Bool := decide (0 ≤ c) && (decide (c < 16) && (decide (1 ≤ n) && decide (ck o.k o.s o.v = 0)))
def mayK (x : Kl) : Bool := askB x.c x.n x.o && (decide (0 ≤ x.b) && ((decide (x.e = -1) && decide (x.r = (0, 0, ByteArray.empty))) || decide (x.b < x.e)))
def hasK (l : List Kl) (c n : Int) : Bool := l.any fun x => decide (x.c = c) && decide (x.n = n)
def kcA : List Kl → List Kl → Int
  | _, [] => 0
  | past, x :: r => if hasK past x.c x.n || !mayK x then 180 else kcA (past ++ [x]) r
def kchk (l : List Kl) : Int := kcA [] l
theorem kcA_at {L : List Kl} {j : Nat} {x : Kl} (h : L[j]? = some x) : kcA (L.take j) (L.drop j) = if hasK (L.take j) x.c x.n || !mayK x then 180 else kcA (L.take (j + 1)) (L.drop (j + 1)) := by
  have hj := (List.getElem?_eq_some_iff.1 h).1
  have he := (List.getElem?_eq_some_iff.1 h).2
  rw [List.drop_eq_getElem_cons hj, he, kcA, List.take_add_one, h]
  rfl
theorem kcA_end (L : List Kl) : kcA (L.take L.length) (L.drop L.length) = 0 := by simp [kcA]
theorem kcA_zero : ∀ (p l : List Kl), kcA p l = 0 ∨ kcA p l = 180
  | _, [] => .inl rfl
  | p, x :: r => by
    unfold kcA
    split
    · exact .inr rfl
    · exact kcA_zero _ r
theorem hasK_snoc (l : List Kl) (x : Kl) (c n : Int) : hasK (l ++ [x]) c n = (hasK l c n || (decide (x.c = c) && decide (x.n = n))) := by simp [hasK]
/-! ### Orders and witnesses -/
def at9 (D : List Bool) (i : Nat) : Bool := D.getD i false
def stK (n : Nat) : List Int → List Bool → Option (List Bool)
  | [], s => some s
  | p :: r, s => if p < 0 ∨ (n : Int) ≤ p ∨ at9 s p.toNat = true then none else stK n r (s.set p.toNat true)
def lcI (l : List Kl) (D : List Bool) (i : Nat) : Bool := (List.range i).any fun j => match l[j]? with | some x => ansK x && !at9 D j | none => false
def lckK (l : List Kl) (D : List Bool) : Bool := lcI l D l.length
def laI (l : List Kl) (D : List Bool) (x : Kl) (i : Nat) : Bool := (List.range i).any fun j => match l[j]? with | some y => !at9 D j && prcK y x | none => false
def lateK (l : List Kl) (D : List Bool) (x : Kl) : Bool := laI l D x l.length
def offK (L : List Cl) (x : Kl) : Bool := ansK x && !decide (wd L x.o.k x.o.s x.o.v = x.r)
def nxtK (l : List Kl) (D : List Bool) (L : List Cl) (p : Nat) (x : Kl) : Bool := !(at9 D p || offK L x) && !lateK l D x
def dnK (L : List Cl) (x : Kl) : List Cl := dn L x.o.k x.o.s x.o.v
def srK (l : List Kl) : Nat → List Bool → List Cl → Option (List Nat)
  | 0, D, L => if lckK l D then none else some []
  | k + 1, D, L => if lckK l D then (List.range l.length).findSome? (fun p => (l[p]?).bind fun x => if nxtK l D L p x then (srK l k (D.set p true) (dnK L x)).map (p :: ·) else none) else some []
theorem lcI_succ {l : List Kl} {D : List Bool} {i : Nat} {x : Kl} (h : l[i]? = some x) : lcI l D (i + 1) = (lcI l D i || (ansK x && !at9 D i)) := by
  simp [lcI, List.range_succ, h]
theorem laI_succ {l : List Kl} {D : List Bool} {i : Nat} {x y : Kl} (h : l[i]? = some y) : laI l D x (i + 1) = (laI l D x i || (!at9 D i && prcK y x)) := by
  simp [laI, List.range_succ, h]
end Go.Proofs.Yteamgkadhlbflaa
namespace Go.Proofs.Yteamgkadhlbflaa
open Go.RowKit Go.Maps
/-! ### Maps of any keys -/
structure KeyT (κ : Type) where
  T : TypeId
  enc : κ → Value
  ok : κ → Prop
structure KeyT.Ok {κ : Type} (Z : KeyT κ) : Prop where
  keyed : Keyed Try.prog Z.T
  has : ∀ k, Z.ok k → ∃ x : Lit, keyOf Try.prog Z.T (Z.enc k) = some x ∧ WideAt.IsKeyLit x
  inj : ∀ k k' (x : Lit), Z.ok k → Z.ok k' → keyOf Try.prog Z.T (Z.enc k) = some x → keyOf Try.prog Z.T (Z.enc k') = some x → k = k'
def MapG {κ : Type} (Z : KeyT κ) (w : World) (b n : Nat) (f : κ → Option Value) : Prop := ∃ D : DataW Value, w.ownsMap Try.prog Z.T RV b n D ∧ ∀ k z x, Z.ok k → keyOf Try.prog Z.T (Z.enc k) = some x → D.atKey x z = match f k with | some v => .held v | none => z
section
variable {κ : Type} {Z : KeyT κ} {w w' : World} {b n : Nat} {f : κ → Option Value}
theorem MapG.lt (h : MapG Z w b n f) : b < w.heap.size := by obtain ⟨D, h1, _⟩ := h; exact h1.lt
theorem MapG.made (Z : KeyT κ) (w : World) : MapG Z (w.alloc (.map #[] 0)) w.heap.size 0 (fun _ => none) := ⟨_, World.ownsMap_made w Try.prog Z.T RV, fun k z x _ _ => rfl⟩
theorem MapG.block (h : MapG Z w b n f) (e : w'.heap[b]? = w.heap[b]?) : MapG Z w' b n f := by
  obtain ⟨D, ⟨es, clock, hb, F, hs, hD⟩, h2⟩ := h
  exact ⟨D, ⟨es, clock, e.trans hb, F, hs, hD⟩, h2⟩
theorem MapG.upd {S : Nat → Prop} (h : MapG Z w b n f) (u : Upd S w w') (hs : ¬ S b) : MapG Z w' b n f := h.block (u.block b h.lt hs)
theorem MapG.later (h : MapG Z w b n f) (hb : Below w.heap.size w w') : MapG Z w' b n f := h.block (hb.block b h.lt)
theorem MapG.isMap (h : MapG Z w b n f) : ∃ es c, w.heap[b]? = some (.map es c) := by
  obtain ⟨D, ⟨es, clock, hb, _⟩, _⟩ := h
  exact ⟨es, clock, hb⟩
theorem MapG.ext {g : κ → Option Value} (h : MapG Z w b n f) (e : ∀ k, Z.ok k → g k = f k) : MapG Z w b n g := by
  obtain ⟨D, h1, h2⟩ := h
  exact ⟨D, h1, fun k z x hk hx => by rw [e k hk]; exact h2 k z x hk hx⟩
theorem MapG.look (K : Z.Ok) (h : MapG Z w b n f) (c : Bool) {t e : TypeId} (ht : Try.prog.underlying t = some (.map Z.T e)) {z : Value} (hz : (zeroValue e).run Try.prog w = .ok z w) {k : κ} (hk : Z.ok k) :
    (Instr.lookup t (.map (some b)) (Z.enc k) c).run Try.prog w = .ok (if c then .tuple #[(f k).getD z, .bool (f k).isSome] else (f k).getD z) w := by
  obtain ⟨D, ⟨es, clock, hb, F, hs, hD⟩, h2⟩ := h
  obtain ⟨x, hx, _⟩ := K.has k hk
  have h3 := fun z => h2 k z x hk hx
  subst hD
  rcases Maps.fit_look c K.keyed ht hz hb F hx with ⟨hrun, _, hat⟩ | ⟨e0, y, _, _, hrun, hRv, hat, _⟩
  · have : f k = none := by
      cases hf : f k with
      | none => rfl
      | some v =>
        have h4 := h3 .nil
        rw [hat .nil, hf] at h4
        cases h4
    rw [hrun, this]
    rfl
  · have : f k = some e0.val := by
      have h4 := h3 .nil
      rw [hat .nil] at h4
      simp [RV] at hRv
      rw [← hRv] at h4
      cases hf : f k with
      | none => rw [hf] at h4; cases h4
      | some v => rw [hf] at h4; exact congrArg some (DataW.held.inj h4).symm
    rw [hrun, this]
    rfl
open Classical in
theorem mapG_put (K : Z.Ok) (w : World) {ops : Array Oper} {rest : List Oper} {o : Oper} {a : Act} {Q : Exit → Act → World → Prop} (hg : o.guard = none) (m x v : Operand) (t : TypeId) (hop : o.op = Op.mapUpdate t m x v)
    (e : TypeId) (ht : Try.prog.underlying t = some (.map Z.T e)) (b n : Nat) (f : κ → Option Value) (hm : a.eval m = .map (some b)) (hown : MapG Z w b n f) (hn : n < maxLen) (k : κ) (hk : Z.ok k) (val : Value) (hx : a.eval x = Z.enc k) (hv : a.eval v = val)
    (hK : ∀ w' g, g k = some val → (∀ k', k' ≠ k → g k' = f k') → MapG Z w' b (n + 1) g → w.grownBy w' (some b) → wpList Try.prog ops Q rest (a.put o.dst undef) w') : wpList Try.prog ops Q (o :: rest) a w := by
  obtain ⟨D, h1, h2⟩ := hown
  obtain ⟨y, hy, hyk⟩ := K.has k hk
  refine wpList_mapUpdate_own w hg m x v t hop Z.T e K.keyed ht RV b n D hm h1 hn _ val _ hx hv hy (.held val) [] rfl (fun w' h3 h4 => hK w' (fun k' => if k' = k then some val else f k') (if_pos rfl) (fun k' h => if_neg h) ⟨_, h3, fun k' z x' hk' hx' => ?_⟩ h4)
  by_cases e : k' = k
  · subst e
    rw [hy] at hx'
    cases hx'
    rw [Maps.atKey_put_same h1.isMap hyk]
    simp
  · have hne : x' ≠ y := fun h => e (K.inj k' k y hk' hk (h ▸ hx') hy)
    rw [Maps.atKey_put_other hne, h2 k' z x' hk' hx']
    simp [e]
end
theorem laidOutK : laidOutB Try.prog = true := by kernel_rfl
/-! A request: a client and a number. -/
def zRq : KeyT (Int × Int) := ⟨100, fun k => .agg #[.int .i64 k.1, .int .i64 k.2], fun k => (Lit.int .i64 k.1).wf = true ∧ (Lit.int .i64 k.2).wf = true⟩
theorem rowRq : 100 < Try.prog.types.size := of_decide_eq_true (by kernel_rfl)
theorem cellsRq : Try.prog.cellsOf 100 = 2 := by kernel_rfl
theorem cellsI : Try.prog.cellsOf 3 = 1 := by kernel_rfl
theorem cellsS : Try.prog.cellsOf 9 = 1 := by kernel_rfl
theorem cellsB : Try.prog.cellsOf 4 = 1 := by kernel_rfl
theorem lawRq : WideMaps.KeyLaw Try.prog 100 := deep_law_laid laidOutK (m := 2) (by omega) rowRq (by kernel_rfl) (by kernel_rfl)
theorem formedRq (k : Int × Int) : (zRq.enc k).formed Try.prog 100 = true := by
  simp [zRq, Value.formed, Try.underlying100, cellsRq]
theorem keyOfRq (k : Int × Int) (hk : zRq.ok k) : ∃ x : Lit, keyOf Try.prog 100 (zRq.enc k) = some x ∧ WideAt.IsKeyLit x := by
  have hl : Try.prog.keyLits (Try.prog.types.size + 1) 100 (zRq.enc k).cells.toList = some [.int .i64 k.1, .int .i64 k.2] := by
    obtain ⟨m, hm⟩ : ∃ m, Try.prog.types.size = m + 1 := ⟨Try.prog.types.size - 1, (Nat.succ_pred_eq_of_pos (Nat.lt_of_le_of_lt (Nat.zero_le _) rowRq)).symm⟩
    rw [hm]
    have h1 := hk.1
    have h2 := hk.2
    simp [Program.keyLits, Try.underlying100, zRq, Value.cells, cellsRq, Try.underlying3, cellsI, h1, h2]
  have kt : Try.prog.keyType 100 = true := by kernel_rfl
  simp only [keyOf, Try.underlying100, kt, formedRq, Bool.and_self, if_true, hl, Option.map_some]
  exact ⟨_, rfl, trivial⟩
theorem kRq : zRq.Ok := ⟨Keyed.of_law lawRq, keyOfRq, fun k k' x hk hk' h h' => by
  have := lawRq.inj h h'
  obtain ⟨a, b⟩ := k
  obtain ⟨a', b'⟩ := k'
  simpa [zRq] using this⟩
end Go.Proofs.Yteamgkadhlbflaa
namespace Go.Proofs.Yteamgkadhlbflaa
open Go.RowKit Go.Maps
structure KB (w : World) (q : Nat) (x : Kl) : Prop where
  lt : q < w.heap.size
  c0 : w.cell? ⟨q, 0, none⟩ = some (.int .i64 x.c)
  c1 : w.cell? ⟨q, 1, none⟩ = some (.int .i64 x.n)
  c2 : w.cell? ⟨q, 2, none⟩ = some (.int .i64 x.o.k)
  c3 : w.cell? ⟨q, 3, none⟩ = some (.int .i64 x.o.s)
  c4 : w.cell? ⟨q, 4, none⟩ = some (.string x.o.v)
  c5 : w.cell? ⟨q, 5, none⟩ = some (.int .i64 x.b)
  c6 : w.cell? ⟨q, 6, none⟩ = some (.int .i64 x.e)
  c7 : w.cell? ⟨q, 7, none⟩ = some (.int .i64 x.r.1)
  c8 : w.cell? ⟨q, 8, none⟩ = some (.int .i64 x.r.2.1)
  c9 : w.cell? ⟨q, 9, none⟩ = some (.string x.r.2.2)
theorem KB.new (w : World) (x : Kl) (T : TypeId) : KB (w.alloc (.cells x.cs.toArray T)) w.heap.size x := by
  unfold Kl.cs
  constructor <;> go_simp
theorem KB.upd {S : Nat → Prop} {w w' : World} {q : Nat} {x : Kl} (h : KB w q x) (u : Upd S w w') (hs : ¬ S q) : KB w' q x :=
  ⟨Nat.lt_of_lt_of_le h.lt u.size, (u.cell h.lt hs).trans h.c0, (u.cell h.lt hs).trans h.c1, (u.cell h.lt hs).trans h.c2, (u.cell h.lt hs).trans h.c3, (u.cell h.lt hs).trans h.c4, (u.cell h.lt hs).trans h.c5, (u.cell h.lt hs).trans h.c6, (u.cell h.lt hs).trans h.c7, (u.cell h.lt hs).trans h.c8, (u.cell h.lt hs).trans h.c9⟩
theorem KB.later {w w' : World} {q : Nat} {x : Kl} (h : KB w q x) (hb : Below w.heap.size w w') : KB w' q x := h.upd (S := fun _ => False) (Upd.of_below hb) id
theorem requestOf_any (c n k s : Int) (v : ByteArray) (w : World) : Calls Try.prog 35 #[.agg #[.int .i64 c, .int .i64 n, .int .i64 k, .int .i64 s, .string v]] w fun e w' => e = .returned (.agg #[.int .i64 c, .int .i64 n]) ∧ Below w.heap.size w w' := by
  go_enter Try.func35, Try.ntmps35
  go_wp2
  refine bodyPost_ret (v := .agg #[.int .i64 c, .int .i64 n]) (by simp [results, Try.results35, go_sem]) rfl ⟨rfl, ?_⟩
  repeat (first | exact Below.refl _ _ | refine Below.alloc ?_ (by first | exact Nat.le_refl _ | (simp [World.setCell]; done) | (simp [World.setCell]; omega)) _ | refine Below.setCell ?_ (by first | (simp; done) | (simp; omega)) _)
theorem entryOf_any (x : Kl) (w : World) : Calls Try.prog 36 #[x.val] w fun e w' => e = .returned (.agg #[.int .i64 x.c, .int .i64 x.n, .int .i64 x.o.k, .int .i64 x.o.s, .string x.o.v]) ∧ Below w.heap.size w w' := by
  unfold Kl.val
  go_enter Try.func36, Try.ntmps36
  go_wp2
  refine bodyPost_ret (v := .agg #[.int .i64 x.c, .int .i64 x.n, .int .i64 x.o.k, .int .i64 x.o.s, .string x.o.v]) (by simp [results, Try.results36, go_sem]) rfl ⟨rfl, ?_⟩
  repeat (first | exact Below.refl _ _ | refine Below.alloc ?_ (by first | exact Nat.le_refl _ | (simp [World.setCell]; done) | (simp [World.setCell]; omega)) _ | refine Below.setCell ?_ (by first | (simp; done) | (simp; omega)) _)
theorem isAnswered_any (x : Kl) (w : World) : Calls Try.prog 54 #[x.val] w fun e w' => e = .returned (.bool (ansK x)) ∧ Below w.heap.size w w' := by
  unfold Kl.val
  go_enter Try.func54, Try.ntmps54
  go_wp2
  go_ret
  exact ⟨rfl, (Below.refl _ w).alloc (Nat.le_refl _) _⟩
theorem precedes_any (x y : Kl) (w : World) : Calls Try.prog 63 #[x.val, y.val] w fun e w' => e = .returned (.bool (prcK x y)) ∧ Below w.heap.size w w' := by
  have ci := fun W => isAnswered_any x W
  have bA := ((Below.refl w.heap.size w).alloc (Nat.le_refl _) (.cells x.cs.toArray 45)).alloc (by simp) (.cells y.cs.toArray 45)
  have kx := (KB.new w x 45).later ((Below.refl _ _).alloc (Nat.le_refl _) (.cells y.cs.toArray 45))
  have ky := KB.new (w.alloc (.cells x.cs.toArray 45)) y 45
  rw [World.size_alloc] at ky
  have HX := hide kx
  have HY := hide ky
  clear kx ky
  unfold prcK
  cases h : ansK x with
  | false =>
    rw [h] at ci
    have h2 : decide (0 ≤ x.e) = false := h
    rw [h2]
    unfold Kl.val at *
    unfold Kl.cs at bA
    go_enter Try.func63, Try.ntmps63
    go_wp2_with (go_at_call 54; refine (ci _).mono ?_; rintro e w1 ⟨rfl, b1⟩)
    go_ret
    exact ⟨rfl, bA.trans (b1.mono (by simp; omega))⟩
  | true =>
    rw [h] at ci
    have h2 : decide (0 ≤ x.e) = true := h
    rw [h2]
    unfold Kl.val at *
    unfold Kl.cs at bA
    go_enter Try.func63, Try.ntmps63
    go_wp2_with (go_at_call 54; refine (ci _).mono ?_; rintro e w1 ⟨rfl, b1⟩; have k1 := (HX.out.later b1).c6; have k2 := (HY.out.later b1).c5)
    go_ret
    exact ⟨rfl, bA.trans (b1.mono (by simp; omega))⟩
theorem mayBeAsked_any (c n k s : Int) (v : ByteArray) (hf : (⟨k, s, v⟩ : Opn).fits) (w : World) : Calls Try.prog 53 #[.agg #[.int .i64 c, .int .i64 n, .int .i64 k, .int .i64 s, .string v]] w fun e w' => e = .returned (.bool (askB c n ⟨k, s, v⟩)) ∧ Below w.heap.size w w' := by
  have cc := fun W => check3 k s v hf W
  have bA := (Below.refl w.heap.size w).alloc (Nat.le_refl _) (.cells #[.int .i64 c, .int .i64 n, .int .i64 k, .int .i64 s, .string v] 76)
  unfold askB
  cases h1 : decide (0 ≤ c) with
  | false =>
    go_enter Try.func53, Try.ntmps53
    go_wp2
    go_ret
    exact ⟨rfl, bA⟩
  | true =>
    cases h2 : decide (c < 16) with
    | false =>
      go_enter Try.func53, Try.ntmps53
      go_wp2
      go_ret
      exact ⟨rfl, bA⟩
    | true =>
      cases h3 : decide (1 ≤ n) with
      | false =>
        go_enter Try.func53, Try.ntmps53
        go_wp2
        go_ret
        exact ⟨rfl, bA⟩
      | true =>
        generalize ck k s v = z at *
        go_enter Try.func53, Try.ntmps53
        go_wp2_with (go_at_call 38; refine (cc _).mono ?_; rintro e w1 ⟨rfl, b1⟩)
        go_ret
        refine ⟨?_, bA.trans (b1.mono (by simp))⟩
        by_cases hz : z = 0 <;> simp [hz]
end Go.Proofs.Yteamgkadhlbflaa
namespace Go.Proofs.Yteamgkadhlbflaa
/-! ### How long a search goes on -/
theorem at9_set (D : List Bool) (p i : Nat) (hp : p < D.length) : at9 (D.set p true) i = (decide (i = p) || at9 D i) := by
  unfold at9
  simp only [List.getD_eq_getElem?_getD, List.getElem?_set]
  by_cases h : p = i
  · subst h
    simp [hp]
  · have : ¬ i = p := fun e => h e.symm
    simp [h, this]
def cU (D : List Bool) : Nat → Nat
  | 0 => 0
  | n + 1 => cU D n + (if at9 D n then 0 else 1)
theorem cU_set (D : List Bool) (p : Nat) (hp : p < D.length) (hn : at9 D p = false) : ∀ n, cU (D.set p true) n + (if p < n then 1 else 0) = cU D n
  | 0 => by simp [cU]
  | n + 1 => by
    have ih := cU_set D p hp hn n
    simp only [cU, at9_set D p n hp]
    by_cases h : n = p
    · subst h
      simp [hn] at ih ⊢
      omega
    · by_cases h1 : p < n
      · have h2 : p < n + 1 := by omega
        simp [h, h1, h2] at ih ⊢
        omega
      · have h2 : ¬ p < n + 1 := by omega
        simp [h, h1, h2] at ih ⊢
        omega
theorem cU_zero (D : List Bool) : ∀ n, cU D n = 0 → ∀ i, i < n → at9 D i = true
  | 0, _, i, hi => by omega
  | n + 1, h, i, hi => by
    simp only [cU] at h
    by_cases e : i = n
    · subst e
      cases hx : at9 D i with
      | true => rfl
      | false => simp [hx] at h
    · exact cU_zero D n (by omega) i (by omega)
theorem cU_le (D : List Bool) : ∀ n, cU D n ≤ n
  | 0 => Nat.le_refl _
  | n + 1 => by
    have := cU_le D n
    simp only [cU]
    split <;> omega
theorem lck_none {l : List Kl} {D : List Bool} (h : cU D l.length = 0) : lckK l D = false := by
  unfold lckK lcI
  rw [List.any_eq_false]
  intro j hj
  have hj := List.mem_range.1 hj
  rw [List.getElem?_eq_getElem hj]
  simp [cU_zero D _ h j hj]
theorem findSome_congr {α β : Type} {f g : α → Option β} : ∀ {l : List α}, (∀ x ∈ l, f x = g x) → l.findSome? f = l.findSome? g
  | [], _ => rfl
  | x :: r, h => by
    simp only [List.findSome?_cons]
    rw [h x (by simp), findSome_congr (fun y hy => h y (by simp [hy]))]
theorem nxt_at {l : List Kl} {D : List Bool} {L : List Cl} {p : Nat} {x : Kl} (h : nxtK l D L p x = true) : at9 D p = false ∧ offK L x = false ∧ lateK l D x = false := by
  unfold nxtK at h
  simp at h
  exact ⟨h.1.1, h.1.2, h.2⟩
theorem srK_fuel (l : List Kl) : ∀ (k : Nat) (D : List Bool) (L : List Cl), l.length ≤ D.length → cU D l.length ≤ k → srK l (k + 1) D L = srK l k D L
  | 0, D, L, hD, hk => by
    have := lck_none (l := l) (D := D) (by omega)
    simp [srK, this]
  | k + 1, D, L, hD, hk => by
    rw [srK, srK]
    split
    · refine findSome_congr (fun p hp => ?_)
      have hp := List.mem_range.1 hp
      rw [List.getElem?_eq_getElem hp, Option.bind_some, Option.bind_some]
      split
      · rename_i hn
        have hs := cU_set D p (by omega) (nxt_at hn).1 l.length
        rw [if_pos hp] at hs
        rw [srK_fuel l k (D.set p true) _ (by simpa using hD) (by omega)]
      · rfl
    · rfl
theorem srK_any (l : List Kl) (D : List Bool) (L : List Cl) (hD : l.length ≤ D.length) : ∀ k, srK l (cU D l.length + k) D L = srK l (cU D l.length) D L
  | 0 => rfl
  | k + 1 => (srK_fuel l (cU D l.length + k) D L hD (by omega)).trans (srK_any l D L hD k)
theorem srK_eq (l : List Kl) (D : List Bool) (L : List Cl) (hD : l.length ≤ D.length) {k k' : Nat} (h : cU D l.length ≤ k) (h' : cU D l.length ≤ k') : srK l k D L = srK l k' D L := by
  have h1 := srK_any l D L hD (k - cU D l.length)
  have h2 := srK_any l D L hD (k' - cU D l.length)
  rw [show cU D l.length + (k - cU D l.length) = k by omega] at h1
  rw [show cU D l.length + (k' - cU D l.length) = k' by omega] at h2
  exact h1.trans h2.symm
def dead (l : List Kl) (D : List Bool) (L : List Cl) : Prop := ∀ k, cU D l.length ≤ k → srK l k D L = none
theorem dead_of {l : List Kl} {D : List Bool} {L : List Cl} (hD : l.length ≤ D.length) {k : Nat} (h : cU D l.length ≤ k) (e : srK l k D L = none) : dead l D L := fun k' h' => (srK_eq l D L hD h' h).trans e
def srF (l : List Kl) (k : Nat) (D : List Bool) (L : List Cl) (i : Nat) : Option (List Nat) := ((List.range l.length).drop i).findSome? (fun p => (l[p]?).bind fun x => if nxtK l D L p x then (srK l k (D.set p true) (dnK L x)).map (p :: ·) else none)
theorem srF_zero (l : List Kl) (k : Nat) (D : List Bool) (L : List Cl) (h : lckK l D = true) : srK l (k + 1) D L = srF l k D L 0 := by
  simp [srK, h, srF]
theorem srF_end (l : List Kl) (k : Nat) (D : List Bool) (L : List Cl) : srF l k D L l.length = none := by
  simp [srF, List.drop_of_length_le]
theorem srF_at (l : List Kl) (k : Nat) (D : List Bool) (L : List Cl) {i : Nat} {x : Kl} (h : l[i]? = some x) : srF l k D L i = if nxtK l D L i x then (match srK l k (D.set i true) (dnK L x) with | some s => some (i :: s) | none => srF l k D L (i + 1)) else srF l k D L (i + 1) := by
  have hi := (List.getElem?_eq_some_iff.1 h).1
  have e : (List.range l.length).drop i = i :: (List.range l.length).drop (i + 1) := by
    rw [List.drop_eq_getElem_cons (by simpa using hi)]
    simp
  unfold srF
  rw [e, List.findSome?_cons, h, Option.bind_some]
  by_cases hn : nxtK l D L i x = true
  · rw [if_pos hn, if_pos hn]
    cases srK l k (D.set i true) (dnK L x) <;> rfl
  · rw [if_neg hn, if_neg hn]
end Go.Proofs.Yteamgkadhlbflaa
namespace Go.Proofs.Yteamgkadhlbflaa
open Go.RowKit Go.Maps
theorem eqlRz (r : Rs) (w : World) : (binOp .eql 43 (.agg #[.int .i64 r.1, .int .i64 r.2.1, .string r.2.2]) (.agg #[.int .i64 0, .int .i64 0, .string ⟨#[]⟩])).run Try.prog w = .ok (.bool (decide (r = (0, 0, ByteArray.empty)))) w := eql_res r (0, 0, ⟨#[]⟩) w
set_option maxHeartbeats 1000000 in
theorem mayBe_any (x : Kl) (hf : x.fits) (w : World) : Calls Try.prog 37 #[x.val] w fun e w' => e = .returned (.bool (mayK x)) ∧ Below w.heap.size w w' := by
  have ce := fun W => entryOf_any x W
  have cm := fun W => mayBeAsked_any x.c x.n x.o.k x.o.s x.o.v hf.ow W
  have bA := (Below.refl w.heap.size w).alloc (Nat.le_refl _) (.cells x.cs.toArray 45)
  have HX := hide (KB.new w x 45)
  have hq := fun W => eqlRz x.r W
  unfold mayK
  unfold Kl.val at *
  unfold Kl.cs at bA
  have eo : (⟨x.o.k, x.o.s, x.o.v⟩ : Opn) = x.o := rfl
  rw [eo] at cm
  obtain ⟨c, n, ⟨k, s, v⟩, b, e, r1, r2, r3⟩ := x
  dsimp only at *
  generalize askB c n ⟨k, s, v⟩ = ab at *
  generalize decide ((r1, r2, r3) = ((0, 0, ByteArray.empty) : Rs)) = rz at *
  by_cases h1 : e = -1
  · subst h1
    cases ab <;> cases h2 : decide (0 ≤ b) <;> cases rz <;> (
    go_enter Try.func37, Try.ntmps37
    go_wp2_with (first
      | (go_at_call 36; refine (ce _).mono ?_; rintro e w1 ⟨rfl, b1⟩)
      | (go_at_call 53; refine (cm _).mono ?_; rintro e w2 ⟨rfl, b2⟩; have k5 := ((HX.out.later b1).later b2).c5; have k6 := ((HX.out.later b1).later b2).c6; dsimp only at k5 k6))
    go_ret
    exact ⟨rfl, bA.trans ((b1.trans (b2.mono b1.size)).mono (by simp))⟩)
  · have h1' : decide (e = -1) = false := decide_eq_false h1
    rw [h1']
    cases ab <;> cases h2 : decide (0 ≤ b) <;> (
    go_enter Try.func37, Try.ntmps37
    go_wp2_with (first
      | (go_at_call 36; refine (ce _).mono ?_; rintro e w1 ⟨rfl, b1⟩)
      | (go_at_call 53; refine (cm _).mono ?_; rintro e w2 ⟨rfl, b2⟩; have k5 := ((HX.out.later b1).later b2).c5; have k6 := ((HX.out.later b1).later b2).c6; dsimp only at k5 k6))
    go_ret
    exact ⟨rfl, bA.trans ((b1.trans (b2.mono b1.size)).mono (by simp))⟩)
theorem ret18 {k : IntKind} {a b : Int} (h : a = b) : Ending.returned (.int k a) = .returned (.int k b) := by rw [h]
theorem run_makeMapN {t k e : TypeId} (ht : Try.prog.underlying t = some (.map k e)) (n : Int) (w : World) : (Instr.makeMap t (some (.int .i64 n))).run Try.prog w = .ok (.map (some w.heap.size)) (w.alloc (.map #[] 0)) := by
  simp [Instr.makeMap, run_underlying ht, asInt, asIntOf, Result.andThen]
def mF (l : List Kl) (k : Int × Int) : Option Value := if hasK l k.1 k.2 then some (.agg #[]) else none
theorem mF_snoc {l l' : List Kl} {x : Kl} (h : l' = l ++ [x]) {g : Int × Int → Option Value} (g0 : g (x.c, x.n) = some (.agg #[])) (g1 : ∀ k, k ≠ (x.c, x.n) → g k = mF l k) (k : Int × Int) : mF l' k = g k := by
  subst h
  by_cases e : k = (x.c, x.n)
  · rw [e, g0]
    unfold mF
    rw [hasK_snoc]
    simp
  · rw [g1 k e]
    unfold mF
    rw [hasK_snoc]
    have : (decide (x.c = k.1) && decide (x.n = k.2)) = false := by
      rw [Bool.and_eq_false_iff]
      by_cases e1 : x.c = k.1
      · right
        refine decide_eq_false (fun e2 => e ?_)
        rw [e1, e2]
      · exact .inl (decide_eq_false e1)
    rw [this, Bool.or_false]
set_option maxHeartbeats 1000000 in
theorem check18_any (L : List Kl) (a : Option Addr) (c : Nat) (w : World) (h : SlY yK w a L.length c L) (hf : ∀ x ∈ L, x.fits) :
    Calls Try.prog 15 #[.slice a L.length c] w fun e w' => e = .returned (.int .i64 (kchk L)) ∧ Below w.heap.size w w' := by
  have hmx := h.max
  have hcp := h.cap
  unfold maxLen at hmx
  have hmm := fun n W => run_makeMapN Try.underlying98 n W
  have H := hide h
  have HF := hide hf
  have HE : Hid (kchk L = kcA (L.take 0) (L.drop 0)) := by show _ = _; simp [kchk]
  generalize kchk L = X at *
  clear h hf
  go_enter Try.func15, Try.ntmps15
  go_wp2
  go_loopw [14] (fun i wr => ∃ j : Nat, i = .int .i64 (j : Int) ∧ j ≤ L.length ∧ MapG zRq wr w.heap.size j (mF (L.take j)) ∧ Below w.heap.size w wr ∧ X = kcA (L.take j) (L.drop j)) (fun i _ => L.length - (intOf i).toNat)
  case atStart => exact ⟨0, rfl, Nat.zero_le _, (MapG.made zRq w).ext (fun k _ => by simp [mF, hasK]), (Below.refl _ _).alloc (Nat.le_refl _) _, HE.out⟩
  case round =>
    obtain ⟨j, rfl, hj, hm, hb, hX⟩ := hrel
    by_cases hlt : j < L.length
    · obtain ⟨x, hx⟩ : ∃ x, L[j]? = some x := ⟨_, List.getElem?_eq_getElem hlt⟩
      obtain ⟨q, o, rfl, KX⟩ := (H.out.upd (S := fun k => w.heap.size ≤ k) ⟨hb.os, hb.tape, hb.output, hb.size, fun k hk hs => hb.block k (by omega)⟩ (fun y hy hne => by
        rcases H.out.at_ y hy with e | ⟨q, o, rfl, hq, _⟩
        · exact absurd e hne
        · show ¬ (w.heap.size ≤ q); omega)).kl hx
      have fx := HF.out x (List.mem_of_getElem? hx)
      have hX2 := hide (hX.trans (kcA_at hx))
      have hT := hide (show L.take (j + 1) = L.take j ++ [x] by rw [List.take_add_one, hx]; rfl)
      clear hX
      obtain ⟨_, e0, e1, e2, e3, e4, e5, e6, e7, e8, e9⟩ := KX
      have hsz := hb.size
      have MH := hide hm
      have BH := hide hb
      clear hm hb
      have ce := fun W => entryOf_any x W
      have cq := fun W => requestOf_any x.c x.n x.o.k x.o.s x.o.v W
      have cm := fun W => mayBe_any x fx W
      have hk : zRq.ok (x.c, x.n) := ⟨fx.cw, fx.nw⟩
      have HK := hide hk
      clear hk fx
      unfold Kl.val at ce cm
      have bx := hide ((Below.refl wr.heap.size wr).alloc (Nat.le_refl _) (.cells x.cs.toArray 45))
      have kx := hide (KB.new wr x 45)
      unfold Kl.cs at bx kx
      have hlk : Hid (∀ W, Below wr.heap.size wr W → (Instr.lookup 98 (.map (some w.heap.size)) (.agg #[.int .i64 x.c, .int .i64 x.n]) true).run Try.prog W = .ok (.tuple #[.agg #[], .bool (hasK (L.take j) x.c x.n)]) W) := fun W hW => by
        have := (MH.out.later hW).look kRq true (t := 98) Try.underlying98 (z := .agg #[]) (by kernel_rfl) HK.out
        refine this.trans ?_
        unfold mF
        cases hasK (L.take j) x.c x.n <;> rfl
      cases hh : hasK (L.take j) x.c x.n with
      | true =>
        rw [hh] at hlk
        have hX3 : Hid (X = 180) := by
          have := hX2.out
          rw [hh] at this
          exact this
        clear hX2
        go_wp2_with (first
          | (go_at_call 36; refine (ce _).mono ?_; rintro e w1 ⟨rfl, b1⟩)
          | (go_at_call 35; refine (cq _).mono ?_; rintro e w2 ⟨rfl, b2⟩; have hb3 := bx.out.trans ((b1.trans (b2.mono b1.size)).mono (by simp)); have hl3 := hlk.out _ (hb3.alloc hb3.size (.cells #[.int .i64 x.c, .int .i64 x.n] 100)); obtain ⟨kl, k0, k1, k2, k3, k4, k5, k6, k7, k8, k9⟩ := (kx.out.later b1).later b2; have n1 : wr.heap.size ≠ w2.heap.size := (by omega); have n2 : wr.heap.size ≠ w2.heap.size + 1 := (by omega)))
        go_ret
        exact ⟨ret18 hX3.out.symm, BH.out.trans (((hb3.alloc hb3.size _).alloc (by have := hb3.size; simp; omega) _).mono hsz)⟩
      | false =>
        rw [hh] at hlk
        cases hy : mayK x with
        | false =>
          rw [hy] at cm
          have hX3 : Hid (X = 180) := by
            have := hX2.out
            rw [hh, hy] at this
            exact this
          clear hX2
          go_wp2_with (first
          | (go_at_call 36; refine (ce _).mono ?_; rintro e w1 ⟨rfl, b1⟩)
          | (go_at_call 35; refine (cq _).mono ?_; rintro e w2 ⟨rfl, b2⟩; have hb3 := bx.out.trans ((b1.trans (b2.mono b1.size)).mono (by simp)); have hl3 := hlk.out _ (hb3.alloc hb3.size (.cells #[.int .i64 x.c, .int .i64 x.n] 100)); obtain ⟨kl, k0, k1, k2, k3, k4, k5, k6, k7, k8, k9⟩ := (kx.out.later b1).later b2; have n1 : wr.heap.size ≠ w2.heap.size := (by omega); have n2 : wr.heap.size ≠ w2.heap.size + 1 := (by omega))
          | (go_at_call 37; refine (cm _).mono ?_; rintro e w3 ⟨rfl, b3⟩))
          go_ret
          exact ⟨ret18 hX3.out.symm, BH.out.trans ((((hb3.alloc hb3.size _).alloc (by have := hb3.size; simp; omega) _).trans (b3.mono (by have := hb3.size; simp; omega))).mono hsz)⟩
        | true =>
          rw [hy] at cm
          have hX3 : Hid (X = kcA (L.take (j + 1)) (L.drop (j + 1))) := by
            have := hX2.out
            rw [hh, hy] at this
            exact this
          clear hX2
          have hjm : j < maxLen := by unfold maxLen; omega
          have HJ := hide hjm
          clear hjm
          go_wp2_with (first
          | (go_at_call 36; refine (ce _).mono ?_; rintro e w1 ⟨rfl, b1⟩)
          | (go_at_call 35; refine (cq _).mono ?_; rintro e w2 ⟨rfl, b2⟩; have hb3 := bx.out.trans ((b1.trans (b2.mono b1.size)).mono (by simp)); have hl3 := hlk.out _ (hb3.alloc hb3.size (.cells #[.int .i64 x.c, .int .i64 x.n] 100)); obtain ⟨kl, k0, k1, k2, k3, k4, k5, k6, k7, k8, k9⟩ := (kx.out.later b1).later b2; have n1 : wr.heap.size ≠ w2.heap.size := (by omega); have n2 : wr.heap.size ≠ w2.heap.size + 1 := (by omega))
          | (go_at_call 37; refine (cm _).mono ?_; rintro e w3 ⟨rfl, b3⟩; have hb4 := ((hb3.alloc hb3.size (.cells #[.int .i64 x.c, .int .i64 x.n] 100)).alloc (by have := hb3.size; simp; omega) (.cells #[] 103)).trans (b3.mono (by have := hb3.size; simp; omega)); have m0 : w3.cell? ⟨w2.heap.size, 0, none⟩ = some (.int .i64 x.c) := (b3.cell (p := ⟨w2.heap.size, 0, none⟩) (by simp; omega)).trans (by go_simp); have m1 : w3.cell? ⟨w2.heap.size, 1, none⟩ = some (.int .i64 x.n) := (b3.cell (p := ⟨w2.heap.size, 1, none⟩) (by simp; omega)).trans (by go_simp))
          | (at_mapUpdate; refine mapG_put kRq _ rfl _ _ _ 98 rfl 103 Try.underlying98 w.heap.size j _ rfl (MH.out.later hb4) HJ.out (x.c, x.n) HK.out _ rfl rfl ?_; intro w5 g5 g50 g51 hm5 hg5)
          | go_in)
          have M5 : Hid (MapG zRq w5 w.heap.size (j + 1) (mF (L.take (j + 1)))) := hm5.ext (fun k _ => mF_snoc hT.out g50 g51 k)
          have B5 : Hid (Below w.heap.size w w5) := (BH.out.trans (hb4.mono hsz)).grown hg5 (by have := hb4.size; omega) (fun k hk => by cases hk; exact Nat.le_refl _)
          clear hm5 hg5
          go_round
          case rel => exact ⟨j + 1, by go_num, by omega, M5.out, B5.out, hX3.out⟩
          case measure => simp [intOf]; omega
    · obtain rfl : j = L.length := by omega
      have hX3 : Hid (X = 0) := hX.trans (kcA_end L)
      clear hX
      have BH := hide hb
      clear hb hm
      go_wp2
      go_ret
      exact ⟨ret18 hX3.out.symm, BH.out⟩
def yT : Lay Bool := ⟨4, 118, 1, 1, fun b => [.bool b], false⟩
theorem kT : yT.Ok := ⟨by decide, fun x => rfl, fun x u h => by
    simp [yT] at h
    subst h
    rfl, Try.underlying118, ⟨.bool false, by kernel_rfl, rfl⟩⟩
def yN : Lay Int := ⟨3, 35, 1, 8, fun b => [.int .i64 b], 0⟩
theorem kN : yN.Ok := ⟨by decide, fun x => rfl, fun x u h => by
    simp [yN] at h
    subst h
    rfl, Try.underlying35, ⟨.int .i64 0, by kernel_rfl, rfl⟩⟩
theorem SlY.tr {w : World} {a : Option Addr} {n c : Nat} {L : List Bool} (h : SlY yT w a n c L) {j : Nat} {x : Bool} (hx : L[j]? = some x) : ∃ q o, a = some ⟨q, o, none⟩ ∧ q < w.heap.size ∧ w.cell? ⟨q, o + j, none⟩ = some (.bool x) := by
  obtain ⟨q, o, ea, hq, hl⟩ := h.place (by rintro rfl; simp at hx)
  have := hl j x hx 0 _ rfl
  exact ⟨q, o, ea, hq, by simpa [yT] using this⟩
theorem SlY.nm {w : World} {a : Option Addr} {n c : Nat} {L : List Int} (h : SlY yN w a n c L) {j : Nat} {x : Int} (hx : L[j]? = some x) : ∃ q o, a = some ⟨q, o, none⟩ ∧ q < w.heap.size ∧ w.cell? ⟨q, o + j, none⟩ = some (.int .i64 x) := by
  obtain ⟨q, o, ea, hq, hl⟩ := h.place (by rintro rfl; simp at hx)
  have := hl j x hx 0 _ rfl
  exact ⟨q, o, ea, hq, by simpa [yN] using this⟩
theorem SlY.on {α : Type} {Y : Lay α} {w w' : World} {a : Option Addr} {n c B : Nat} {l : List α} (h : SlY Y w a n c l) (hb : Below B w w') (hB : w.heap.size ≤ B) : SlY Y w' a n c l := h.bel hb hB
theorem retB18 {a b : Bool} (h : a = b) : Ending.returned (.bool a) = .returned (.bool b) := by rw [h]
theorem at9_get {D : List Bool} {j : Nat} {b : Bool} (h : D[j]? = some b) : at9 D j = b := by simp [at9, h]
set_option maxHeartbeats 1000000 in
theorem lacks_any (L : List Kl) (a : Option Addr) (c : Nat) (D : List Bool) (a2 : Option Addr) (c2 : Nat) (w : World) (h : SlY yK w a L.length c L) (h2 : SlY yT w a2 D.length c2 D) (hl : L.length ≤ D.length) :
    Calls Try.prog 59 #[.slice a L.length c, .slice a2 D.length c2] w fun e w' => e = .returned (.bool (lckK L D)) ∧ Below w.heap.size w w' := by
  have hmx := h.max
  have hcp := h.cap
  have hmx2 := h2.max
  have hcp2 := h2.cap
  unfold maxLen at hmx hmx2
  have H := hide h
  have H2 := hide h2
  have HX : Hid (lcI L D 0 = false) := by show _ = _; simp [lcI]
  clear h h2
  go_enter Try.func59, Try.ntmps59
  go_wp2
  go_loopw [9] (fun i wr => ∃ j : Nat, i = .int .i64 (j : Int) ∧ j ≤ L.length ∧ lcI L D j = false ∧ Below w.heap.size w wr) (fun i _ => L.length - (intOf i).toNat)
  case atStart => exact ⟨0, rfl, Nat.zero_le _, HX.out, Below.refl _ _⟩
  case round =>
    obtain ⟨j, rfl, hj, hX, hb⟩ := hrel
    by_cases hlt : j < L.length
    · obtain ⟨x, hx⟩ : ∃ x, L[j]? = some x := ⟨_, List.getElem?_eq_getElem hlt⟩
      obtain ⟨d, hd⟩ : ∃ d, D[j]? = some d := ⟨_, List.getElem?_eq_getElem (by omega)⟩
      obtain ⟨q, o, rfl, KX⟩ := (H.out.on hb (Nat.le_refl _)).kl hx
      obtain ⟨q2, o2, rfl, hq2, hc2⟩ := (H2.out.on hb (Nat.le_refl _)).tr hd
      have hS := hide ((lcI_succ (D := D) hx).trans (by rw [hX, Bool.false_or, at9_get hd]))
      have hE := hide (show lckK L D = false → False → True from fun _ _ => trivial)
      have hT : Hid (lcI L D (j + 1) = true → lckK L D = true) := fun h => by
        unfold lcI at h
        unfold lckK lcI
        rw [List.any_eq_true] at h ⊢
        obtain ⟨i, hi, h⟩ := h
        exact ⟨i, List.mem_range.2 (by have := List.mem_range.1 hi; omega), h⟩
      obtain ⟨_, e0, e1, e2, e3, e4, e5, e6, e7, e8, e9⟩ := KX
      have hdl : j < D.length := by omega
      have hsz := hb.size
      have BH := hide hb
      clear hb hX
      have ci := fun W => isAnswered_any x W
      have kx := hide (KB.new wr x 45)
      have bx := hide ((Below.refl wr.heap.size wr).alloc (Nat.le_refl _) (.cells x.cs.toArray 45))
      unfold Kl.val at ci
      unfold Kl.cs at kx bx
      have n3 : q2 ≠ wr.heap.size := by omega
      cases ha : ansK x with
      | false =>
        rw [ha] at ci
        have hS2 : Hid (lcI L D (j + 1) = false) := by
          have := hS.out
          rw [ha] at this
          exact this
        go_wp2_with (first
          | (go_at_call 54; refine (ci _).mono ?_; rintro e w1 ⟨rfl, b1⟩)
          | go_in)
        have B1 := hide (BH.out.trans ((bx.out.trans (b1.mono (by simp))).mono hsz))
        go_round
        case rel => exact ⟨j + 1, by go_num, by omega, hS2.out, B1.out⟩
        case measure => simp [intOf]; omega
      | true =>
        rw [ha] at ci
        cases d with
        | true =>
          have hS2 : Hid (lcI L D (j + 1) = false) := by
            have := hS.out
            rw [ha] at this
            exact this
          go_wp2_with (first
            | (go_at_call 54; refine (ci _).mono ?_; rintro e w1 ⟨rfl, b1⟩; have hc3 := ((bx.out.trans (b1.mono (by simp))).cell (p := ⟨q2, o2 + j, none⟩) hq2).trans hc2)
            | go_in)
          have B1 := hide (BH.out.trans ((bx.out.trans (b1.mono (by simp))).mono hsz))
          go_round
          case rel => exact ⟨j + 1, by go_num, by omega, hS2.out, B1.out⟩
          case measure => simp [intOf]; omega
        | false =>
          have hS2 : Hid (lckK L D = true) := by
            have := hS.out
            rw [ha] at this
            exact hT.out this
          go_wp2_with (first
            | (go_at_call 54; refine (ci _).mono ?_; rintro e w1 ⟨rfl, b1⟩; have hc3 := ((bx.out.trans (b1.mono (by simp))).cell (p := ⟨q2, o2 + j, none⟩) hq2).trans hc2)
            | go_in)
          have B1 := hide (BH.out.trans ((bx.out.trans (b1.mono (by simp))).mono hsz))
          go_ret
          exact ⟨retB18 hS2.out.symm, B1.out⟩
    · obtain rfl : j = L.length := by omega
      have hX3 : Hid (lckK L D = false) := hX
      have BH := hide hb
      clear hb
      go_wp2
      go_ret
      exact ⟨retB18 hX3.out.symm, BH.out⟩
end Go.Proofs.Yteamgkadhlbflaa
namespace Go.Proofs
open Go.Shelf Go.RowKit Go.Lib Go.Sort
def Try.sortC_ren : Go.Shelf.Ren := ⟨fun | 6 => 81 | 15 => 86 | 14 => 85 | 28 => 96 | 29 => 97 | 20 => 88 | 21 => 89 | 22 => 90 | 23 => 91 | 24 => 92 | 25 => 93 | 26 => 94 | 27 => 95 | 46 => 98 | 47 => 99 | 48 => 100 | 49 => 101 | 50 => 102 | 57 => 103 | n => n, fun | 22 => 48 | 24 => 111 | 25 => 170 | 3 => 3 | 39 => 174 | 0 => 0 | 53 => 183 | 55 => 72 | 4 => 4 | 46 => 177 | 45 => 176 | 50 => 117 | 5 => 5 | 9 => 9 | 66 => 185 | 70 => 189 | 76 => 191 | 77 => 192 | n => n, fun | n => n⟩
theorem Try.sortC : Go.Proofs.SlLaysF0.n6 Try.prog Try.sortC_ren := {
  mixed := by kernel_rfl,
  f6 := ⟨Try.f81.name, by decide, Try.func81.trans (congrArg some (by kernel_rfl))⟩,
  f14 := ⟨Try.f85.name, by decide, Try.func85.trans (congrArg some (by kernel_rfl))⟩,
  f15 := Try.func86.trans (congrArg some (by kernel_rfl)),
  f20 := ⟨Try.f88.name, by decide, Try.func88.trans (congrArg some (by kernel_rfl))⟩,
  f21 := ⟨Try.f89.name, by decide, Try.func89.trans (congrArg some (by kernel_rfl))⟩,
  f22 := ⟨Try.f90.name, by decide, Try.func90.trans (congrArg some (by kernel_rfl))⟩,
  f23 := ⟨Try.f91.name, by decide, Try.func91.trans (congrArg some (by kernel_rfl))⟩,
  f24 := ⟨Try.f92.name, by decide, Try.func92.trans (congrArg some (by kernel_rfl))⟩,
  f25 := ⟨Try.f93.name, by decide, Try.func93.trans (congrArg some (by kernel_rfl))⟩,
  f26 := ⟨Try.f94.name, by decide, Try.func94.trans (congrArg some (by kernel_rfl))⟩,
  f27 := ⟨Try.f95.name, by decide, Try.func95.trans (congrArg some (by kernel_rfl))⟩,
  f28 := Try.func96.trans (congrArg some (by kernel_rfl)),
  f29 := Try.func97.trans (congrArg some (by kernel_rfl)),
  f46 := ⟨Try.f98.name, by decide, Try.func98.trans (congrArg some (by kernel_rfl))⟩,
  f47 := Try.func99.trans (congrArg some (by kernel_rfl)),
  f48 := Try.func100.trans (congrArg some (by kernel_rfl)),
  f49 := ⟨Try.f101.name, by decide, Try.func101.trans (congrArg some (by kernel_rfl))⟩,
  f50 := ⟨Try.f102.name, by decide, Try.func102.trans (congrArg some (by kernel_rfl))⟩,
  f57 := ⟨Try.f103.name, by decide, Try.func103.trans (congrArg some (by kernel_rfl))⟩,
  t0 := Try.underlying0,
  a0 := Try.isAgg0,
  z0 := Try.sizeOf0,
  v0 := Try.zeroValue0,
  t3 := Try.underlying3,
  a3 := Try.isAgg3,
  z3 := Try.sizeOf3,
  v3 := Try.zeroValue3,
  t4 := Try.underlying4,
  a4 := Try.isAgg4,
  z4 := Try.sizeOf4,
  v4 := Try.zeroValue4,
  t5 := Try.underlying5,
  a5 := Try.isAgg5,
  z5 := Try.sizeOf5,
  v5 := Try.zeroValue5,
  t9 := Try.underlying9,
  a9 := Try.isAgg9,
  z9 := Try.sizeOf9,
  v9 := Try.zeroValue9,
  t22 := Try.underlying48,
  a22 := Try.isAgg48,
  z22 := Try.sizeOf48,
  v22 := Try.zeroValue48,
  t25 := Try.underlying170,
  a25 := Try.isAgg170,
  z25 := Try.sizeOf170,
  v25 := Try.zeroValue170,
  t39 := Try.underlying174,
  a39 := Try.isAgg174,
  z39 := Try.sizeOf174,
  v39 := Try.zeroValue174,
  t45 := Try.underlying176,
  a45 := Try.isAgg176,
  z45 := Try.sizeOf176,
  v45 := Try.zeroValue176,
  t46 := Try.underlying177,
  a46 := Try.isAgg177,
  z46 := Try.sizeOf177,
  v46 := Try.zeroValue177,
  t50 := Try.underlying117,
  a50 := Try.isAgg117,
  z50 := Try.sizeOf117,
  v50 := Try.zeroValue117,
  t53 := Try.underlying183,
  a53 := Try.isAgg183,
  z53 := Try.sizeOf183,
  v53 := Try.zeroValue183,
  t55 := Try.underlying72,
  a55 := Try.isAgg72,
  z55 := Try.sizeOf72,
  v55 := Try.zeroValue72,
  t66 := Try.underlying185,
  a66 := Try.isAgg185,
  z66 := Try.sizeOf185,
  v66 := Try.zeroValue185,
  t70 := Try.underlying189,
  a70 := Try.isAgg189,
  z70 := Try.sizeOf189,
  v70 := Try.zeroValue189,
  t76 := Try.underlying191,
  a76 := Try.isAgg191,
  z76 := Try.sizeOf191,
  v76 := Try.zeroValue191,
  t77 := Try.underlying192,
  a77 := Try.isAgg192,
  z77 := Try.sizeOf192,
  v77 := Try.zeroValue192 }
def Try.cmpI_ren : Go.Shelf.Ren := ⟨fun | 5 => 83 | 7 => 87 | n => n, fun | 22 => 3 | 3 => 3 | 4 => 4 | n => n, fun | n => n⟩
theorem Try.cmpI : Go.Proofs.SlLaysC2.n5 Try.prog Try.cmpI_ren := {
  mixed := by kernel_rfl,
  f5 := ⟨Try.f83.name, by decide, Try.func83.trans (congrArg some (by kernel_rfl))⟩,
  f7 := ⟨Try.f87.name, by decide, Try.func87.trans (congrArg some (by kernel_rfl))⟩,
  t3 := Try.underlying3,
  a3 := Try.isAgg3,
  z3 := Try.sizeOf3,
  v3 := Try.zeroValue3,
  t4 := Try.underlying4,
  a4 := Try.isAgg4,
  z4 := Try.sizeOf4,
  v4 := Try.zeroValue4,
  t22 := Try.underlying3,
  a22 := Try.isAgg3,
  z22 := Try.sizeOf3,
  v22 := Try.zeroValue3 }
end Go.Proofs
namespace Go.Proofs.Yteamgkadhlbflaa
open Go.Shelf Go.RowKit Go.Lib Go.Sort
def cE (x : Cl) : List Value := [.int .i64 x.1, .string x.2]
def cf (x y : Cl) : Int := Lib.compareInt x.1 y.1
theorem isAggCell (w : World) : (isAgg 111).run Try.prog w = .ok true w := by kernel_rfl
theorem sizeCell (w : World) : (Go.sizeOf 111).run Try.prog w = .ok 2 w := by kernel_rfl
set_option maxHeartbeats 1000000 in
theorem closure (x y : Cl) (W : World) : Calls Try.prog 82 #[.agg #[.int .i64 x.1, .string x.2], .agg #[.int .i64 y.1, .string y.2]] W fun e w' => e = .returned (.int .i64 (Lib.compareInt x.1 y.1)) ∧ ∃ q os', w' = grow (W.drewN q) os' := by
  have hcon := fun W' => AnyG.cmp_Compare_int Try.cmpI x.1 y.1 W'
  change ∀ W', Calls Try.prog 83 _ _ _ at hcon
  generalize Lib.compareInt x.1 y.1 = r at hcon ⊢
  go_enter Try.func82, Try.ntmps82
  go_wp2_with (go_at_call 83; refine (hcon _).mono ?_; rintro e w' ⟨rfl, rfl⟩)
  go_ret
  exact ⟨rfl, 0, _, by rw [alloc_eq_grow, alloc_eq_grow, grow_grow]; rfl⟩
theorem cmpLaysC (blk off size : Nat) (w : World) : CmpLays Try.prog 82 #[] cE 2 cf blk off size w :=
  fun _ _ _ _ x y => closure x y _
theorem ltC (x y : Cl) : ltOf cf x y = decide (x.1 < y.1) := by
  unfold ltOf cf Lib.compareInt
  by_cases h1 : x.1 < y.1
  · simp [h1]
  · by_cases h2 : y.1 < x.1 <;> simp [h1, h2]
theorem swoC : SWO (ltOf cf) where
  irrefl x := by rw [ltC]; simp
  trans x y z h1 h2 := by rw [ltC] at *; simp at *; omega
  ntrans x y z h1 h2 := by rw [ltC] at *; simp at *; omega
theorem flat_ccs (l : List Cl) : (flatK cE 2 l.toArray).toList = ccs l := by
  apply List.ext_getElem?
  intro t
  by_cases ht : t < l.length * 2
  · have h0 : (flatK cE 2 l.toArray).toList[t]? = some ((cE l.toArray[t / 2]!)[t % 2]!) := by simp [flatK, ht]
    rw [h0]
    have hi : t / 2 < l.length := by omega
    have hg : l[t / 2]? = some l[t / 2] := List.getElem?_eq_getElem hi
    have he : l.toArray[t / 2]! = l[t / 2] := by simp [hi]
    rw [he]
    rcases (by omega : t % 2 = 0 ∨ t % 2 = 1) with h | h
    · have := ccs_get0 l (t / 2) _ hg
      rw [show t / 2 * 2 = t by omega] at this
      rw [this, h]; rfl
    · have := ccs_get1 l (t / 2) _ hg
      rw [show t / 2 * 2 + 1 = t by omega] at this
      rw [this, h]; rfl
  · rw [List.getElem?_eq_none (by simp; omega), List.getElem?_eq_none (by rw [ccs_length]; omega)]
theorem holds_cells {B : Nat} {w : World} {g c : Nat} {l : List Cl} (h : OwnC B w (.slice (some ⟨g, 0, none⟩) l.length c) l) : HoldsK cE 2 w g 0 l.toArray := by
  intro j hj
  have hj' : j < l.length * 2 := by simpa using hj
  refine ⟨?_, by rw [Nat.zero_add]; exact h.free j⟩
  have hc : (ccs l)[j]? = some ((flatK cE 2 l.toArray)[j]!) := by
    rw [← flat_ccs]
    simp [flatK, hj']
  have := World.ownsRow.cells h (g := g) rfl _ _ hc
  rw [Addr.add_lit, Nat.zero_add] at this
  rw [Nat.zero_add]
  exact this
end Go.Proofs.Yteamgkadhlbflaa
namespace Go.Proofs.Yteamgkadhlbflaa
open Go.Shelf Go.RowKit Go.Lib Go.Sort
theorem putC_heap {w : World} {g n : Nat} {os : Array Obj} {cur : Array Value} {e : TypeId} {fr : Nat × Nat} (d : Array Value) (hb : w.heap[g]? = some (.cells cur e fr)) :
    (grow (putRow id (Sort.ahead w n) g 0 d) os).heap[g]? = some (.cells (putCells id 0 d cur) e fr) := by
  have hg : g < w.heap.size := (Array.getElem?_eq_some_iff.1 hb).1
  rw [heap_grow_old _ _ (by simpa using hg)]
  simp [putRow, mapBlock, Sort.ahead, Array.getElem?_modify, hb, onCells]
theorem putC_grown {w : World} {g n : Nat} {os : Array Obj} (d : Array Value) : w.grownBy (grow (putRow id (Sort.ahead w n) g 0 d) os) (some g) := by
  refine ⟨rfl, rfl, rfl, by simp, fun k hk hne => ?_⟩
  rw [heap_grow_old _ _ (by simpa using hk)]
  have : g ≠ k := fun e => hne (by rw [e])
  simp [putRow, mapBlock, Sort.ahead, Array.getElem?_modify, this]
theorem putC_take (cur d : Array Value) (h : d.size ≤ cur.size) : (putCells id 0 d cur).toList.take d.size = d.toList := by
  apply List.ext_getElem?
  intro j
  by_cases hj : j < d.size
  · rw [List.getElem?_take_of_lt hj, Array.getElem?_toList]
    simp [putCells, hj, show j < cur.size by omega]
  · rw [List.getElem?_take_eq_none (by omega), List.getElem?_eq_none (by simp; omega)]
theorem own_sorted {B : Nat} {w : World} {g c n : Nat} {os : Array Obj} {l l' : List Cl} (hl : l'.length = l.length) (h : OwnC B w (.slice (some ⟨g, 0, none⟩) l.length c) l) :
    OwnC B (sortWorldK cE 2 w g 0 n l'.toArray os) (.slice (some ⟨g, 0, none⟩) l'.length c) l' := by
  rcases h.2 with ⟨e1, _⟩ | ⟨g', cap, cur, e1, hbase, hb, h1, h2, h3, h4⟩
  · cases e1
  · injection e1 with e1 e2 e3
    injection e1 with e1
    injection e1 with e1
    subst e1 e3
    refine ⟨by rw [ccs_length], .inr ⟨g, c, putCells id 0 (flatK cE 2 l'.toArray) cur, rfl, hbase, putC_heap _ hb, by rw [hl]; exact h1, h2, by simp [putCells, h3], ?_⟩⟩
    have := putC_take cur (flatK cE 2 l'.toArray) (by simp; rw [h3]; exact Nat.mul_le_mul_right 2 (by omega))
    rw [flat_ccs] at this
    simpa using this
set_option maxHeartbeats 1000000 in
theorem sort_cells (B : Nat) (w : World) (g c : Nat) (l : List Cl) (h : OwnC B w (.slice (some ⟨g, 0, none⟩) l.length c) l) (hl : l.length ≤ 1024) :
    Calls Try.prog 81 #[.slice (some ⟨g, 0, none⟩) l.length c, .func (.func 82) #[] #[]] w fun e w' => e = .returned (.tuple #[]) ∧ ∃ l' : List Cl, l'.Perm l ∧ l'.Pairwise (fun p q => p.1 ≤ q.1) ∧ OwnC B w' (.slice (some ⟨g, 0, none⟩) l.length c) l' ∧ w.grownBy w' (some g) := by
  have eg : ∀ args w, (callFunc 82 args).run Try.prog w = .ok (.enter 82 args) w := enters_of Try.func82 (by kernel_rfl) rfl
  obtain ⟨a, c', e1, _, _, _, hx⟩ := h.form
  injection e1 with e1
  obtain ⟨g', e2, _, hg⟩ := hx _ e1.symm
  injection e2 with e2
  subst e2
  have hcon := AnyQ.slices_SortFunc Try.sortC 2 isAggCell sizeCell cE (fun _ => rfl) (fun x v hv => by simp [cE] at hv; rcases hv with rfl | rfl <;> rfl) cf swoC 82 #[] g 0 c l.toArray w eg (cmpLaysC g 0 _ w) (holds_cells h) hg (by simp; omega)
  change Calls Try.prog 81 _ _ _ at hcon
  rw [List.size_toArray] at hcon
  refine hcon.mono ?_
  rintro e w' ⟨rfl, d', n, os, ⟨hp1, _, hp3⟩, hs, rfl⟩
  obtain ⟨l'⟩ := d'
  have hll : l'.length = l.length := by simpa using hp1
  refine ⟨rfl, l', ?_, ?_, ?_, putC_grown _⟩
  · have e1 : (l'.toArray.extract 0 l.length).toList = l' := by simp [← hll]
    have e2 : (l.toArray.extract 0 l.length).toList = l := by simp
    have := hp3
    rw [e1, e2] at this
    exact this
  · rw [List.pairwise_iff_getElem]
    intro i j hi hj hij
    have := hs i j (Nat.zero_le _) hij (by omega)
    rw [ltC] at this
    simp [hi, hj] at this
    omega
  · have := own_sorted (n := n) (os := os) hll h
    rw [hll] at this
    exact this
theorem up_ext : ∀ {l₁ l₂ : List Cl}, l₁.Pairwise (fun p q => p.1 < q.1) → l₂.Pairwise (fun p q => p.1 < q.1) → (∀ p, p ∈ l₁ ↔ p ∈ l₂) → l₁ = l₂
  | [], [], _, _, _ => rfl
  | [], b :: s, _, _, h => by have := (h b).2 (by simp); simp at this
  | a :: r, [], _, _, h => by have := (h a).1 (by simp); simp at this
  | a :: r, b :: s, h1, h2, h => by
    obtain ⟨a1, a2⟩ := List.pairwise_cons.1 h1
    obtain ⟨b1, b2⟩ := List.pairwise_cons.1 h2
    have hab : a = b := by
      rcases List.mem_cons.1 ((h a).1 (by simp)) with e | e
      · exact e
      · rcases List.mem_cons.1 ((h b).2 (by simp)) with e' | e'
        · exact e'.symm
        · have := a1 b e'; have := b1 a e; omega
    subst hab
    rw [up_ext a2 b2 (fun p => ⟨fun hp => ?_, fun hp => ?_⟩)]
    · rcases List.mem_cons.1 ((h p).1 (by simp [hp])) with e | e
      · subst e; have := a1 _ hp; omega
      · exact e
    · rcases List.mem_cons.1 ((h p).2 (by simp [hp])) with e | e
      · subst e; have := b1 _ hp; omega
      · exact e
theorem up_of_le : ∀ {l : List Cl}, l.Pairwise (fun p q => p.1 ≤ q.1) → (l.map (·.1)).Nodup → l.Pairwise (fun p q => p.1 < q.1)
  | [], _, _ => List.Pairwise.nil
  | a :: r, h, hn => by
    obtain ⟨a1, a2⟩ := List.pairwise_cons.1 h
    rw [List.map_cons, List.nodup_cons] at hn
    refine List.pairwise_cons.2 ⟨fun q hq => ?_, up_of_le a2 hn.2⟩
    have := a1 q hq
    have hne : a.1 ≠ q.1 := fun e => hn.1 (by rw [e]; exact List.mem_map_of_mem hq)
    omega
theorem sorted_eq {L l l' : List Cl} (hL : L.Pairwise (fun p q => p.1 < q.1)) (hp : l'.Perm l) (hs : l'.Pairwise (fun p q => p.1 ≤ q.1)) (hn : (l.map (·.1)).Nodup) (hm : ∀ p, p ∈ l ↔ p ∈ L) : l' = L := by
  refine up_ext (up_of_le hs ?_) hL (fun p => (hp.mem_iff).trans (hm p))
  exact (hp.map (·.1)).nodup_iff.2 hn
end Go.Proofs.Yteamgkadhlbflaa
namespace Go.Proofs.Yteamgkadhlbflaa
open Go.Shelf Go.RowKit Go.Lib Go.Sort
theorem make_cap (w : World) {ops : Array Oper} {rest : List Oper} {o : Oper} {a : Act} {Q : Exit → Act → World → Prop} (hgd : o.guard = none) (x : Operand)
    (ho : o.op = .makeSlice 48 (.const (.int .i64 0)) x) (n : Nat) (hx : a.eval x = .int .i64 (n : Int)) (hb : n ≤ 1024)
    (h : ∀ w', OwnC w.heap.size w' (.slice (some ⟨w.heap.size, 0, none⟩) 0 n) [] → Below w.heap.size w w' → w'.heap.size = w.heap.size + 1 → wpList Try.prog ops Q rest (a.put o.dst (.slice (some ⟨w.heap.size, 0, none⟩) 0 n)) w') : wpList Try.prog ops Q (o :: rest) a w := by
  obtain ⟨i0, hi, hz0, hz1, hz2⟩ := info_parts info_cell
  have hr := run_make (P := Try.prog) w 48 111 i0 (.agg #[.int .i64 0, .string ByteArray.empty]) Try.underlying48 hi hz0 .i64 .i64 0 n (by omega) (by omega) (by rw [hz2]; omega) (by omega)
  rw [Int.toNat_natCast, hz1] at hr
  refine wpList_plain hgd fun K hK => ?_
  unfold Oper.wp execOp
  have h0 : a.eval (.const (.int .i64 0)) = .int .i64 0 := rfl
  simp only [ho, hx, h0, Sem.run_bind, Sem.run_pure, hr, Result.andThen_ok]
  refine hK _ _ (h _ ?_ ((Below.refl _ _).alloc (Nat.le_refl _) _) (by simp))
  exact ⟨rfl, .inr ⟨w.heap.size, n, _, rfl, Nat.le_refl _, (MapKept.heap_alloc w _).1, Nat.zero_le _, by unfold maxLen; omega, size_madeCells _ _, by simp [ccs]⟩⟩
structure Coll (L l : List Cl) (left : Lit → Bool) : Prop where
  nd : (l.map (·.1)).Nodup
  mem : ∀ p ∈ l, p ∈ L ∧ left (.int .i64 p.1) = false
  all : ∀ p ∈ L, left (.int .i64 p.1) = false → p ∈ l
theorem Coll.start {L : List Cl} (h : Ok L) : Coll L [] (Maps.has (mD L)) :=
  ⟨by simp, by simp, fun p hp hl => by rw [mD_has, gv_of_mem h.up hp] at hl; cases hl⟩
theorem Coll.step {L l : List Cl} {left : Lit → Bool} (h : Coll L l left) (hL : Ok L) {c : Cl} (hc : c ∈ L) (hl : left (.int .i64 c.1) = true) : Coll L (l ++ [c]) (fun z => left z && !z.sameKey (.int .i64 c.1)) := by
  refine ⟨?_, ?_, ?_⟩
  · rw [List.map_append, List.nodup_append]
    refine ⟨h.nd, by simp, ?_⟩
    intro a ha b hb e
    simp at hb
    obtain ⟨p, hp, rfl⟩ := List.mem_map.1 ha
    have := (h.mem p hp).2
    rw [e, hb, hl] at this
    cases this
  · intro p hp
    rcases List.mem_append.1 hp with hp | hp
    · obtain ⟨h1, h2⟩ := h.mem p hp
      exact ⟨h1, by simp [h2]⟩
    · simp at hp
      subst hp
      exact ⟨hc, by simp [Lit.sameKey]⟩
  · intro p hp hq
    simp only [Bool.and_eq_false_iff, Bool.not_eq_false'] at hq
    rcases hq with hq | hq
    · exact List.mem_append_left _ (h.all p hp hq)
    · simp [Lit.sameKey] at hq
      have e1 := gv_of_mem hL.up hp
      have e2 := gv_of_mem hL.up hc
      rw [hq, e2] at e1
      have : p = c := Prod.ext hq (Option.some.inj e1).symm
      rw [this]
      simp
theorem entry_mem {L : List Cl} {x : Int} {c : Cl} (hat : ∀ zd, (mD L).atKey (.int .i64 x) zd = cD c) : c.1 = x ∧ c ∈ L := by
  have h1 := hat .nil
  rw [mD_at] at h1
  cases hg : gv L x with
  | none => rw [hg] at h1; cases h1
  | some v =>
    rw [hg] at h1
    have := cD_inj h1
    rw [← this]
    exact ⟨rfl, gv_mem hg⟩
theorem key_int {x : Int} {kl : Lit} (h : keyOf Try.prog 3 (.int .i64 x) = some kl) : kl = .int .i64 x := by
  obtain ⟨y, e, hk, _⟩ := Maps.keyOf_int_inv Try.underlying3 h
  cases e
  exact hk
set_option maxHeartbeats 1000000 in
theorem cells_any (b : Nat) (m : Option Nat) (L : List Cl) (w : World) (h : Led w b m L) :
    Calls Try.prog 79 #[.pointer (some ⟨b, 0, none⟩)] w fun e w' => ∃ v, e = .returned v ∧ OwnC w.heap.size w' v L ∧ Below w.heap.size w w' := by
  have hh := hide h
  have hll := h.ok.len_le
  have hok := hide h.ok
  have hlen := len_any w m L.length L h.nn (fun j e => (h.sm j e).2)
  obtain ⟨ok, lt, c0, c1, f0, f1, nn, sm⟩ := h
  clear ok c1 f0 f1
  cases m with
  | some j =>
    obtain ⟨hjb, hown⟩ := sm j rfl
    have hjl := hown.lt
    clear nn sm
    go_enter Try.func79, Try.ntmps79
    go_wp2_with (first
      | (at_make; go_must (refine make_cap _ rfl (.tmp 12) rfl L.length rfl hll ?_; intro w1 o1 b1 s1; have c01 := (b1.cell (p := ⟨b, 0, none⟩) lt).trans c0; have hown1 := Own.block hown (b1.block j hjl)))
      | (at_range; go_must (refine wpList_range_own _ rfl _ 159 rfl 3 111 keyed Try.underlying159 cR j L.length (mD L) rfl hown1 ?_; intro w2 hrg0 hg0 hs0; go_frame))
      | go_in)
    rw [mD_size] at hrg0
    have b2 : Below w.heap.size w w2 := b1.grown hg0 (by omega) (fun k e => by cases e)
    have o2 : OwnC w.heap.size w2 (.slice (some ⟨w.heap.size, 0, none⟩) 0 L.length) [] := World.ownsRow.kept o1 hg0 (.inr (by simp [Value.ownBlock]))
    rw [s1] at hrg0 hs0 ⊢
    clear hg0 hown1 c01 o1 b1 s1 hs0
    go_wp2
    go_loopw [3] (fun v wr => ∃ (left : Lit → Bool) (cnt : Nat) (l : List Cl), wr.ranges Try.prog 3 cR j (w.heap.size + 1) L.length (mD L) left cnt ∧ l.length + cnt ≤ L.length ∧ OwnC w.heap.size wr v l ∧ v ≠ .slice none 0 0 ∧ Coll L l left ∧ Below w.heap.size w wr) (fun _ wr => wr.rangeLeft j (w.heap.size + 1))
    case atStart => exact ⟨_, _, [], hrg0, by simp, o2, by simp, Coll.start hok.out, b2⟩
    case round =>
      obtain ⟨left, cnt, l, hrg, hcs, ho, hnn, hC, hbl⟩ := hrel
      have hkk := hide hC
      clear hC
      go_wp2_with (first
        | (at_next; refine wpList_next_ranges _ rfl _ rfl 3 keyed cR (Value.int .i64) cV (fun key kl hk => by obtain ⟨x, rfl, _⟩ := Maps.keyOf_int_inv Try.underlying3 hk; exact ⟨x, rfl⟩) (fun v y hv => by obtain ⟨p, rfl, _⟩ := cR_inv hv; exact ⟨p, rfl⟩) j (w.heap.size + 1) L.length _ _ _ rfl hrg ?_ ?_)
        | go_in)
      · intro hc0 hl0
        obtain ⟨a, c, hv, hle, hmx, hnil, hsome⟩ := ho.form
        cases a with
        | none =>
          obtain ⟨_, rfl⟩ := hnil rfl
          rw [hv] at hnn
          have : l.length = 0 := by omega
          rw [this] at hnn
          exact absurd rfl hnn
        | some z =>
          obtain ⟨g, rfl, hg1, hg2⟩ := hsome z rfl
          subst hv
          have hcs' : l.length ≤ 1024 := by omega
          have cs := sort_cells w.heap.size wr g c l ho hcs'
          go_wp2_with (go_at_call 81; refine cs.mono ?_; rintro e w3 ⟨rfl, l', hp, hs, o3, hg3⟩)
          go_ret
          have hCC := hkk.out
          have e := sorted_eq hok.out.up hp hs hCC.nd (fun p => ⟨fun hp => (hCC.mem p hp).1, fun hp => hCC.all p hp (hl0 _)⟩)
          subst e
          exact ⟨_, rfl, o3, hbl.grown hg3 hbl.size (fun k e => by cases e; exact hg1)⟩
      · intro x cs cv kl yd yp w1 cnt1 hkey hlx hv hat hrg1 hlt hg1 hs1 hen
        obtain rfl := key_int hkey
        rw [cR_mk] at hv
        cases hv
        obtain ⟨e1, e2⟩ := entry_mem hat
        dsimp only at e1
        subst e1
        have ho1 : OwnC w.heap.size w1 u3 l := World.ownsRow.kept ho hg1 (.inr (Ne.symm (row_ne_iter ho hrg)))
        have hb1 : RowKit.Below w.heap.size w w1 := hbl.grown hg1 hbl.size (fun k e => by cases e; exact Nat.le_succ _)
        have hsz := hb1.size
        have hC1 := hide (hkk.out.step hok.out e2 hlx)
        have hro := hide hrg1
        have hLe := hrg.left_eq
        dsimp only [cV] at hen
        clear hs1 hkey hat hkk hrg hlx hg1 hrg1
        go_wp2_with (at_builtin; go_must (refine app_cell _ rfl (.tmp 23) (.tmp 25) rfl w.heap.size l u3 rfl ⟨w1.heap.size + 1, 0, none⟩ rfl cs cv ?zc ?zd ((ho1.alloc _).alloc _) (by simp; omega) (by omega) ?zk))
        case zk =>
          intro v' w3 o3 hnn3 hg3
          have hoo := (ho1.alloc (.cells #[.int .i64 cs, .string cv] 111)).alloc (.cells #[.int .i64 cs, .string cv] 111)
          have hrr := (hro.out.alloc (.cells #[.int .i64 cs, .string cv] 111)).alloc (.cells #[.int .i64 cs, .string cv] 111)
          have hrg3 := hrr.kept hg3 (row_ne_low hoo hjl) (row_ne_iter hoo hrr)
          have hb3 := ((hb1.alloc hsz (.cells #[.int .i64 cs, .string cv] 111)).alloc (by simp; omega) (.cells #[.int .i64 cs, .string cv] 111)).grown hg3 (by simp; omega) (fun k hk => (World.ownsRow.lt hoo k hk).1)
          have hh3 := hide hrg3
          have hbb3 := hide hb3
          clear hoo hrr hrg3 hb3 hg3
          go_wp2
          go_roundw
          case rel => exact ⟨_, cnt1, l ++ [(cs, cv)], hh3.out, by simp; omega, o3, hnn3, hC1.out, hbb3.out⟩
          case measure => rw [hh3.out.left_eq, hLe]; exact hlt
  | none =>
    obtain rfl := nn rfl
    clear nn sm
    have hrg := fun W => run_range_nilMap (P := Try.prog) W 159 3 111 Try.underlying159
    go_enter Try.func79, Try.ntmps79
    go_wp2_with (first
      | (at_make; go_must (refine make_cap _ rfl (.tmp 12) rfl 0 rfl (by omega) ?_; intro w1 o1 b1 s1; have c01 := (b1.cell (p := ⟨b, 0, none⟩) lt).trans c0))
      | go_in)
    have hnx : ∀ ty, (Instr.next (.pointer (some ⟨w1.heap.size, 0, none⟩)) false ty).run Try.prog (w1.alloc (.mapIter none 0 #[] 0)) = _ := fun ty => run_next_nilMap _ ty 0 0 #[]
    rw [s1] at hnx
    have o2 := o1.alloc (.mapIter none 0 #[] 0)
    have b2 := b1.alloc b1.size (.mapIter none 0 #[] 0)
    clear o1 b1 s1 c01
    go_loopw [3] (fun v wr => v = .slice (some ⟨w.heap.size, 0, none⟩) 0 0 ∧ wr = w1.alloc (.mapIter none 0 #[] 0)) (fun _ _ => 0)
    case atStart => exact ⟨rfl, rfl⟩
    case round =>
      obtain ⟨rfl, rfl⟩ := hrel
      have cs := sort_cells w.heap.size _ w.heap.size 0 [] o2 (by simp)
      rw [List.length_nil] at cs
      go_wp2_with (go_at_call 81; refine cs.mono ?_; rintro e w3 ⟨rfl, l', hp, hs, o3, hg3⟩)
      go_ret
      obtain rfl := hp.eq_nil
      exact ⟨_, rfl, o3, b2.grown hg3 b2.size (fun k e => by cases e; exact Nat.le_refl _)⟩
end Go.Proofs.Yteamgkadhlbflaa
namespace Go.Proofs.Yteamgkadhlbflaa
open Go.RowKit
end Go.Proofs.Yteamgkadhlbflaa
namespace Go.Proofs.Yteamgkadhlbflaa
open Go.RowKit
theorem ins_last {c : Cl} : ∀ {L : List Cl}, (∀ p ∈ L, p.1 < c.1) → ins c L = L ++ [c]
  | [], _ => rfl
  | y :: r, h => by
    have h1 := h y (by simp)
    have h2 : ¬ c.1 < y.1 := by omega
    simp only [ins, h2, if_false, List.cons_append]
    rw [ins_last (fun p hp => h p (by simp [hp]))]
theorem bh_le_iff {L : List Cl} {s : Int} (hs : 0 ≤ s) : bh L ≤ s ↔ ∀ p ∈ L, p.1 < s := by
  induction L with
  | nil => simp [bh, hs]
  | cons y r ih =>
    have : bh (y :: r) ≤ s ↔ y.1 + 1 ≤ s ∧ bh r ≤ s := by simp only [bh]; omega
    rw [this, ih]
    simp
    omega
def fitC (L : List Cl) (c : Cl) : Prop := (0 ≤ c.1 ∧ c.1 < 1024) ∧ c.2.size ≤ 64 ∧ bh L ≤ c.1
theorem ok_snoc {L : List Cl} (h : Ok L) (c : Cl) : Ok (L ++ [c]) ↔ fitC L c := by
  constructor
  · intro ⟨hu, hm⟩
    have := hm c (by simp)
    refine ⟨⟨this.1, this.2.1⟩, this.2.2, (bh_le_iff this.1).2 (fun p hp => ?_)⟩
    exact (List.pairwise_append.1 hu).2.2 p hp c (by simp)
  · intro ⟨h1, h2, h3⟩
    refine ⟨List.pairwise_append.2 ⟨h.up, by simp, fun p hp q hq => ?_⟩, fun p hp => ?_⟩
    · simp at hq
      subst hq
      exact (bh_le_iff h1.1).1 h3 p hp
    · rcases List.mem_append.1 hp with hp | hp
      · exact h.may p hp
      · simp at hp
        subst hp
        exact ⟨h1.1, h1.2, h2⟩
end Go.Proofs.Yteamgkadhlbflaa
namespace Go.Proofs.Yteamgkadhlbflaa
open Go.RowKit Go.Maps
def pl (L : List Cl) (P : List Opn) : List Cl := P.foldl (fun L o => dn L o.k o.s o.v) L
def gs (L : List Cl) : Nat → Int
  | 0 => -1
  | k + 1 => if (gv L k).isSome then (k : Int) else gs L k
end Go.Proofs.Yteamgkadhlbflaa
namespace Go.Proofs.Yteamgkadhlbflaa
open Go.RowKit
theorem len_dn (L : List Cl) (k s : Int) (v : ByteArray) : (dn L k s v).length = L.length + (if (wd L k s v).1 = 1 then 1 else 0) := by
  unfold dn
  split
  · rw [len_ins]
  · rfl
end Go.Proofs.Yteamgkadhlbflaa
namespace Go.Proofs.Yteamgkadhlbflaa
open Go.RowKit
end Go.Proofs.Yteamgkadhlbflaa
namespace Go.Proofs.Yteamgkadhlbflaa
open Go.RowKit Go.Maps
theorem size_zero {a : ByteArray} (h : a.size = 0) : a = ByteArray.empty := by
  obtain ⟨⟨x⟩⟩ := a
  cases x with
  | nil => rfl
  | cons y r => simp [ByteArray.size] at h
set_option maxHeartbeats 1000000 in
theorem refcheck (k s : Int) (v : ByteArray) (hf : (⟨k, s, v⟩ : Opn).fits) (w : World) : Calls Try.prog 17 #[.agg #[.int .i64 k, .int .i64 s, .string v]] w fun e w' => e = .returned (.int .i64 (ck k s v)) ∧ Below w.heap.size w w' := by
  have hv := hf.vl
  dsimp only at hv
  have hsz : (v.size : Int) ≤ 9223372036854775807 := by unfold maxLen at hv; omega
  clear hf hv
  by_cases k1 : k = 1
  · subst k1
    by_cases hs : s < 0 ∨ 1024 ≤ s
    · have e1 : ck 1 s v = 41 := by simp [ck, hs]
      rw [e1]
      clear e1
      go_enter Try.func17, Try.ntmps17
      go_wp2
      all_goals
        go_ret
        exact ⟨by first | rfl | (exfalso; omega) | (exfalso; simp_all), (Below.refl _ w).alloc (Nat.le_refl _) _⟩
    · have e1 : ck 1 s v = if 64 < v.size then 42 else 0 := by simp [ck, hs]
      rw [e1]
      clear e1
      by_cases hv : 64 < v.size
      · rw [if_pos hv]
        have hv' : ((64 : Int) < v.size) := by omega
        go_enter Try.func17, Try.ntmps17
        go_wp2
        all_goals
          go_ret
          exact ⟨by first | rfl | (exfalso; omega) | (exfalso; simp_all), (Below.refl _ w).alloc (Nat.le_refl _) _⟩
      · rw [if_neg hv]
        have hv' : ¬ ((64 : Int) < v.size) := by omega
        go_enter Try.func17, Try.ntmps17
        go_wp2
        all_goals
          go_ret
          exact ⟨by first | rfl | (exfalso; omega) | (exfalso; simp_all), (Below.refl _ w).alloc (Nat.le_refl _) _⟩
  by_cases k2 : k = 2
  · subst k2
    by_cases hs : s ≠ 0
    · have e1 : ck 2 s v = 41 := by simp [ck, hs]
      rw [e1]
      clear e1
      have hb : (s != 0) = true := by simp [hs]
      go_enter Try.func17, Try.ntmps17
      go_wp2
      all_goals
        go_ret
        exact ⟨by first | rfl | (exfalso; omega) | (exfalso; simp_all), (Below.refl _ w).alloc (Nat.le_refl _) _⟩
    · have e1 : ck 2 s v = if 64 < v.size then 42 else 0 := by simp [ck, hs]
      rw [e1]
      clear e1
      have hs : s = 0 := by omega
      subst hs
      by_cases hv : 64 < v.size
      · rw [if_pos hv]
        have hv' : ((64 : Int) < v.size) := by omega
        go_enter Try.func17, Try.ntmps17
        go_wp2
        all_goals
          go_ret
          exact ⟨by first | rfl | (exfalso; omega) | (exfalso; simp_all), (Below.refl _ w).alloc (Nat.le_refl _) _⟩
      · rw [if_neg hv]
        have hv' : ¬ ((64 : Int) < v.size) := by omega
        go_enter Try.func17, Try.ntmps17
        go_wp2
        all_goals
          go_ret
          exact ⟨by first | rfl | (exfalso; omega) | (exfalso; simp_all), (Below.refl _ w).alloc (Nat.le_refl _) _⟩
  by_cases k3 : k = 3
  · subst k3
    by_cases hs : s < 0 ∨ 1024 ≤ s
    · have e1 : ck 3 s v = 41 := by simp [ck, hs]
      rw [e1]
      clear e1
      go_enter Try.func17, Try.ntmps17
      go_wp2
      all_goals
        go_ret
        exact ⟨by first | rfl | (exfalso; omega) | (exfalso; simp_all), (Below.refl _ w).alloc (Nat.le_refl _) _⟩
    · have e1 : ck 3 s v = if 0 < v.size then 42 else 0 := by simp [ck, hs]
      rw [e1]
      clear e1
      by_cases hv : 0 < v.size
      · rw [if_pos hv]
        have hv' : ¬ (v.toList = []) := fun e => by
          rw [ByteArray.toList_eq] at e
          have : v.size = 0 := by simp [ByteArray.size, ← Array.length_toList, e]
          omega
        go_enter Try.func17, Try.ntmps17
        go_wp2
        all_goals
          go_ret
          exact ⟨by first | rfl | (exfalso; omega) | (exfalso; simp_all), (Below.refl _ w).alloc (Nat.le_refl _) _⟩
      · rw [if_neg hv]
        have hv' : v = ByteArray.empty := size_zero (by omega)
        subst hv'
        go_enter Try.func17, Try.ntmps17
        go_wp2
        all_goals
          go_ret
          exact ⟨by first | rfl | (exfalso; omega) | (exfalso; simp_all), (Below.refl _ w).alloc (Nat.le_refl _) _⟩
  by_cases k4 : k = 4
  · subst k4
    by_cases hs : s ≠ 0
    · have e1 : ck 4 s v = 41 := by simp [ck, hs]
      rw [e1]
      clear e1
      have hb : (s != 0) = true := by simp [hs]
      go_enter Try.func17, Try.ntmps17
      go_wp2
      all_goals
        go_ret
        exact ⟨by first | rfl | (exfalso; omega) | (exfalso; simp_all), (Below.refl _ w).alloc (Nat.le_refl _) _⟩
    · have e1 : ck 4 s v = if 0 < v.size then 42 else 0 := by simp [ck, hs]
      rw [e1]
      clear e1
      have hs : s = 0 := by omega
      subst hs
      by_cases hv : 0 < v.size
      · rw [if_pos hv]
        have hv' : ¬ (v.toList = []) := fun e => by
          rw [ByteArray.toList_eq] at e
          have : v.size = 0 := by simp [ByteArray.size, ← Array.length_toList, e]
          omega
        go_enter Try.func17, Try.ntmps17
        go_wp2
        all_goals
          go_ret
          exact ⟨by first | rfl | (exfalso; omega) | (exfalso; simp_all), (Below.refl _ w).alloc (Nat.le_refl _) _⟩
      · rw [if_neg hv]
        have hv' : v = ByteArray.empty := size_zero (by omega)
        subst hv'
        go_enter Try.func17, Try.ntmps17
        go_wp2
        all_goals
          go_ret
          exact ⟨by first | rfl | (exfalso; omega) | (exfalso; simp_all), (Below.refl _ w).alloc (Nat.le_refl _) _⟩
  have e1 : ck k s v = 40 := by simp [ck, k1, k2, k3, k4]
  rw [e1]
  have b1 : (k == 1) = false := by simp [k1]
  have b2 : (k == 2) = false := by simp [k2]
  have b3 : (k == 3) = false := by simp [k3]
  have b4 : (k == 4) = false := by simp [k4]
  go_enter Try.func17, Try.ntmps17
  go_wp2
  all_goals
    go_ret
    exact ⟨rfl, (Below.refl _ w).alloc (Nat.le_refl _) _⟩
end Go.Proofs.Yteamgkadhlbflaa
namespace Go.Proofs.Yteamgkadhlbflaa
open Go.RowKit Go.Maps
theorem made_cells (n : Nat) : (madeCells (Value.agg #[.int .i64 0, .string ByteArray.empty]).cells (n * 2)).toList = ccs (List.replicate n (0, ByteArray.empty)) := by
  apply List.ext_getElem?
  intro j
  by_cases hj : j < n * 2
  · have h2 : j % 2 = 0 ∨ j % 2 = 1 := by omega
    have hg : (List.replicate n ((0 : Int), ByteArray.empty))[j / 2]? = some (0, ByteArray.empty) := by
      rw [List.getElem?_replicate, if_pos (by omega)]
    rcases h2 with h | h
    · have e : j = j / 2 * 2 := by omega
      have h0 := ccs_get0 _ _ _ hg
      rw [← e] at h0
      rw [h0]
      simp [madeCells, hj, h, Value.cells]
    · have e : j = j / 2 * 2 + 1 := by omega
      have h0 := ccs_get1 _ _ _ hg
      rw [← e] at h0
      rw [h0]
      simp [madeCells, hj, h, Value.cells]
  · have e : (ccs (List.replicate n ((0 : Int), ByteArray.empty)))[j]? = none := List.getElem?_eq_none (by rw [ccs_length, List.length_replicate]; omega)
    rw [e]
    simp [madeCells, hj]
theorem make_cells (w : World) {ops : Array Oper} {rest : List Oper} {o : Oper} {a : Act} {Q : Exit → Act → World → Prop} (hgd : o.guard = none) (x : Operand)
    (ho : o.op = .makeSlice 48 x x) (n : Nat) (hx : a.eval x = .int .i64 (n : Int)) (hb : n * 24 ≤ 140737488355328)
    (h : ∀ w', OwnC w.heap.size w' (.slice (some ⟨w.heap.size, 0, none⟩) n n) (List.replicate n (0, ByteArray.empty)) → Below w.heap.size w w' → w'.heap.size = w.heap.size + 1 → wpList Try.prog ops Q rest (a.put o.dst (.slice (some ⟨w.heap.size, 0, none⟩) n n)) w') : wpList Try.prog ops Q (o :: rest) a w := by
  obtain ⟨i0, hi, hz0, hz1, hz2⟩ := info_parts info_cell
  have hr := run_make (P := Try.prog) w 48 111 i0 (.agg #[.int .i64 0, .string ByteArray.empty]) Try.underlying48 hi hz0 .i64 .i64 n n (by omega) (Int.le_refl _) (by rw [hz2]; omega) (by omega)
  rw [Int.toNat_natCast, hz1] at hr
  refine wpList_plain hgd fun K hK => ?_
  unfold Oper.wp execOp
  simp only [ho, hx, Sem.run_bind, Sem.run_pure, hr, Result.andThen_ok]
  refine hK _ _ (h _ ?_ ((Below.refl _ _).alloc (Nat.le_refl _) _) (by simp))
  unfold OwnC
  rw [List.length_replicate, ← made_cells]
  exact World.ownsRow_lit w _ n (Nat.le_refl _) (by unfold maxLen; omega) (size_madeCells _ _)
theorem run_copy_two {P : Program} (w : World) (dT sT ty elem : TypeId) (g dLen dCap : Nat) (a : Addr) (sLen sCap : Nat) (cur : Array Value) (t : TypeId) (cs : List Value)
    (hu : P.underlying dT = some (.slice elem)) (hs : (P.info? elem).map (·.size) = some 2)
    (hg : w.heap[g]? = some (.cells cur t (0, 0))) (hn : cs.length = Nat.min sLen dLen * 2)
    (hsrc : ∀ j v, cs[j]? = some v → w.cell? (a.add j) = some v) (hfit : cs.length ≤ cur.size) (h1 : ∀ v ∈ cs, v.oneCell' = true) :
    (Builtin.copy_ #[dT, sT] ty #[.slice (some ⟨g, 0, none⟩) dLen dCap, .slice (some a) sLen sCap]).run P w =
      .ok (goInt (Nat.min sLen dLen)) (w.setRow g (cs ++ cur.toList.drop cs.length).toArray) := by
  have hl := run_loadCells_list (P := P) w a cs hsrc
  have hst := run_storeCells_at P g 0 t cs 0 cur w hg (by simpa using hfit) h1
  cases hq : P.info? elem with
  | none => simp [hq] at hs
  | some i =>
    have hi : i.size = 2 := by simpa [hq] using hs
    rw [hn] at hl
    simp [Builtin.copy_, run_underlying hu, Builtin.lenOf, Builtin.firstCells, sizeOf, typeInfo, hq, hi, hl, hst]
theorem run_copy_zero {P : Program} (w : World) (dT sT ty elem : TypeId) (g : Nat) (a : Option Addr) (c : Nat)
    (hu : P.underlying dT = some (.slice elem)) (hs : (P.info? elem).map (·.size) = some 2) :
    (Builtin.copy_ #[dT, sT] ty #[.slice (some ⟨g, 0, none⟩) 0 0, .slice a 0 c]).run P w = .ok (goInt 0) w := by
  cases hq : P.info? elem with
  | none => simp [hq] at hs
  | some i =>
    have hi : i.size = 2 := by simpa [hq] using hs
    cases a <;> simp [Builtin.copy_, run_underlying hu, Builtin.lenOf, Builtin.firstCells, sizeOf, typeInfo, hq, hi, loadCells, loadCellsFrom, storeCells]
theorem copy_cells (w : World) {ops : Array Oper} {rest : List Oper} {o : Oper} {a : Act} {Q : Exit → Act → World → Prop} (hgd : o.guard = none) (d s : Operand)
    (ho : o.op = .call { callee := .builtin .copy, args := #[d, s], argTypes := #[48, 48] }) (B g c : Nat) (ad : Option Addr) (M D : List Cl)
    (hd : a.eval d = .slice (some ⟨g, 0, none⟩) D.length D.length) (hs : a.eval s = .slice ad D.length c) (hM : OwnC B w (.slice (some ⟨g, 0, none⟩) D.length D.length) M) (hD : SlC w (.slice ad D.length c) D ad c)
    (h : ∀ w', OwnC B w' (.slice (some ⟨g, 0, none⟩) D.length D.length) D → Upd (· = g) w w' → wpList Try.prog ops Q rest (a.put o.dst (goInt D.length)) w') : wpList Try.prog ops Q (o :: rest) a w := by
  obtain ⟨i0, hi, hz0, hz1, hz2⟩ := info_parts info_cell
  obtain ⟨n, hn⟩ : ∃ n, D.length = n := ⟨_, rfl⟩
  by_cases hD0 : D = []
  · subst hD0
    have hr := run_copy_zero (P := Try.prog) w 48 48 o.type 111 g ad c Try.underlying48 (by rw [hi]; simp [hz1])
    have hM0 : M = [] := by
      obtain ⟨a', c', e, _⟩ := hM.form
      injection e with e1 e2 e3
      exact List.eq_nil_of_length_eq_zero e2.symm
    subst hM0
    refine wpList_plain hgd fun K hK => ?_
    unfold Oper.wp execOp
    simp only [List.length_nil] at hd hs hr
    simp only [ho, resolve, invoke, builtin, Sem.run_bind, Sem.run_pure, Result.andThen_ok, List.map_toArray, List.map_cons, List.map_nil, hd, hs, hr]
    exact hK _ _ (h _ hM (Upd.refl _ _))
  · obtain ⟨q, p, rfl, hq, hl⟩ : ∃ q p, ad = some ⟨q, p, none⟩ ∧ q < w.heap.size ∧ LieC w q p D := by
      cases ad with
      | none => exact absurd (hD.nil rfl).1 hD0
      | some x =>
        rcases hD.at_ x rfl with h1 | ⟨q, p, rfl, h2, h3⟩
        · exact absurd h1.1 hD0
        · exact ⟨q, p, rfl, h2, h3⟩
    rcases hM.2 with ⟨e, _⟩ | ⟨g', cap, cur, e, hB, hg, h1, h2, h3, h4⟩
    · cases e
    · simp only [Value.slice.injEq, Option.some.injEq, Addr.mk.injEq, and_true, true_and] at e
      obtain ⟨rfl, hMn, rfl⟩ := e
      have hcs : (ccs D).length = D.length * 2 := ccs_length D
      have hr := run_copy_two (P := Try.prog) w 48 48 o.type 111 g D.length D.length ⟨q, p, none⟩ D.length c cur 111 (ccs D) Try.underlying48 (by rw [hi]; simp [hz1]) hg (by rw [hcs]; simp [Nat.min]) (fun j u hu => by rw [Addr.add_lit]; exact ccs_at D w q p hl j u hu) (by rw [hcs, h3]; exact Nat.le_refl _) (ccs_one D)
      have hmin : Nat.min D.length D.length = D.length := Nat.min_self _
      rw [hmin] at hr
      refine wpList_plain hgd fun K hK => ?_
      unfold Oper.wp execOp
      simp only [ho, resolve, invoke, builtin, Sem.run_bind, Sem.run_pure, Result.andThen_ok, List.map_toArray, List.map_cons, List.map_nil, hd, hs, hr]
      have hgl : g < w.heap.size := (Array.getElem?_eq_some_iff.1 hg).1
      have hbel := below_setRow (B := g) (Below.refl g w) (Nat.le_refl g)
      refine hK _ _ (h _ ?_ ?_)
      · have hdr : cur.toList.drop (ccs D).length = [] := List.drop_eq_nil_of_le (by rw [Array.length_toList, hcs, h3]; exact Nat.le_refl _)
        rw [hdr, List.append_nil]
        refine ⟨by rw [hcs], .inr ⟨g, D.length, (ccs D).toArray, rfl, hB, setRow_heap w g _ _ _ _ hg, Nat.le_refl _, h2, by simp [hcs], ?_⟩⟩
        rw [← hcs]
        simp
      · exact ⟨rfl, rfl, rfl, by simp, fun k hk hne => setRow_other w g k _ hne⟩
set_option maxHeartbeats 400000 in
theorem each_any (D : List Cl) (a : Option Addr) (c : Nat) (w : World) (h : SlC w (.slice a D.length c) D a c) (hb : D.length * 24 ≤ 140737488355328) :
    Calls Try.prog 80 #[.slice a D.length c] w fun e w' => ∃ g k, e = .returned (.func (.func 84) #[] #[.pointer (some ⟨k, 0, none⟩)]) ∧ w.heap.size ≤ g ∧ w.heap.size ≤ k ∧ k < w'.heap.size ∧ w'.cell? ⟨k, 0, none⟩ = some (.slice (some ⟨g, 0, none⟩) D.length D.length) ∧ OwnC w.heap.size w' (.slice (some ⟨g, 0, none⟩) D.length D.length) D ∧ Below w.heap.size w w' := by
  have HL := hide h
  clear h
  go_enter Try.func80, Try.ntmps80
  go_wp2_with (at_make; go_must (refine make_cells _ rfl (.tmp 5) rfl D.length rfl hb ?zk))
  intro w1 o1 b1 s1
  have HO := hide o1
  have HS : Hid (SlC (w1.alloc (Obj.cells #[Value.slice (some ⟨w.heap.size, 0, none⟩) D.length D.length] 48)) (.slice a D.length c) D a c) := hide (HL.out.upd (S := fun _ => False) (Upd.of_below (b1.trans ((Below.refl _ _).alloc (by omega) _))) (fun _ _ _ h => h))
  clear o1
  go_wp2_with (refine copy_cells _ rfl (.tmp 7) (.tmp 8) rfl w.heap.size w.heap.size c a _ D rfl rfl (HO.out.alloc _) HS.out ?_)
  intro w2 o2 u2
  have hc : w2.cell? ⟨w.heap.size + 1, 0, none⟩ = some (.slice (some ⟨w.heap.size, 0, none⟩) D.length D.length) := by
    rw [u2.cell (p := ⟨w.heap.size + 1, 0, none⟩) (by simp [s1]) (by simp)]
    rw [← s1]
    simp
  have hsz := u2.size
  rw [World.size_alloc] at hsz
  have hbel : Below w.heap.size w w2 := (b1.trans ((Below.refl _ _).alloc (by omega) _)).trans (u2.below (by simp; omega) (fun k hk => by omega))
  go_wp2
  go_ret
  exact ⟨w.heap.size, w.heap.size + 1, rfl, Nat.le_refl _, by omega, by omega, hc, o2, hbel⟩
end Go.Proofs.Yteamgkadhlbflaa
