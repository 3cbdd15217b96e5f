import Derived.Test.YtolnkoneilipeaaGLo
import Derived.Test.YtolnkoneilipeaaGYa
import Derived.Test.YtolnkoneilipeaaCz
namespace Go.Proofs.Ytolnkoneilipeaa
open Go.RowKit
open Classical
set_option linter.unusedVariables false

/-- A row of the client table. -/
structure Rw where
  c : Int
  n : Int
  p : Int
  d : Bool
  r : Rs
def Rw.cs (x : Rw) : List Value := [.int .i64 x.c, .int .i64 x.n, .int .i64 x.p, .bool x.d, .int .i64 x.r.1, .int .i64 x.r.2.1, .string x.r.2.2]
def Rw.val (x : Rw) : Value := .agg #[.int .i64 x.c, .int .i64 x.n, .int .i64 x.p, .bool x.d, .int .i64 x.r.1, .int .i64 x.r.2.1, .string x.r.2.2]
def zR : Rs := (0, 0, ByteArray.empty)
/-- Which error an entry has, by itself. -/
def ckR (c n : Int) : Int := if c < 0 ∨ 16 ≤ c then 62 else if n < 1 then 63 else 0
def ckE (e : En) : Int := if e.c < 0 ∨ 16 ≤ e.c then 62 else if e.n < 1 then 63 else ck e.o.k e.o.s e.o.v
/-- A client's greatest number. -/
def gm : List En → Int → Int
  | [], _ => 0
  | e :: r, c => if e.c = c then max e.n (gm r c) else gm r c
theorem gm_nonneg : ∀ (L : List En) (c : Int), 0 ≤ gm L c
  | [], c => by simp [gm]
  | e :: r, c => by
    have := gm_nonneg r c
    unfold gm
    split <;> omega
theorem gm_snoc : ∀ (L : List En) (e : En) (c : Int), gm (L ++ [e]) c = if e.c = c then max (gm L c) e.n else gm L c
  | [], e, c => by simp [gm]; split <;> omega
  | y :: r, e, c => by
    have ih := gm_snoc r e c
    simp only [List.cons_append, gm, ih]
    split <;> split <;> omega
def tw (L : List En) (e : En) : Bool := L.any (fun p => decide (p.c = e.c) && decide (e.n ≤ p.n))
theorem gm_cons (y : En) (r : List En) (c : Int) : gm (y :: r) c = if y.c = c then max y.n (gm r c) else gm r c := rfl
theorem tw_iff (e : En) (h : 1 ≤ e.n) : ∀ L : List En, tw L e = decide (e.n ≤ gm L e.c)
  | [] => by
    have : ¬ e.n ≤ 0 := by omega
    simp [tw, gm, this]
  | y :: r => by
    have ih := tw_iff e h r
    unfold tw at ih ⊢
    rw [List.any_cons, ih, gm_cons]
    by_cases h1 : y.c = e.c
    · rw [if_pos h1]
      have hm : e.n ≤ max y.n (gm r e.c) ↔ e.n ≤ y.n ∨ e.n ≤ gm r e.c := by omega
      simp only [h1, decide_true, Bool.true_and]
      rw [Bool.eq_iff_iff]
      simp [hm]
    · rw [if_neg h1]
      simp [h1]
theorem tw_snoc (L : List En) (p e : En) : tw (L ++ [p]) e = (tw L e || (decide (p.c = e.c) && decide (e.n ≤ p.n))) := by simp [tw]
/-- Which error it has in its place. -/
def er (past : List En) (e : En) : Int := if ckE e ≠ 0 then ckE e else if tw past e then 64 else 0
def lgA : List En → List En → Int
  | _, [] => 0
  | past, e :: r => if er past e ≠ 0 then er past e else lgA (past ++ [e]) r
/-- The log's error. -/
def lg (L : List En) (room : Int) : Int := if room < L.length then 60 else lgA [] L
theorem lgA_at {L : List En} {j : Nat} {e : En} (h : L[j]? = some e) : lgA (L.take j) (L.drop j) = if er (L.take j) e ≠ 0 then er (L.take j) e else lgA (L.take (j + 1)) (L.drop (j + 1)) := by
  have hj := (List.getElem?_eq_some_iff.1 h).1
  have he := (List.getElem?_eq_some_iff.1 h).2
  rw [List.drop_eq_getElem_cons hj, he, lgA, List.take_add_one, h]
  rfl
theorem lgA_end (L : List En) : lgA (L.take L.length) (L.drop L.length) = 0 := by simp [lgA]
/-- A log that may be: no place has an error. -/
def okL (L : List En) : Prop := ∀ (j : Nat) (e : En), L[j]? = some e → er (L.take j) e = 0
theorem lgA_zero : ∀ (n : Nat) (L : List En) (j : Nat), L.length - j = n → lgA (L.take j) (L.drop j) = 0 → ∀ (i : Nat) (e : En), j ≤ i → L[i]? = some e → er (L.take i) e = 0 := by
  intro n
  induction n with
  | zero => intro L j hn h i e hi he; have := (List.getElem?_eq_some_iff.1 he).1; omega
  | succ n ih =>
    intro L j hn h i e hi he
    have hj : j < L.length := by omega
    have hg : L[j]? = some L[j] := List.getElem?_eq_getElem hj
    rw [lgA_at hg] at h
    by_cases hz : er (L.take j) L[j] = 0
    · simp [hz] at h
      by_cases hij : i = j
      · subst hij
        rw [hg] at he
        cases he
        exact hz
      · exact ih L (j + 1) (by omega) h i e (by omega) he
    · simp [hz] at h
theorem lg_zero {L : List En} {room : Int} (h : lg L room = 0) : (L.length : Int) ≤ room ∧ okL L := by
  unfold lg at h
  by_cases h1 : room < L.length
  · simp [h1] at h
  · simp [h1] at h
    exact ⟨by omega, fun j e he => lgA_zero L.length L 0 rfl (by simpa using h) j e (Nat.zero_le _) he⟩
theorem er_zero {past : List En} {e : En} (h : er past e = 0) : ckE e = 0 ∧ tw past e = false := by
  unfold er at h
  by_cases h1 : ckE e = 0
  · simp [h1] at h
    exact ⟨h1, h⟩
  · simp [h1] at h
theorem ckE_zero {e : En} (h : ckE e = 0) : 0 ≤ e.c ∧ e.c < 16 ∧ 1 ≤ e.n ∧ ck e.o.k e.o.s e.o.v = 0 := by
  unfold ckE at h
  by_cases h1 : e.c < 0 ∨ 16 ≤ e.c
  · simp [h1] at h
  · by_cases h2 : e.n < 1
    · simp [h1, h2] at h
    · simp [h1, h2] at h
      exact ⟨by omega, by omega, by omega, h⟩

/-- The results of the log's operations. -/
def rsL (L : List En) : List Rs := rl [] (L.map En.o)
theorem rsL_length (L : List En) : (rsL L).length = L.length := by simp [rsL, rl_length]
theorem rl_take_le (L : List Cl) : ∀ (P : List Opn) (k : Nat), rl L (P.take k) = (rl L P).take k := by
  intro P
  induction P generalizing L with
  | nil => intro k; simp [rl]
  | cons o r ih =>
    intro k
    cases k with
    | zero => simp [rl]
    | succ k => simp [rl, ih]
theorem rsL_take (L : List En) (k : Nat) : rsL (L.take k) = (rsL L).take k := by rw [rsL, List.map_take, rl_take_le]; rfl
/-- The row of the place behind i. -/
def rwA (R : List Rs) (k i : Nat) (e : En) : Rw := ⟨e.c, e.n, (i : Int) + 1, decide (i < k), if i < k then R.getD i zR else zR⟩
def rws (L : List En) (k : Nat) : List Rw := L.mapIdx (rwA (rsL L) k)
theorem rws_length (L : List En) (k : Nat) : (rws L k).length = L.length := by simp [rws]
theorem rws_get {L : List En} {i : Nat} {e : En} (k : Nat) (h : L[i]? = some e) : (rws L k)[i]? = some (rwA (rsL L) k i e) := by
  rw [rws, List.getElem?_mapIdx, h]
  rfl
theorem rws_take (L : List En) (k : Nat) : rws (L.take k) k = (rws L k).take k := by
  apply List.ext_getElem?
  intro i
  rw [List.getElem?_take, rws, rws, List.getElem?_mapIdx, List.getElem?_mapIdx, List.getElem?_take]
  by_cases h : i < k
  · simp only [h, if_true]
    cases hg : L[i]? with
    | none => rfl
    | some e =>
      have hl := (List.getElem?_eq_some_iff.1 hg).1
      simp only [Option.map_some, rwA, h, if_true, decide_true]
      congr 2
      rw [rsL_take, List.getD_eq_getElem?_getD, List.getD_eq_getElem?_getD, List.getElem?_take, if_pos h]
  · simp [h]
/-- The last row of a client. -/
def lo (l : List Rw) (s : Int) : Option Rw := l.foldl (fun a r => if r.c = s then some r else a) none
theorem lo_snoc (l : List Rw) (r : Rw) (s : Int) : lo (l ++ [r]) s = if r.c = s then some r else lo l s := by simp [lo, List.foldl_append]
theorem lo_take {l : List Rw} {j : Nat} {r : Rw} (h : l[j]? = some r) (s : Int) : lo (l.take (j + 1)) s = if r.c = s then some r else lo (l.take j) s := by
  rw [List.take_add_one, h]
  exact lo_snoc _ _ _
/-- The place of a client's last entry; 0: it has none. -/
def lpJ (L : List En) (s : Int) : Nat → Nat
  | 0 => 0
  | j + 1 => match L[j]? with
    | some e => if e.c = s then j + 1 else lpJ L s j
    | none => lpJ L s j
def lp (L : List En) (s : Int) : Nat := lpJ L s L.length
theorem lpJ_le (L : List En) (s : Int) : ∀ j, lpJ L s j ≤ j
  | 0 => Nat.le_refl _
  | j + 1 => by
    have := lpJ_le L s j
    unfold lpJ
    split
    · split <;> omega
    · omega
theorem lpJ_succ {L : List En} {j : Nat} {e : En} (s : Int) (h : L[j]? = some e) : lpJ L s (j + 1) = if e.c = s then j + 1 else lpJ L s j := by simp [lpJ, h]
theorem lo_lpJ (L : List En) (k : Nat) (s : Int) : ∀ j, j ≤ L.length → lo ((rws L k).take j) s = if lpJ L s j = 0 then none else (rws L k)[lpJ L s j - 1]? := by
  intro j
  induction j with
  | zero => intro _; simp [lo, lpJ]
  | succ j ih =>
    intro hj
    have hg : L[j]? = some L[j] := List.getElem?_eq_getElem (by omega)
    have hr := rws_get k hg
    rw [lo_take hr, lpJ_succ s hg, ih (by omega)]
    by_cases h : L[j].c = s
    · have h' : (rwA (rsL L) k j L[j]).c = s := h
      simp only [h, h', if_true]
      simp [hr]
    · have h' : ¬ (rwA (rsL L) k j L[j]).c = s := h
      simp only [h, h', if_false]
theorem lo_all (L : List En) (k : Nat) (s : Int) : lo (rws L k) s = if lp L s = 0 then none else (rws L k)[lp L s - 1]? := by
  have := lo_lpJ L k s L.length (Nat.le_refl _)
  rw [List.take_of_length_le (by rw [rws_length]; exact Nat.le_refl _)] at this
  exact this
/-- The table. -/
def tb (L : List En) (k m : Nat) : List Rw := (List.range m).filterMap (fun (c : Nat) => lo (rws L k) (c : Int))
theorem tb_succ (L : List En) (k m : Nat) : tb L k (m + 1) = match lo (rws L k) (m : Int) with | some r => tb L k m ++ [r] | none => tb L k m := by
  unfold tb
  rw [List.range_succ, List.filterMap_append]
  cases h : lo (rws L k) (m : Int) <;> simp [h]
theorem tb_length_le (L : List En) (k m : Nat) : (tb L k m).length ≤ m := by
  have := List.length_filterMap_le (fun (c : Nat) => lo (rws L k) (c : Int)) (List.range m)
  simpa [tb] using this

end Go.Proofs.Ytolnkoneilipeaa
