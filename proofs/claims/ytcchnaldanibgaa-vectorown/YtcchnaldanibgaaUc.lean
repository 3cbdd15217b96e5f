import Derived.Test.YtcchnaldanibgaaUb
namespace Go.Proofs.Ytcchnaldanibgaa
open Go.RowKit
set_option linter.unusedVariables false
set_option linter.unusedSimpArgs false

def mergedV : List Voi → List (Int × Int)
  | [] => []
  | m0 :: T => mer m0.x.D (T.map (·.x.D))
def pV (L : List Voi) (i : Nat) : Bool := ov (mergedV L) (vD L i) (vN L i)
def okAll (L : List Voi) : Prop := ∀ m, m ∈ L → mayv m.node m.x.D.length ∧ m.x.D.length = (vD L 0).length
theorem okAll_cons (m0 : Voi) (T : List Voi) : okAll (m0 :: T) = okV (m0 :: T) m0.x.D.length := rfl
theorem consU (L : List Voi) (a : Option Addr) (n c : Nat) (w : World) (h : SlW w a n c L) (hb : n * 32 ≤ 140737488355328) :
    Calls Try.prog 25 #[.slice a n c] w fun e w' => ((okAll L ∧ ∃ r s, e = .returned (.tuple #[.int .i64 r, .int .i64 s, .int .i64 0]) ∧ isFirst (pV L) n r) ∨ (¬ okAll L ∧ e = .returned (.tuple #[.int .i64 0, .int .i64 0, .int .i64 30]))) ∧ Below w.heap.size w w' := by
  obtain ⟨hl, hc, hm, hat⟩ := h
  cases L with
  | nil =>
    subst hl
    refine (cons_none a c w).mono ?_
    rintro e w' ⟨rfl, rfl⟩
    exact ⟨.inl ⟨(fun m hm => by cases hm), -1, -1, rfl, .inr ⟨fun i hi => by simp at hi, rfl⟩⟩, Below.refl _ _⟩
  | cons m0 T =>
    obtain ⟨q, o, rfl, hq, hlie⟩ := hat (by simp)
    rw [List.length_cons] at hl
    subst hl
    refine (cons_any m0 T q o c w hlie hq hc hm hb).mono ?_
    rintro e w' ⟨⟨hok, r, s, rfl, h1, _⟩ | ⟨hbad, rfl⟩, b⟩
    · exact ⟨.inl ⟨hok, r, s, rfl, h1⟩, b⟩
    · exact ⟨.inr ⟨hbad, rfl⟩, b⟩
theorem aliveU (L : List Voi) (a : Option Addr) (n c : Nat) (w : World) (h : SlW w a n c L) (hb : n * 32 ≤ 140737488355328) :
    Calls Try.prog 27 #[.slice a n c] w fun e w' => ((okAll L ∧ ∃ v, e = .returned (.tuple #[v, .int .i64 0]) ∧ OwnI w.heap.size w' v (outs (pV L) n)) ∨ (¬ okAll L ∧ e = .returned (.tuple #[.slice none 0 0, .int .i64 30]))) ∧ Below w.heap.size w w' := by
  obtain ⟨hl, hc, hm, hat⟩ := h
  cases L with
  | nil =>
    subst hl
    refine (alive_none a c w).mono ?_
    rintro e w' ⟨rfl, rfl⟩
    exact ⟨.inl ⟨(fun m hm => by cases hm), _, rfl, OwnI.nil _ _⟩, Below.refl _ _⟩
  | cons m0 T =>
    obtain ⟨q, o, rfl, hq, hlie⟩ := hat (by simp)
    rw [List.length_cons] at hl
    subst hl
    refine (alive_any m0 T q o c w hlie hq hc hm hb).mono ?_
    rintro e w' ⟨⟨hok, v, rfl, h1⟩ | ⟨hbad, rfl⟩, b⟩
    · exact ⟨.inl ⟨hok, v, rfl, h1⟩, b⟩
    · exact ⟨.inr ⟨hbad, rfl⟩, b⟩
theorem OwnW.slw {B : Nat} {w : World} {v : Value} {P : List Voi} (h : OwnW B w v P) (hok : ∀ m, m ∈ P → m.x.ok w) : ∃ a c, v = .slice a P.length c ∧ SlW w a P.length c P := by
  obtain ⟨a, c, hv, h1, h2, h3⟩ := h.form
  refine ⟨a, c, hv, rfl, h1, h2, fun hne => ?_⟩
  obtain ⟨g, rfl, _, hg, hcells⟩ := h3 hne
  refine ⟨g, 0, rfl, hg, fun i m hm => ?_⟩
  obtain ⟨e0, e1⟩ := hcells i m hm
  rw [Nat.zero_add]
  exact ⟨e0, e1, hok m (List.mem_of_getElem? hm)⟩

theorem ov_mx (a b d : Int × Int) : 0 < cm (mx a b) d ↔ 0 < cm a d ∨ 0 < cm b d := by
  have h := mx_least a b d
  rw [← cm_swap, ← cm_swap, ← cm_swap]
  constructor
  · intro h1
    by_cases h2 : cm d a < 0
    · exact .inl h2
    · by_cases h3 : cm d b < 0
      · exact .inr h3
      · exact absurd h1 (h.1 ⟨h2, h3⟩)
  · intro h1
    by_cases h2 : cm d (mx a b) < 0
    · exact h2
    · have := h.2 h2
      rcases h1 with h1 | h1
      · exact absurd h1 this.1
      · exact absurd h1 this.2
theorem ov_col (k : Nat) (d : Int × Int) : ∀ (Ds : List (List (Int × Int))) (m : Int × Int), 0 < cm (col k m Ds) d ↔ 0 < cm m d ∨ ∃ V, V ∈ Ds ∧ 0 < cm (at2 V k) d
  | [], m => by simp [col]
  | V :: Ds, m => by
    rw [col, ov_col k d Ds, ov_mx]
    constructor
    · rintro ((h | h) | ⟨X, h1, h2⟩)
      · exact .inl h
      · exact .inr ⟨V, by simp, h⟩
      · exact .inr ⟨X, List.mem_cons_of_mem _ h1, h2⟩
    · rintro (h | ⟨X, h1, h2⟩)
      · exact .inl (.inl h)
      · rcases List.mem_cons.1 h1 with rfl | h1
        · exact .inl (.inr h2)
        · exact .inr ⟨X, h1, h2⟩
/-- The merge knows just what some voice knows. -/
theorem pV_iff {L : List Voi} (hok : okAll L) {i : Nat} (hi : i < L.length) : pV L i = true ↔ ∃ m, m ∈ L ∧ ov m.x.D (vD L i) (vN L i) = true := by
  cases L with
  | nil => simp at hi
  | cons m0 T =>
    have hk : vN (m0 :: T) i < m0.x.D.length := by
      obtain ⟨h1, h2⟩ := hok _ (vAt_mem hi)
      have h3 : (vAt (m0 :: T) i).x.D.length = m0.x.D.length := h2
      have := h1.2.2
      have := h1.2.1
      have := h1.1
      unfold vN
      omega
    unfold pV mergedV ov
    rw [decide_eq_true_eq, mer_at _ _ _ hk, ov_col]
    constructor
    · rintro (h | ⟨V, h1, h2⟩)
      · exact ⟨m0, by simp, decide_eq_true h⟩
      · obtain ⟨m, hm, rfl⟩ := List.mem_map.1 h1
        exact ⟨m, List.mem_cons_of_mem _ hm, decide_eq_true h2⟩
    · rintro ⟨m, h1, h2⟩
      have h2 := of_decide_eq_true h2
      rcases List.mem_cons.1 h1 with rfl | h1
      · exact .inl h2
      · exact .inr ⟨m.x.D, List.mem_map_of_mem h1, h2⟩
theorem okAll_part {L P : List Voi} (hok : okAll L) (hsub : ∀ m, m ∈ P → m ∈ L) : okAll P := by
  intro m hm
  obtain ⟨h1, h2⟩ := hok m (hsub m hm)
  refine ⟨h1, ?_⟩
  have hP : 0 < P.length := by
    cases P with
    | nil => cases hm
    | cons a b => simp
  have h3 : (vD P 0).length = (vD L 0).length := (hok _ (hsub _ (vAt_mem hP))).2
  rw [h2, h3]
/-- What the part's merge knows, that of all knows. -/
theorem pV_part {L P : List Voi} (hok : okAll L) (hsub : ∀ m, m ∈ P → m ∈ L) {i' i : Nat} (hi' : i' < P.length) (hi : i < L.length) (he : vAt P i' = vAt L i) (h : pV P i' = true) : pV L i = true := by
  obtain ⟨m, hm, h2⟩ := (pV_iff (okAll_part hok hsub) hi').1 h
  refine (pV_iff hok hi).2 ⟨m, hsub m hm, ?_⟩
  unfold vD vN at h2 ⊢
  rw [← he]
  exact h2
theorem part_first {L : List Voi} {F : Nat → Bool} {n : Nat} {r : Int} (hok : okAll L) (hn : L.length = n) (hF : ∀ i, i < n → F i = true → pV L i = false) (h : isFirst (pV (partL L F n)) (partL L F n).length r) : r = -1 := by
  have hsub : ∀ m, m ∈ partL L F n → m ∈ L := fun m hm => by
    obtain ⟨i, h1, _, rfl⟩ := partL_mem L F n m hm
    exact vAt_mem (by omega)
  rcases h with ⟨j, h1, h2, _⟩ | ⟨_, h⟩
  · obtain ⟨i, hi, hf, he⟩ := partL_mem L F n _ (vAt_mem h1)
    have := pV_part hok hsub h1 (by omega) he h2
    rw [hF i hi hf] at this
    cases this
  · exact h
theorem outs_all {p : Nat → Bool} : ∀ {n : Nat}, (outs p n).length = n → ∀ i, i < n → p i = false
  | 0, _, i, hi => by omega
  | n + 1, h, i, hi => by
    rw [outs_succ] at h
    have hle := outs_le p n
    cases hp : p n with
    | true => rw [hp] at h; simp at h; omega
    | false =>
      rw [hp] at h
      simp at h
      by_cases e : i = n
      · rw [e]; exact hp
      · exact outs_all h i (by omega)
theorem outs_full {p : Nat → Bool} : ∀ {n : Nat}, (∀ i, i < n → p i = false) → (outs p n).length = n
  | 0, _ => rfl
  | n + 1, h => by
    rw [outs_succ, h n (by omega), List.length_append, outs_full (fun i hi => h i (by omega))]
    rfl
theorem first_outs {p : Nat → Bool} {n : Nat} {r : Int} (h : isFirst p n r) : (r = -1 ∧ (outs p n).length = n) ∨ (r ≠ -1 ∧ (outs p n).length ≠ n) := by
  rcases h with ⟨j, h1, h2, _, rfl⟩ | ⟨h1, rfl⟩
  · refine .inr ⟨by omega, fun e => ?_⟩
    have := outs_all e j h1
    rw [h2] at this
    cases this
  · exact .inl ⟨rfl, outs_full h1⟩
theorem outs_mem {p : Nat → Bool} {n i : Nat} : i ∈ outs p n ↔ i < n ∧ p i = false := by
  unfold outs
  rw [List.mem_filter, List.mem_range]
  simp
theorem outs_rise (p : Nat → Bool) (n : Nat) : (outs p n).Pairwise (· < ·) := by
  unfold outs
  exact List.Pairwise.filter _ (List.pairwise_lt_range)
/-- The last of the first k. -/
def lastOf (A : List Nat) (k : Nat) : Int := if k = 0 then -1 else (A.getD (k - 1) 0 : Nat)
theorem last_lt {p : Nat → Bool} {n k x : Nat} (hx : (outs p n)[k]? = some x) : lastOf (outs p n) k < x := by
  unfold lastOf
  by_cases hk : k = 0
  · rw [if_pos hk]; omega
  · rw [if_neg hk]
    have hlt := (List.getElem?_eq_some_iff.1 hx).1
    have hp := List.pairwise_iff_getElem.1 (outs_rise p n) (k - 1) k (by omega) hlt (by omega)
    rw [List.getD_eq_getElem?_getD, List.getElem?_eq_getElem (by omega)]
    have e := (List.getElem?_eq_some_iff.1 hx).2
    rw [← e]
    simp only [Option.getD_some]
    omega
/-- Bools of the call's own. -/
def OwnB (B : Nat) (w : World) (v : Value) (l : List Bool) : Prop := w.ownsRow B 4 1 v l.length (l.map Value.bool)
theorem info_bool : (Try.prog.info? 4).map (fun i => (i.zero, i.size, i.bytes)) = some (some (.bool false), 1, 1) := by kernel_rfl
theorem make_bools (w : World) {ops : Array Oper} {rest : List Oper} {o : Oper} {a : Act} {Q : Exit → Act → World → Prop} (hgd : o.guard = none) (x : Operand)
    (ho : o.op = .makeSlice 71 x x) (n : Nat) (hx : a.eval x = .int .i64 (n : Int)) (hb : n ≤ 140737488355328)
    (h : ∀ w', OwnB w.heap.size w' (.slice (some ⟨w.heap.size, 0, none⟩) n n) (List.replicate n false) → Below w.heap.size w w' → w'.heap.size = w.heap.size + 1 → wpList Try.prog ops Q rest (a.put o.dst (.slice (some ⟨w.heap.size, 0, none⟩) n n)) w') : wpList Try.prog ops Q (o :: rest) a w := by
  obtain ⟨i0, hi, hz0, hz1, hz2⟩ := info_parts info_bool
  have hr := run_make (P := Try.prog) w 71 4 i0 (.bool false) Try.underlying71 hi hz0 .i64 .i64 n n (by omega) (Int.le_refl _) (by rw [hz2]; omega) (by omega)
  rw [Int.toNat_natCast, hz1] at hr
  refine wpList_plain hgd fun K hK => ?_
  unfold Oper.wp execOp
  simp only [ho, hx, Sem.run_bind, Sem.run_pure, hr, Result.andThen_ok]
  refine hK _ _ (h _ ?_ ((Below.refl _ _).alloc (Nat.le_refl _) _) (by simp))
  unfold OwnB
  rw [List.length_replicate]
  have e : (List.replicate n false).map Value.bool = (madeCells (Value.bool false).cells (n * 1)).toList := by
    have : (Value.bool false).cells = #[.bool false] := rfl
    rw [this, Nat.mul_one, toList_madeCells_one, List.map_replicate]
  rw [e]
  exact World.ownsRow_lit w _ n (Nat.le_refl _) (by unfold maxLen; omega) (size_madeCells _ _)
theorem OwnB.set {B : Nat} {w : World} {g n c : Nat} {l : List Bool} (h : OwnB B w (.slice (some ⟨g, 0, none⟩) n c) l) (hn : l.length = n) (k : Nat) (b : Bool) :
    OwnB B (w.setCell ⟨g, k, none⟩ (.bool b)) (.slice (some ⟨g, 0, none⟩) n c) (l.set k b) := by
  unfold OwnB at *
  rw [hn] at h
  rw [List.length_set, List.map_set, hn]
  exact (World.ownsRow.stored h k _).1
theorem OwnB.cell {B : Nat} {w : World} {g n c : Nat} {l : List Bool} (h : OwnB B w (.slice (some ⟨g, 0, none⟩) n c) l) (i : Nat) (b : Bool) (hb : l[i]? = some b) : w.cell? ⟨g, i, none⟩ = some (.bool b) := by
  have := World.ownsRow.cells h (g := g) rfl i (.bool b) (by rw [List.getElem?_map, hb]; rfl)
  rw [Addr.add_lit, Nat.zero_add] at this
  exact this
theorem OwnB.free {B : Nat} {w : World} {g n c : Nat} {l : List Bool} (h : OwnB B w (.slice (some ⟨g, 0, none⟩) n c) l) (hn : l.length = n) (j : Nat) : w.frozen? ⟨g, j, none⟩ = false := by
  unfold OwnB at h
  rw [hn] at h
  exact World.ownsRow.frozenAt h j
def liveB (n : Nat) (S : List Nat) : List Bool := (List.range n).map fun i => decide (i ∈ S)
theorem liveB_set (n : Nat) (S : List Nat) (x : Nat) (hx : x < n) : (liveB n S).set x true = liveB n (S ++ [x]) := by
  apply List.ext_getElem?
  intro i
  unfold liveB
  rw [List.getElem?_set]
  by_cases hi : i < n
  · by_cases e : x = i
    · subst e
      simp [hi]
    · have : ¬ i = x := fun h => e h.symm
      simp [hi, e, this]
  · have : ¬ x = i := by omega
    simp [hi, this]
theorem liveB_nil (n : Nat) : List.replicate n false = liveB n [] := by
  unfold liveB
  apply List.ext_getElem?
  intro i
  by_cases hi : i < n <;> simp [hi]
theorem liveB_len (n : Nat) (S : List Nat) : (liveB n S).length = n := by simp [liveB]
theorem liveB_at (p : Nat → Bool) (n i : Nat) (hi : i < n) : (liveB n (outs p n))[i]? = some (!p i) := by
  unfold liveB
  rw [List.getElem?_map, List.getElem?_range hi]
  simp only [Option.map_some, outs_mem]
  cases h : p i <;> simp [hi, h]

end Go.Proofs.Ytcchnaldanibgaa
