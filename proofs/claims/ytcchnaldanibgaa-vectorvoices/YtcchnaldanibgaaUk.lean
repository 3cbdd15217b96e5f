import Derived.Test.YtcchnaldanibgaaUh
import Derived.Test.YtcchnaldanibgaaUj
namespace Go.Proofs.Ytcchnaldanibgaa
open Go.RowKit
set_option linter.unusedVariables false
set_option linter.unusedSimpArgs false

set_option maxRecDepth 100000 in
set_option maxHeartbeats 400000 in
theorem sameints_eq (A : List Nat) (B1 B2 : Nat) (v1 v2 : Value) (w : World) (h1 : OwnI B1 w v1 A) (h2 : OwnI B2 w v2 A) :
    Calls Try.prog 29 #[v1, v2] w fun e w' => e = .returned (.bool true) ∧ ∃ k, w' = w.drewN k := by
  obtain ⟨a1, c1, rfl, k1, m1, p1⟩ := h1.form
  obtain ⟨a2, c2, rfl, k2, m2, p2⟩ := h2.form
  unfold maxLen at m1 m2
  have P1 := hide p1
  have P2 := hide p2
  clear h1 h2 p1 p2
  generalize hn : A.length = n at *
  have HN := hide hn
  clear hn
  go_enter Try.func29, Try.ntmps29
  go_wp2
  go_loopw [5] (fun i wr => ∃ (k j : Nat), i = .int .i64 (k : Int) ∧ k ≤ n ∧ wr = w.drewN j) (fun i _ => n - (intOf i).toNat)
  case atStart => exact ⟨0, 0, rfl, Nat.zero_le _, rfl⟩
  case round =>
    obtain ⟨k, j, rfl, hk, rfl⟩ := hrel
    by_cases hlt : k < n
    · obtain ⟨x, hx⟩ : ∃ x, A[k]? = some x := ⟨_, List.getElem?_eq_getElem (by rw [HN.out]; exact hlt)⟩
      obtain ⟨g1, rfl, _, _, c1'⟩ := P1.out (by rintro rfl; simp at hx)
      obtain ⟨g2, rfl, _, _, c2'⟩ := P2.out (by rintro rfl; simp at hx)
      have e0 := c1' k x hx
      have e1 := c2' k x hx
      clear c1' c2' P1 P2 hx
      go_wp2
      go_quiet (fail)
      go_wp2
      go_round
      case rel => exact ⟨k + 1, _, by go_num, by omega, rfl⟩
      case measure => simp [intOf]; omega
    · obtain rfl : k = n := by omega
      go_wp2
      go_ret
      exact ⟨rfl, _, rfl⟩
theorem isFirst_one {p : Nat → Bool} {n : Nat} {r r' : Int} (h : isFirst p n r) (h' : isFirst p n r') : r = r' := by
  rcases h with ⟨j, h1, h2, h3, rfl⟩ | ⟨h1, rfl⟩ <;> rcases h' with ⟨j', h1', h2', h3', rfl⟩ | ⟨h1', rfl⟩
  · rcases Nat.lt_trichotomy j j' with e | e | e
    · rw [h3' j e] at h2; cases h2
    · rw [e]
    · rw [h3 j' e] at h2'; cases h2'
  · rw [h1' j h1] at h2; cases h2
  · rw [h1 j' h1'] at h2'; cases h2'
  · rfl
/-- Voices that are told alike. -/
def alikeV (L M : List Voi) : Prop := L.map (fun m => (m.node, m.x.D)) = M.map (fun m => (m.node, m.x.D))
theorem alike_len {L M : List Voi} (h : alikeV L M) : L.length = M.length := by
  have := congrArg List.length h
  simpa using this
theorem alike_at {L M : List Voi} (h : alikeV L M) (i : Nat) : (vAt L i).node = (vAt M i).node ∧ vD L i = vD M i := by
  have hl := alike_len h
  by_cases hi : i < L.length
  · have e := congrArg (fun l => l[i]?) h
    simp only [List.getElem?_map, vAt_get hi, vAt_get (L := M) (i := i) (by omega), Option.map_some, Option.some.injEq, Prod.mk.injEq] at e
    exact e
  · unfold vD vAt
    rw [List.getD_eq_getElem?_getD, List.getD_eq_getElem?_getD, List.getElem?_eq_none (by omega), List.getElem?_eq_none (by omega)]
    exact ⟨rfl, rfl⟩
theorem okAll_iff (L : List Voi) : okAll L ↔ ∀ i, i < L.length → mayv (vAt L i).node (vD L i).length ∧ (vD L i).length = (vD L 0).length := by
  constructor
  · intro h i hi
    exact h _ (vAt_mem hi)
  · intro h m hm
    obtain ⟨i, hi⟩ := List.getElem?_of_mem hm
    have hlt := (List.getElem?_eq_some_iff.1 hi).1
    have := h i hlt
    unfold vD at this ⊢
    rw [vAt_some hi] at this
    exact this
theorem alike_ok {L M : List Voi} (h : alikeV L M) : okAll L ↔ okAll M := by
  rw [okAll_iff, okAll_iff, alike_len h]
  constructor
  · intro hh i hi
    have := hh i hi
    rw [(alike_at h i).1, (alike_at h i).2, (alike_at h 0).2] at this
    exact this
  · intro hh i hi
    rw [(alike_at h i).1, (alike_at h i).2, (alike_at h 0).2]
    exact hh i hi
theorem alike_merged {L M : List Voi} (h : alikeV L M) : mergedV L = mergedV M := by
  have hD : L.map (·.x.D) = M.map (·.x.D) := by
    have := congrArg (List.map Prod.snd) h
    simpa [List.map_map, Function.comp_def] using this
  cases L with
  | nil =>
    cases M with
    | nil => rfl
    | cons a b => simp at hD
  | cons a b =>
    cases M with
    | nil => simp at hD
    | cons a' b' =>
      simp only [List.map_cons, List.cons.injEq] at hD
      show mer a.x.D (b.map (·.x.D)) = mer a'.x.D (b'.map (·.x.D))
      rw [hD.1, hD.2]
theorem alike_p {L M : List Voi} (h : alikeV L M) : pV L = pV M := by
  funext i
  unfold pV
  rw [alike_merged h, (alike_at h i).2]
  unfold vN
  rw [(alike_at h i).1]
theorem alike_q {L M : List Voi} (h : alikeV L M) : qV L = qV M := by
  funext i k
  unfold qV
  rw [(alike_at h i).2, (alike_at h k).2]
  unfold vN
  rw [(alike_at h i).1]
theorem consU2 (L : List Voi) (a : Option Addr) (n c : Nat) (w : World) (h : SlW w a n c L) (hb : n * 32 ≤ 140737488355328) :
    Calls Try.prog 25 #[.slice a n c] w fun e w' => ((okAll L ∧ ∃ r s, e = .returned (.tuple #[.int .i64 r, .int .i64 s, .int .i64 0]) ∧ isFirst (pV L) n r ∧ ((r = -1 ∧ s = -1) ∨ ∃ j : Nat, r = j ∧ j < n ∧ isFirst (qV L j) n s)) ∨ (¬ okAll L ∧ e = .returned (.tuple #[.int .i64 0, .int .i64 0, .int .i64 30]))) ∧ Below w.heap.size w w' := by
  obtain ⟨hl, hc, hm, hat⟩ := h
  cases L with
  | nil =>
    subst hl
    refine (cons_none a c w).mono ?_
    rintro e w' ⟨rfl, rfl⟩
    exact ⟨.inl ⟨(fun m hm => by cases hm), -1, -1, rfl, .inr ⟨fun i hi => by simp at hi, rfl⟩, .inl ⟨rfl, rfl⟩⟩, Below.refl _ _⟩
  | cons m0 T =>
    obtain ⟨q, o, rfl, hq, hlie⟩ := hat (by simp)
    rw [List.length_cons] at hl
    subst hl
    refine (cons_any m0 T q o c w hlie hq hc hm hb).mono ?_
    rintro e w' ⟨⟨hok, r, s, rfl, h1, h2⟩ | ⟨hbad, rfl⟩, b⟩
    · exact ⟨.inl ⟨hok, r, s, rfl, h1, h2⟩, b⟩
    · exact ⟨.inr ⟨hbad, rfl⟩, b⟩
theorem two_same {p : Nat → Bool} {q : Nat → Nat → Bool} {n : Nat} {r s r' s' : Int} (h1 : isFirst p n r) (h2 : (r = -1 ∧ s = -1) ∨ ∃ j : Nat, r = j ∧ j < n ∧ isFirst (q j) n s) (h1' : isFirst p n r') (h2' : (r' = -1 ∧ s' = -1) ∨ ∃ j : Nat, r' = j ∧ j < n ∧ isFirst (q j) n s') : r = r' ∧ s = s' := by
  have e := isFirst_one h1 h1'
  subst e
  refine ⟨rfl, ?_⟩
  rcases h2 with ⟨e1, e2⟩ | ⟨j, e1, _, e2⟩ <;> rcases h2' with ⟨e1', e2'⟩ | ⟨j', e1', _, e2'⟩
  · rw [e2, e2']
  · omega
  · omega
  · obtain rfl : j = j' := by omega
    exact isFirst_one e2 e2'

end Go.Proofs.Ytcchnaldanibgaa
