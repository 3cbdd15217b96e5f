import Derived.Test.YtolnkoneilipeaaDo
import Derived.Test.YtolnkoneilipeaaMh
namespace Go.Proofs.Ytolnkoneilipeaa
open Go.RowKit Go.Maps
open Classical
set_option linter.unusedVariables false
set_option linter.unusedSimpArgs false

theorem ckB_len (L : List En) : ckB L 0 (L.length : Int) = lg L 256 := by
  unfold ckB
  by_cases h : lg L 256 = 0
  · simp [h]
  · simp [h]
theorem rs_at {L : List En} {j : Nat} {e : En} (h : L[j]? = some e) : (rsL L).getD j zR = wd (pl [] ((L.map En.o).take j)) e.o.k e.o.s e.o.v := by
  have hj := (List.getElem?_eq_some_iff.1 h).1
  have hP : (L.map En.o)[j]? = some e.o := by rw [List.getElem?_map, h]; rfl
  have ht := rl_take [] hP
  have e1 := rl_take_le [] (L.map En.o) (j + 1)
  have hl : (rl [] ((L.map En.o).take j)).length = j := by rw [rl_length]; simp; omega
  have : (rl [] (L.map En.o))[j]? = some (wd (pl [] ((L.map En.o).take j)) e.o.k e.o.s e.o.v) := by
    have e2 : ((rl [] (L.map En.o)).take (j + 1))[j]? = some (wd (pl [] ((L.map En.o).take j)) e.o.k e.o.s e.o.v) := by
      rw [← e1, ht, List.getElem?_append_right (by omega), hl, Nat.sub_self]
      rfl
    rw [List.getElem?_take, if_pos (by omega)] at e2
    exact e2
  rw [List.getD_eq_getElem?_getD, rsL, this]
  rfl
theorem rws_full {L : List En} {j : Nat} {e : En} (h : L[j]? = some e) : (rws L L.length)[j]? = some ⟨e.c, e.n, (j : Int) + 1, true, wd (pl [] ((L.map En.o).take j)) e.o.k e.o.s e.o.v⟩ := by
  have hj := (List.getElem?_eq_some_iff.1 h).1
  rw [rws_get _ h, rwA, if_pos hj, rs_at h]
  simp [hj]
/-- Numbers rise: no two entries have one client and number. -/
theorem okL_apart {L : List En} (h : okL L) {i j : Nat} {p e : En} (hij : i < j) (hp : L[i]? = some p) (he : L[j]? = some e) (hc : p.c = e.c) : p.n < e.n := by
  have h1 := (er_zero (h j e he)).2
  unfold tw at h1
  rw [List.any_eq_false] at h1
  have hm : p ∈ L.take j := by
    rw [List.mem_iff_getElem?]
    exact ⟨i, by rw [List.getElem?_take, if_pos hij, hp]⟩
  have := h1 p hm
  simp [hc] at this
  exact this
theorem okL_entry {L : List En} (h : okL L) {j : Nat} {e : En} (he : L[j]? = some e) : 0 ≤ e.c ∧ e.c < 16 ∧ 1 ≤ e.n := by
  have := ckE_zero (er_zero (h j e he)).1
  exact ⟨this.1, this.2.1, this.2.2.1⟩
/-- The places of the clients' last entries. -/
def laL (L : List En) (j : Nat) : List Value := (List.range 16).map fun (c : Nat) => .int .i64 ((lpJ L (c : Int) j : Nat) : Int)
theorem la_get (L : List En) (j : Nat) {c : Nat} (h : c < 16) : (laL L j)[c]? = some (.int .i64 ((lpJ L (c : Int) j : Nat) : Int)) := by simp [laL, h]
theorem la_zero (L : List En) : laL L 0 = List.replicate 16 (.int .i64 0) := by
  unfold laL
  exact rep_eq _ _ (fun i => rfl) 16
theorem la_step {L : List En} {j : Nat} {e : En} (he : L[j]? = some e) {c : Nat} (hc : e.c = (c : Int)) : laL L (j + 1) = (laL L j).set c (.int .i64 ((j : Int) + 1)) := by
  apply List.ext_getElem?
  intro i
  by_cases hi : i < 16
  · rw [la_get L _ hi, lpJ_succ _ he]
    by_cases hci : c = i
    · subst hci
      rw [List.getElem?_set_self (by simp [laL]; omega), if_pos hc]
      simp
    · rw [List.getElem?_set_ne hci, la_get L _ hi, if_neg (by rw [hc]; omega)]
  · rw [List.getElem?_eq_none (by simp [laL]; omega), List.getElem?_eq_none (by simp [laL]; omega)]
theorem tb_get {L : List En} {n c : Nat} {r : Rw} (h : lo (rws L n) (c : Int) = some r) : ∀ m, c < m → (tb L n m)[(tb L n c).length]? = some r := by
  intro m
  induction m with
  | zero => intro h; omega
  | succ m ih =>
    intro hm
    rw [tb_succ]
    by_cases hcm : c = m
    · subst hcm
      rw [h]
      simp
    · have := ih (by omega)
      have hl := (List.getElem?_eq_some_iff.1 this).1
      cases lo (rws L n) (m : Int) with
      | none => exact this
      | some x =>
        show (tb L n m ++ [x])[(tb L n c).length]? = some r
        rw [List.getElem?_append_left hl]
        exact this
theorem tb_le_get {L : List En} {n c : Nat} {r : Rw} (h : lo (rws L n) (c : Int) = some r) (hc : c < 16) : (tb L n c).length < (tb L n 16).length := (List.getElem?_eq_some_iff.1 (tb_get h 16 hc)).1
/-- Do, and what it leaves as it was. -/
theorem do_keep (B : Nat) (w0 : World) (b : Nat) (L : List Cl) (k s : Int) (v : ByteArray) (hf : (⟨k, s, v⟩ : Opn).fits) (w : World) (h : LedB B w0 w b L) : Calls Try.prog 15 #[.pointer (some ⟨b, 0, none⟩), .agg #[.int .i64 k, .int .i64 s, .string v]] w fun e w' => e = .returned (.agg #[.int .i64 (wd L k s v).1, .int .i64 (wd L k s v).2.1, .string (wd L k s v).2.2]) ∧ LedB B w0 w' b (dn L k s v) ∧ Upd (fun i => i = b ∨ ∃ es c, w.heap[i]? = some (.map es c)) w w' ∧ ∀ g i u, g ≠ b → w.cell? ⟨g, i, none⟩ = some u → w'.cell? ⟨g, i, none⟩ = some u := by
  obtain ⟨m, h1, h2, h3, h4⟩ := h
  refine (do3 b m L k s v hf w h1).mono fun e w' ⟨he, t⟩ => ⟨he, LedB.took t h2 (by have := h1.lt; omega) h3 h4, t.upd.mono (fun i _ hi => ?_), t.keep h1⟩
  rcases hi with hi | hi
  · exact .inl hi
  · obtain ⟨es, c, hb, _⟩ := (h1.sm _ hi).2
    exact .inr ⟨es, c, hb⟩
theorem Arr.kind {w : World} {g : Nat} {t : TypeId} {xs : List Value} (h : Arr w g t xs) : ∀ es c, w.heap[g]? ≠ some (.map es c) := fun es c e' => by
  rcases h.2 with ⟨e, _⟩ | ⟨g', cap, cur, e1, e2, e3, r⟩
  · cases e
  · injection e1 with e1
    injection e1 with e1
    injection e1 with e1
    subst e1
    rw [e'] at e3
    cases e3
theorem Arr.drew {w : World} {g : Nat} {t : TypeId} {xs : List Value} (h : Arr w g t xs) : Arr w.drew g t xs := World.ownsRow.drew h
theorem Arr.later {w w' : World} {g : Nat} {t : TypeId} {xs : List Value} (h : Arr w g t xs) (hb : Below w.heap.size w w') : Arr w' g t xs := h.upd (S := fun _ => False) (Upd.of_below hb) id

end Go.Proofs.Ytolnkoneilipeaa
