import Derived.Test.YtdgelllmngdpkaaOd
import Derived.Test.YtdgelllmngdpkaaMx
import Derived.Defers
import Derived.Recover
import Derived.Deep.RegionHeld3
namespace Go.Proofs.Ytdgelllmngdpkaa
open Go.RowKit
set_option linter.unusedVariables false

/-- Draws that lie from an address on. -/
def Lie (w : World) (q o : Nat) (D : List (Int × Int)) : Prop := ∀ i d, D[i]? = some d → w.cell? ⟨q, o + i * 2, none⟩ = some (.int .u64 d.1) ∧ w.cell? ⟨q, o + i * 2 + 1, none⟩ = some (.int .u64 d.2)
theorem Lie.upd {S : Nat → Prop} {w w' : World} {q o : Nat} {D : List (Int × Int)} (h : Lie w q o D) (u : Upd S w w') (hq : q < w.heap.size) (hs : ¬ S q) : Lie w' q o D := fun i d hd =>
  ⟨(u.cell (p := ⟨q, o + i * 2, none⟩) hq hs).trans (h i d hd).1, (u.cell (p := ⟨q, o + i * 2 + 1, none⟩) hq hs).trans (h i d hd).2⟩
theorem Lie.tail {w : World} {q o : Nat} {d : Int × Int} {D : List (Int × Int)} (h : Lie w q o (d :: D)) : Lie w q (o + 2) D := fun i e he => by
  have := h (i + 1) e (by simpa using he)
  rw [show o + 2 + i * 2 = o + (i + 1) * 2 from by omega]
  exact this
/-- A slice of draws, whatever it is. -/
structure Sl (w : World) (v : Value) (D : List (Int × Int)) (a : Option Addr) (c : Nat) : Prop where
  form : v = .slice a D.length c
  cap : D.length ≤ c
  max : c ≤ maxLen
  nil : a = none → D = [] ∧ c = 0
  at_ : ∀ x, a = some x → (D = [] ∧ c = 0) ∨ ∃ q o, x = ⟨q, o, none⟩ ∧ q < w.heap.size ∧ Lie w q o D
/-- A stream at block s, with what is left. -/
structure Str (w : World) (s : Nat) (D : List (Int × Int)) (a : Option Addr) (c : Nat) : Prop where
  lt : s < w.heap.size
  c0 : w.cell? ⟨s, 0, none⟩ = some (.slice a D.length c)
  f0 : w.frozen? ⟨s, 0, none⟩ = false
  sl : Sl w (.slice a D.length c) D a c
  ne : ∀ x, a = some x → x.block ≠ s
  blk : ∀ x, a = some x → x.block < w.heap.size
theorem Sl.upd {S : Nat → Prop} {w w' : World} {v : Value} {D : List (Int × Int)} {a : Option Addr} {c : Nat} (h : Sl w v D a c) (u : Upd S w w') (hs : ∀ x, a = some x → D ≠ [] → ¬ S x.block) : Sl w' v D a c :=
  ⟨h.form, h.cap, h.max, h.nil, fun x hx => by
    rcases h.at_ x hx with h1 | ⟨q, o, rfl, hq, hl⟩
    · exact .inl h1
    · refine .inr ⟨q, o, rfl, Nat.lt_of_lt_of_le hq u.size, ?_⟩
      by_cases hD : D = []
      · subst hD
        intro i d hd
        cases hd
      · exact hl.upd u hq (hs _ hx hD)⟩
theorem Str.upd {S : Nat → Prop} {w w' : World} {s : Nat} {D : List (Int × Int)} {a : Option Addr} {c : Nat} (h : Str w s D a c) (u : Upd S w w') (h1 : ¬ S s) (hs : ∀ x, a = some x → ¬ S x.block) : Str w' s D a c :=
  ⟨Nat.lt_of_lt_of_le h.lt u.size, (u.cell h.lt h1).trans h.c0, (u.frozen h.lt h1).trans h.f0, h.sl.upd u (fun x hx _ => hs x hx), h.ne, fun x hx => Nat.lt_of_lt_of_le (h.blk x hx) u.size⟩

theorem upd_s (w : World) (s : Nat) (u : Value) : Upd (· = s) w (w.setCell ⟨s, 0, none⟩ u) := (Upd.refl (· = s) w).setCell (.inl rfl) u
theorem stream_end (s : Nat) (a : Option Addr) (c : Nat) (w : World) (h : Str w s [] a c) :
    Calls Try.prog 23 #[.pointer (some ⟨s, 0, none⟩)] w fun e w' => e = .returned (.tuple #[.agg #[.int .u64 0, .int .u64 0], .int .i64 20]) ∧ Below w.heap.size w w' := by
  have c0 := h.c0
  have c1 : ∀ o, (w.alloc o).cell? ⟨s, 0, none⟩ = some (.slice a 0 c) := fun o => (World.cell?_alloc_past _ _ _ h.lt).trans c0
  go_enter Try.func23, Try.ntmps23
  go_wp2
  refine bodyPost_ret (v := .tuple #[.agg #[.int .u64 0, .int .u64 0], .int .i64 20]) (by simp [results, Try.results23, go_sem]) rfl ⟨rfl, ?_⟩
  exact (Below.refl _ _).alloc (Nat.le_refl _) _

set_option maxRecDepth 100000 in
set_option maxHeartbeats 800000 in
theorem stream_next (s : Nat) (x y : Int) (D : List (Int × Int)) (a : Option Addr) (c : Nat) (w : World) (h : Str w s ((x, y) :: D) a c) :
    Calls Try.prog 23 #[.pointer (some ⟨s, 0, none⟩)] w fun e w' => e = .returned (.tuple #[.agg #[.int .u64 x, .int .u64 y], .int .i64 0]) ∧ (∃ a' c', Str w' s D a' c' ∧ ∀ b, (∃ z, a' = some z ∧ z.block = b) → ∃ z, a = some z ∧ z.block = b) ∧ Upd (· = s) w w' := by
  have hc := h.sl.cap
  have hm := h.sl.max
  have hlt := h.lt
  unfold maxLen at hm
  simp only [List.length_cons] at hc
  cases a with
  | none => cases (h.sl.nil rfl).1
  | some z =>
    obtain ⟨q, o, rfl, hq, hl⟩ : ∃ q o, z = ⟨q, o, none⟩ ∧ q < w.heap.size ∧ Lie w q o ((x, y) :: D) := by
      rcases h.sl.at_ z rfl with ⟨e, _⟩ | h
      · cases e
      · exact h
    have hne : q ≠ s := h.ne _ rfl
    obtain ⟨e0, e1⟩ := hl 0 (x, y) rfl
    simp only [Nat.zero_mul, Nat.add_zero] at e0 e1
    have U0 : ∀ o, Upd (fun _ => False) w (w.alloc o) := fun o => (Upd.refl _ w).alloc o
    have c0 := h.c0
    simp only [List.length_cons] at c0
    have g0 : ∀ ob, (w.alloc ob).cell? ⟨q, o, none⟩ = some (.int .u64 x) := fun ob => ((U0 ob).cell (p := ⟨q, o, none⟩) hq id).trans e0
    have g1 : ∀ ob, (w.alloc ob).cell? ⟨q, o + 1, none⟩ = some (.int .u64 y) := fun ob => ((U0 ob).cell (p := ⟨q, o + 1, none⟩) hq id).trans e1
    have c1 : ∀ ob, (w.alloc ob).cell? ⟨s, 0, none⟩ = some (.slice (some ⟨q, o, none⟩) (D.length + 1) c) := fun ob => ((U0 ob).cell (p := ⟨s, 0, none⟩) hlt id).trans c0
    have b0 : ((D.length : Int) + 1 == 0) = false := by simp; omega
    have f0 := h.f0
    have f1 : ∀ ob oc, ((w.alloc ob).alloc oc).frozen? ⟨s, 0, none⟩ = false := fun ob oc => (((U0 ob).alloc oc).frozen (p := ⟨s, 0, none⟩) hlt id).trans f0
    have key : ∀ a' c', Sl w (.slice a' D.length c') D a' c' → (∀ z, a' = some z → z.block = q) → ∀ o1 o2, Str (((w.setCell ⟨s, 0, none⟩ (.slice a' D.length c')).alloc o1).alloc o2) s D a' c' := by
      intro a' c' hsl hz o1 o2
      have u1 := upd_s w s (.slice a' D.length c')
      have hs : Str (w.setCell ⟨s, 0, none⟩ (.slice a' D.length c')) s D a' c' := by
        refine ⟨by simpa [World.setCell] using hlt, by go_simp, by go_simp, hsl.upd u1 (fun z hz' _ => by rw [hz z hz']; exact hne), (fun z hz' => by rw [hz z hz']; exact hne), fun z hz' => by rw [hz z hz']; simpa [World.setCell] using hq⟩
      exact (hs.upd (S := fun _ => False) ((Upd.refl _ _).alloc o1) id (fun _ _ => id)).upd (S := fun _ => False) ((Upd.refl _ _).alloc o2) id (fun _ _ => id)
    have KEY := hide key
    clear key
    by_cases hc1 : c = 1
    · subst hc1
      obtain rfl : D = [] := List.eq_nil_of_length_eq_zero (by omega)
      have S1 : Sl w (.slice (some ⟨q, o, none⟩) ([] : List (Int × Int)).length 0) [] (some ⟨q, o, none⟩) 0 := ⟨rfl, Nat.le_refl _, by unfold maxLen; omega, (fun e => by cases e), fun z hz => by cases hz; exact .inr ⟨q, o, rfl, hq, by intro i d hd; cases hd⟩⟩
      have T := hide (KEY.out _ _ S1 (fun z hz => by cases hz; rfl))
      clear KEY S1 hl h
      go_enter Try.func23, Try.ntmps23
      go_wp2
      refine bodyPost_ret (v := .tuple #[.agg #[.int .u64 x, .int .u64 y], .int .i64 0]) (by simp [results, Try.results23, go_sem]) rfl ⟨rfl, ⟨_, _, T.out _ _, fun b hb => ?_⟩, ((upd_s w s _).alloc _).alloc _⟩
      exact hb
    · have S1 : Sl w (.slice (some ⟨q, o + 2, none⟩) D.length (c - 1)) D (some ⟨q, o + 2, none⟩) (c - 1) := ⟨rfl, by omega, by unfold maxLen; omega, (fun e => by cases e), fun z hz => by cases hz; exact .inr ⟨q, o + 2, rfl, hq, hl.tail⟩⟩
      have T := hide (KEY.out _ _ S1 (fun z hz => by cases hz; rfl))
      clear KEY S1 hl h
      go_enter Try.func23, Try.ntmps23
      go_wp2
      refine bodyPost_ret (v := .tuple #[.agg #[.int .u64 x, .int .u64 y], .int .i64 0]) (by simp [results, Try.results23, go_sem]) rfl ⟨rfl, ⟨_, _, T.out _ _, fun b hb => ?_⟩, ((upd_s w s _).alloc _).alloc _⟩
      obtain ⟨z, hz, rfl⟩ := hb
      cases hz
      exact ⟨_, rfl, rfl⟩

end Go.Proofs.Ytdgelllmngdpkaa
