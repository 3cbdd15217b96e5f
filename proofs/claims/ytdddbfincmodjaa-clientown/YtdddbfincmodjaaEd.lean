import Derived.Test.YtdddbfincmodjaaEc
import Derived.Test.YtdddbfincmodjaaDi
namespace Go.Proofs.Ytdddbfincmodjaa
open Go.RowKit Go.Maps
open Classical
set_option linter.unusedVariables false
set_option linter.unusedSimpArgs false

section
variable {α : Type} {Y : Lay α} {Z : Lay (SV α)} {p : Nat} {E : Nat → Value}
theorem GY.lift {w : World} {b B B' : Nat} (h : GY Y Z p E w b B (.slice none 0 0) (.slice none 0 0) [] []) (h1 : B ≤ B') (h2 : B' ≤ w.heap.size) : GY Y Z p E w b B' (.slice none 0 0) (.slice none 0 0) [] [] :=
  ⟨Nat.lt_of_lt_of_le h.lt h1, h2, h.ca, h.cb, h.fa, h.fb, h.ce, OwnY.nil _ _ _, OwnY.nil _ _ _, h.ne, (fun x hx => by cases hx), (fun x hx => by cases hx)⟩
theorem GY.upd {S : Nat → Prop} {w w' : World} {b B : Nat} {va vb : Value} {La Lb : List (SV α)} (h : GY Y Z p E w b B va vb La Lb) (u : Upd S w w') (h1 : ¬ S b) (h2 : ∀ k, B ≤ k → k < w.heap.size → ¬ S k) : GY Y Z p E w' b B va vb La Lb := by
  have hlt : b < w.heap.size := Nat.lt_of_lt_of_le h.lt h.ltB
  have own : ∀ {β : Type} {X : Lay β} {v : Value} {l : List β}, OwnY X B w v l → OwnY X B w' v l := fun o => o.upd1 u (fun g hg => h2 g (o.blk g hg).1 (o.blk g hg).2)
  exact ⟨h.lt, Nat.le_trans h.ltB u.size, (u.cell (p := ⟨b, _, none⟩) hlt h1).trans h.ca, (u.cell (p := ⟨b, _, none⟩) hlt h1).trans h.cb, (u.frozen (p := ⟨b, _, none⟩) hlt h1).trans h.fa, (u.frozen (p := ⟨b, _, none⟩) hlt h1).trans h.fb, fun i h0 h1' h2' => (u.cell (p := ⟨b, _, none⟩) hlt h1).trans (h.ce i h0 h1' h2'), own h.oa, own h.ob, h.ne, fun x hx => own (h.da x hx), fun x hx => own (h.db x hx)⟩
theorem BY.lift {S : Nat → Prop} {w w' : World} {b B B' : Nat} (h : BY Y Z p w b B (.slice none 0 0) []) (u : Upd S w w') (hs : ¬ S b) (h1 : b < B') (h2 : B' ≤ w'.heap.size) : BY Y Z p w' b B' (.slice none 0 0) [] := by
  have hlt : b < w.heap.size := Nat.lt_of_lt_of_le h.lt h.ltB
  exact ⟨h1, h2, (u.cell (p := ⟨b, _, none⟩) hlt hs).trans h.cp, (u.frozen (p := ⟨b, _, none⟩) hlt hs).trans h.fp, fun i h0 h1 => (u.cell (p := ⟨b, _, none⟩) hlt hs).trans (h.ce i h0 h1), OwnY.nil _ _ _, (fun x hx => by cases hx), (fun i j x y hx => by simp at hx)⟩
end
/-- A list of rows into the book, empty or not. -/
theorem bookR (b B lim lim2 : Nat) (v : Value) (V : List (SV Rw)) (vx : Value) (D : List Rw) (w : World) (G : BY yR zRR 5 w b B v V) (hx : OwnY yR lim w vx D) (hB : B ≤ lim) (h1 : D.length ≤ 1000) (hn : ∀ y, y ∈ V → ∀ g, y.a = some ⟨g, 0, none⟩ → g < lim) (hV : V.length ≤ 100) (hl1 : lim ≤ lim2) (hl2 : ∀ g, vx.ownBlock = some g → g < lim2) :
    Calls Try.prog 23 #[.pointer (some ⟨b, 0, none⟩), vx] w fun e w' => e = .returned (.tuple #[]) ∧ ∃ v' V', BY yR zRR 5 w' b B v' V' ∧ V'.length ≤ V.length + 1 ∧ Upd (fun k => k = b ∨ v.ownBlock = some k) w w' ∧ ∀ y, y ∈ V' → ∀ g, y.a = some ⟨g, 0, none⟩ → g < lim2 := by
  obtain ⟨a, c, rfl, _, _, h3, h4⟩ := hx.form
  by_cases h0 : D = []
  · subst h0
    exact (bookrows_none b a c w).mono fun e w' ⟨he, hw⟩ => ⟨he, v, V, by rw [hw]; exact G, by omega, by rw [hw]; exact Upd.refl _ _, fun y hy g hg => Nat.lt_of_lt_of_le (hn y hy g hg) hl1⟩
  · have hp : 0 < D.length := by
      cases D with
      | nil => exact absurd rfl h0
      | cons x r => simp
    refine (bookrows_any b B v V ⟨a, c, D⟩ w G (hx.low hB) hp h1 (fun y hy e => ?_) hV).mono fun e w' ⟨he, v', g', u'⟩ => ⟨he, v', _, g', by simp, u', fun y hy g hg => by
      rcases List.mem_append.1 hy with hy | hy
      · exact Nat.lt_of_lt_of_le (hn y hy g hg) hl1
      · simp at hy
        subst hy
        exact hl2 g (by show (Value.slice a D.length c).ownBlock = some g; have e : a = some ⟨g, 0, none⟩ := hg; rw [e]; rfl)⟩
    have hav := G.av hy
    have hg := hn y hy _ hav
    have e' : y.a = a := e
    rw [hav] at e'
    obtain ⟨g2, e2, hlg, _⟩ := h4 _ e'.symm
    cases e2
    omega
theorem inY_ge {w : World} {b B : Nat} {v : Value} {V : List (SV Rw)} (G : BY yR zRR 5 w b B v V) {k : Nat} (h : inY V k) : B ≤ k ∧ k < w.heap.size := by
  obtain ⟨x, hx, e⟩ := h
  exact (G.ev x hx).1.blk k (by unfold SV.v; rw [e]; rfl)
set_option maxRecDepth 100000 in
set_option maxHeartbeats 1000000 in
/-- Between from 0 on: the answer is an own row. -/
theorem between0_any (L : List En) (a : Option Addr) (c : Nat) (w : World) (h : SlY yE w a L.length c L) (hf : ∀ e ∈ L, e.fits) :
    Calls Try.prog 18 #[.slice a L.length c, .int .i64 0, .int .i64 (L.length : Int)] w fun e w' => ∃ v', e = .returned (.tuple #[v', .int .i64 (lg L 256)]) ∧ OwnY yR w.heap.size w' v' (btw L 0 (L.length : Int)) ∧ Below w.heap.size w w' := by
  have ck := check2_any L a c 0 (L.length : Int) w h hf
  rw [ckB_len] at ck
  have hmx := h.max
  have hcp := h.cap
  unfold maxLen at hmx
  have H := hide h
  have HF := hide hf
  clear h hf
  by_cases hx : lg L 256 = 0
  · have hT : Hid (btw L 0 (L.length : Int) = rws L L.length) := by
      show _ = _
      unfold btw
      rw [ckB_len, hx]
      simp only [if_true, Int.toNat_natCast, Int.toNat_zero, List.drop_zero]
      exact List.take_of_length_le (by rw [rws_length]; exact Nat.le_refl _)
    have hl : L.length ≤ 256 := by have := (lg_zero hx).1; omega
    rw [hx] at ck ⊢
    clear hx
    by_cases hz : L.length = 0
    · obtain rfl : L = [] := List.eq_nil_of_length_eq_zero hz
      clear hz
      simp only [List.length_nil] at *
      have cr2 := fun W hW => rows_any [] a c 0 W hW (fun e he => by cases he) (by simp) (by simp)
      simp only [List.length_nil] at cr2
      have CR2 := hide cr2
      clear cr2
      go_enter Try.func18, Try.ntmps18
      go_wp2_with (first
        | (go_at_call 27; refine ck.mono ?_; rintro e w1 ⟨rfl, b1⟩; have cr := CR2.out w1 (H.out.later b1))
        | (go_at_call 39; refine cr.mono ?_; rintro e w2 ⟨g, rfl, o2, b2⟩; clear cr; have z1 := b1.size; have OS := hide (o2.low z1); have BB := hide (b1.trans (b2.mono z1)); clear o2 b1 b2))
      go_ret2
      exact ⟨_, rfl, by rw [hT.out]; exact OS.out, BB.out⟩
    · have hp : 0 < L.length := by omega
      go_enter Try.func18, Try.ntmps18
      go_wp2_with (first
        | (go_at_call 27; refine ck.mono ?_; rintro e w1 ⟨rfl, b1⟩; have cr := rows_any L a c L.length w1 (H.out.later b1) HF.out hl (Nat.le_refl _))
        | (go_at_call 39; refine cr.mono ?_; rintro e w2 ⟨g, rfl, o2, b2⟩; clear cr; have z1 := b1.size; have OS := hide (o2.low z1); have BB := hide (b1.trans (b2.mono z1)); clear o2 b1 b2))
      go_ret2
      exact ⟨_, rfl, by rw [hT.out]; exact OS.out, BB.out⟩
  · have hT : Hid (btw L 0 (L.length : Int) = []) := by
      show _ = _
      unfold btw
      rw [ckB_len]
      simp [hx]
    generalize lg L 256 = x at *
    go_enter Try.func18, Try.ntmps18
    go_wp2_with (go_at_call 27; refine ck.mono ?_; rintro e w1 ⟨rfl, b1⟩)
    go_ret2
    exact ⟨_, rfl, by rw [hT.out]; exact OwnY.nil _ _ _, b1⟩

end Go.Proofs.Ytdddbfincmodjaa
