import Derived.Test.YtilngncjbikkgaaGki
namespace Go.Proofs.Ytilngncjbikkgaa
open Go.RowKit
set_option linter.unusedVariables false
set_option linter.unusedSimpArgs false

theorem gxdraw_any {w : World} {B g sg n cap : Nat} {m : Nat → Nat} {vd : Value} {s : Nat → Int} {L : List (Int × Int × Int)} (j : Nat) (h : GX2 w B g sg n cap m vd s L) (hj : j < n) (hb : (L.length + 1) * 24 ≤ 140737488355328) :
    Calls Try.prog 21 #[.pointer (some ⟨g, 0, none⟩), .int .i64 (j : Int)] w fun e w' => e = .returned (.tuple #[.agg #[.int .u64 (wordOf (stp (s j))), .int .u64 (wordOf (stp (stp (s j))))], .int .i64 0]) ∧ ∃ vd', GX2 w' B g sg n cap m vd' (fun i => if i = j then stp (stp (s j)) else s i) (L ++ [((j : Int), wordOf (stp (s j)), wordOf (stp (stp (s j))))]) ∧ (vd'.ownBlock = vd.ownBlock ∨ ∃ k, vd'.ownBlock = some k ∧ w.heap.size ≤ k) ∧ Upd (fun b => b = m j ∨ b = g ∨ vd.ownBlock = some b) w w' := by
  obtain ⟨g1, g2, g3⟩ := h.gp j hj
  refine (gmdraw_ok B g sg n cap j (m j) (s j) vd L w h.G hj h.n7 (h.A j hj) (h.P j hj) h.D hb g1 g2 h.gB.1 h.gB.2 g3 h.hB).mono ?_
  rintro e w' ⟨he, p1, vd', G', D', hv, u⟩
  have nd : ∀ b, b < B → vd.ownBlock ≠ some b := fun b hb e => by have := (h.D.lt b e).1; omega
  refine ⟨he, vd', ⟨G', fun i hi => (h.A i hi).upd u h.G.slt ?_, fun i hi => ?_, D', h.inj, h.gp, h.gB, h.gs, Nat.le_trans h.hB u.size, h.n7, fun e => ?_⟩, hv, u⟩
  · rintro (e | e | e)
    · exact g2 e
    · exact h.gs e.symm
    · exact nd _ h.gB.2 e
  · by_cases e : i = j
    · subst e; simp only [if_pos rfl]; exact p1
    · simp only [if_neg e]
      refine (h.P i hi).upd u ?_
      rintro (e2 | e2 | e2)
      · exact e (h.inj i j hi hj e2)
      · exact (h.gp i hi).1 e2.symm
      · exact nd _ (h.gp i hi).2.2 e2
  · have := congrArg List.length e
    simp at this
section
variable {w : World} {S T : Nat → Prop} {g : Nat} {k : Int} {n : Nat} {R : Int} {rd : Nat → Int} {md : Nat → Nat} {s : Nat → Int} {L : List (Int × Int × Int)}
def nX (k R : Int) (rd : Nat → Int) (md : Nat → Nat) (s : Nat → Int) (j : Nat) : Int := if k = 1 then dH R (rd j) (md j) else wordOf (stp (s j))
def nY (k R : Int) (rd : Nat → Int) (md : Nat → Nat) (s : Nat → Int) (j : Nat) : Int := if k = 1 then dL R (rd j) (md j) else wordOf (stp (stp (s j)))
def nE (k R : Int) (rd : Nat → Int) (md : Nat → Nat) (j : Nat) : Int := if k = 1 then dE R (rd j) (md j) else 0
def nRd (k R : Int) (rd : Nat → Int) (md : Nat → Nat) (j : Nat) : Nat → Int := if k = 1 then fun i => if i = j then dR R (rd j) (md j) else rd i else rd
def nMd (k R : Int) (rd : Nat → Int) (md : Nat → Nat) (j : Nat) : Nat → Nat := if k = 1 then fun i => if i = j then (dM R (rd j) (md j)).toNat else md i else md
def nS (k : Int) (s : Nat → Int) (j : Nat) : Nat → Int := if k = 1 then s else fun i => if i = j then stp (stp (s j)) else s i
theorem made_nn (R rd : Int) (N : Nat) : 0 ≤ made R rd (N : Int) := by unfold made; split <;> omega
theorem cg_draw (h : CG w S g k n R rd md s L) (j : Nat) (hj : j < n) (hb : (L.length + 1) * 24 ≤ 140737488355328) :
    Calls Try.prog 21 #[.pointer (some ⟨g, 0, none⟩), .int .i64 (j : Int)] w fun e w' => e = .returned (.tuple #[.agg #[.int .u64 (nX k R rd md s j), .int .u64 (nY k R rd md s j)], .int .i64 (nE k R rd md j)]) ∧ (∃ S', CG w' S' g k n R (nRd k R rd md j) (nMd k R rd md j) (nS k s j) (tL (nE k R rd md j) L ((j : Int), nX k R rd md s j, nY k R rd md s j)) ∧ More w S S') ∧ Upd S w w' := by
  obtain ⟨h0, ⟨rfl, B, c, sg, cap, p, vd, h, hS⟩ | ⟨rfl, B, sg, cap, m, vd, h, hS⟩⟩ := h
  · have e1 : nX 1 R rd md s j = dH R (rd j) (md j) := if_pos rfl
    have e2 : nY 1 R rd md s j = dL R (rd j) (md j) := if_pos rfl
    have e3 : nE 1 R rd md j = dE R (rd j) (md j) := if_pos rfl
    have e4 : nRd 1 R rd md j = fun i => if i = j then dR R (rd j) (md j) else rd i := if_pos rfl
    have e5 : nMd 1 R rd md j = fun i => if i = j then (dM R (rd j) (md j)).toNat else md i := if_pos rfl
    rw [e1, e2, e3, e4, e5]
    by_cases hm : made R (rd j) (md j : Int) = 65535
    · refine (gdraw_end g sg n cap j (p j) c R (rd j) (md j) vd w h.G hj h.n7 (h.A j hj) (h.P j hj) h.C hm).mono ?_
      rintro e w' ⟨rfl, b⟩
      unfold dH dL dE dR dM
      rw [if_pos hm, if_pos hm, if_pos hm, if_pos hm, if_pos hm]
      have f1 : (fun i => if i = j then rd j else rd i) = rd := by funext i; by_cases e : i = j <;> simp [e]
      have f2 : (fun i => if i = j then ((md j : Int)).toNat else md i) = md := by funext i; by_cases e : i = j <;> simp [e]
      rw [f1, f2, tL_no (by omega)]
      have u : Upd S w w' := Upd.of_below b
      refine ⟨rfl, ⟨S, ⟨fun b hb => Nat.lt_of_lt_of_le (h0 b hb) u.size, .inl ⟨rfl, B, c, sg, cap, p, vd, ?_, hS⟩⟩, fun b hb => .inl hb⟩, u⟩
      exact h.upd9 (S := fun _ => False) (Upd.of_below b) (fun _ _ => id)
    · refine (gdraw_any j h hj hm hb).mono ?_
      rintro e w' ⟨rfl, vd', h', hv, u⟩
      unfold dH dL dE dR dM
      rw [if_neg hm, if_neg hm, if_neg hm, if_neg hm, if_neg hm, tL_ok]
      have hnn := made_nn R (rd j) (md j)
      have f2 : (fun i => if i = j then made R (rd j) (md j : Int) + 1 else (md i : Int)) = fun i => (((if i = j then (made R (rd j) (md j : Int) + 1).toNat else md i) : Nat) : Int) := by
        funext i
        by_cases e : i = j
        · simp only [if_pos e]; omega
        · simp only [if_neg e]
      rw [f2] at h'
      refine ⟨rfl, ⟨fun b => S b ∨ (w.heap.size ≤ b ∧ b < w'.heap.size), ⟨fun b hb => hb.elim (fun hb => Nat.lt_of_lt_of_le (h0 b hb) u.size) (fun hb => hb.2), .inl ⟨rfl, B, c, sg, cap, p, vd', h', fun b hb => ?_⟩⟩, fun b hb => hb.imp id (fun hb => hb.1)⟩, u.mono (fun b _ hb => hS b ?_)⟩
      · rcases hb with hb | hb | hb | hb | hb
        · exact .inl (hS b (.inl hb))
        · exact .inl (hS b (.inr (.inl hb)))
        · exact .inl (hS b (.inr (.inr (.inl hb))))
        · exact .inl (hS b (.inr (.inr (.inr (.inl hb)))))
        · rcases hv with hv | ⟨b', hv, hl⟩
          · exact .inl (hS b (.inr (.inr (.inr (.inr (hv ▸ hb))))))
          · rw [hv] at hb; cases hb; exact .inr ⟨hl, (h'.D.lt b hv).2⟩
      · rcases hb with hb | hb | hb
        · exact .inr (.inr (.inr (.inl ⟨j, hj, hb⟩)))
        · exact .inl hb
        · exact .inr (.inr (.inr (.inr hb)))
  · have e1 : nX 2 R rd md s j = wordOf (stp (s j)) := if_neg (by decide)
    have e2 : nY 2 R rd md s j = wordOf (stp (stp (s j))) := if_neg (by decide)
    have e3 : nE 2 R rd md j = 0 := if_neg (by decide)
    have e6 : nS 2 s j = fun i => if i = j then stp (stp (s j)) else s i := if_neg (by decide)
    rw [e1, e2, e3, e6, tL_ok]
    refine (gxdraw_any j h hj hb).mono ?_
    rintro e w' ⟨rfl, vd', h', hv, u⟩
    refine ⟨rfl, ⟨fun b => S b ∨ (w.heap.size ≤ b ∧ b < w'.heap.size), ⟨fun b hb => hb.elim (fun hb => Nat.lt_of_lt_of_le (h0 b hb) u.size) (fun hb => hb.2), .inr ⟨rfl, B, sg, cap, m, vd', h', fun b hb => ?_⟩⟩, fun b hb => hb.imp id (fun hb => hb.1)⟩, u.mono (fun b _ hb => hS b ?_)⟩
    · rcases hb with hb | hb | hb | hb
      · exact .inl (hS b (.inl hb))
      · exact .inl (hS b (.inr (.inl hb)))
      · exact .inl (hS b (.inr (.inr (.inl hb))))
      · rcases hv with hv | ⟨b', hv, hl⟩
        · exact .inl (hS b (.inr (.inr (.inr (hv ▸ hb)))))
        · rw [hv] at hb; cases hb; exact .inr ⟨hl, (h'.D.lt b hv).2⟩
    · rcases hb with hb | hb | hb
      · exact .inr (.inr (.inl ⟨j, hj, hb⟩))
      · exact .inl hb
      · exact .inr (.inr (.inr hb))
theorem ra_draw (h : RA w T g k n R rd md s L) (hk : k = 1 ∨ k = 2) (j : Nat) (hj : j < n) (hb : (L.length + 1) * 24 ≤ 140737488355328) :
    Calls Try.prog 22 #[.pointer (some ⟨g, 0, none⟩), .int .i64 (j : Int)] w fun e w' => e = .returned (.tuple #[.agg #[.int .u64 (nX k R rd md s j), .int .u64 (nY k R rd md s j)], .int .i64 (nE k R rd md j)]) ∧ (∃ T', RA w' T' g k n R (nRd k R rd md j) (nMd k R rd md j) (nS k s j) (tL (nE k R rd md j) L ((j : Int), nX k R rd md s j, nY k R rd md s j)) ∧ More w T T') ∧ Upd T w w' := by
  obtain ⟨h0, B, pg, mg, cp, cm, vt, v, h, hT⟩ := h
  rcases hk with rfl | rfl
  · have e1 : nX 1 R rd md s j = dH R (rd j) (md j) := if_pos rfl
    have e2 : nY 1 R rd md s j = dL R (rd j) (md j) := if_pos rfl
    have e3 : nE 1 R rd md j = dE R (rd j) (md j) := if_pos rfl
    have e4 : nRd 1 R rd md j = fun i => if i = j then dR R (rd j) (md j) else rd i := if_pos rfl
    have e5 : nMd 1 R rd md j = fun i => if i = j then (dM R (rd j) (md j)).toNat else md i := if_pos rfl
    have e6 : nS 1 s j = s := if_pos rfl
    rw [e1, e2, e3, e4, e5, e6]
    refine (rgdraw_clock j h hj hb).mono ?_
    rintro e w' ⟨rfl, vt', v', h', hb', u⟩
    exact ⟨rfl, ⟨fun b => T b ∨ (w.heap.size ≤ b ∧ b < w'.heap.size), ⟨fun b hb => hb.elim (fun hb => Nat.lt_of_lt_of_le (h0 b hb) u.size) (fun hb => hb.2), B, pg, mg, cp, cm, vt', v', h', fun b hb => (hb' b hb).imp (hT b) (fun hl => ⟨hl, rgb_lt h' hb⟩)⟩, fun b hb => hb.imp id (fun hb => hb.1)⟩, u.mono (fun b _ hb => hT b hb)⟩
  · have e1 : nX 2 R rd md s j = wordOf (stp (s j)) := if_neg (by decide)
    have e2 : nY 2 R rd md s j = wordOf (stp (stp (s j))) := if_neg (by decide)
    have e3 : nE 2 R rd md j = 0 := if_neg (by decide)
    have e4 : nRd 2 R rd md j = rd := if_neg (by decide)
    have e5 : nMd 2 R rd md j = md := if_neg (by decide)
    have e6 : nS 2 s j = fun i => if i = j then stp (stp (s j)) else s i := if_neg (by decide)
    rw [e1, e2, e3, e4, e5, e6, tL_ok]
    refine (rgdraw_mixed j h hj hb).mono ?_
    rintro e w' ⟨rfl, vt', v', h', hb', u⟩
    exact ⟨rfl, ⟨fun b => T b ∨ (w.heap.size ≤ b ∧ b < w'.heap.size), ⟨fun b hb => hb.elim (fun hb => Nat.lt_of_lt_of_le (h0 b hb) u.size) (fun hb => hb.2), B, pg, mg, cp, cm, vt', v', h', fun b hb => (hb' b hb).imp (hT b) (fun hl => ⟨hl, rgb_lt h' hb⟩)⟩, fun b hb => hb.imp id (fun hb => hb.1)⟩, u.mono (fun b _ hb => hT b hb)⟩
theorem cg_bad (h : CG w S g k n R rd md s L) (i : Int) (hi : ¬ (0 ≤ i ∧ i < (n : Int))) :
    Calls Try.prog 21 #[.pointer (some ⟨g, 0, none⟩), .int .i64 i] w (fun e w' => e = .returned (.tuple #[.agg #[.int .u64 0, .int .u64 0], .int .i64 3]) ∧ Below w.heap.size w w') ∧
    Calls Try.prog 19 #[.pointer (some ⟨g, 0, none⟩), .int .i64 i] w (fun e w' => e = .returned (.int .i64 3) ∧ w' = w) := by
  obtain ⟨h0, ⟨rfl, B, c, sg, cap, p, vd, h, hS⟩ | ⟨rfl, B, sg, cap, m, vd, h, hS⟩⟩ := h
  · exact ⟨gdraw_bad i h.G.c0 h.G.lt h.G.hcap h.n7 hi, gwipe_bad i h.G.c0 h.G.hcap h.n7 hi⟩
  · exact ⟨gdraw_bad i h.G.c0 h.G.lt h.G.hcap h.n7 hi, gwipe_bad i h.G.c0 h.G.hcap h.n7 hi⟩
theorem ra_bad (h : RA w T g k n R rd md s L) (i : Int) (hi : ¬ (0 ≤ i ∧ i < (n : Int))) :
    Calls Try.prog 22 #[.pointer (some ⟨g, 0, none⟩), .int .i64 i] w (fun e w' => e = .returned (.tuple #[.agg #[.int .u64 0, .int .u64 0], .int .i64 3]) ∧ Below w.heap.size w w') ∧
    Calls Try.prog 20 #[.pointer (some ⟨g, 0, none⟩), .int .i64 i] w (fun e w' => e = .returned (.int .i64 3) ∧ w' = w) := by
  obtain ⟨h0, B, pg, mg, cp, cm, vt, v, h, hT⟩ := h
  exact ⟨rgdraw_bad i h hi, rgwipe_bad i h hi⟩
def wRd (k : Int) (rd : Nat → Int) (j : Nat) : Nat → Int := if k = 1 then fun i => if i = j then 0 else rd i else rd
def wMd (k : Int) (md : Nat → Nat) (j : Nat) : Nat → Nat := if k = 1 then fun i => if i = j then 0 else md i else md
theorem cg_wipe (h : CG w S g k n R rd md s L) (j : Nat) (hj : j < n) :
    Calls Try.prog 19 #[.pointer (some ⟨g, 0, none⟩), .int .i64 (j : Int)] w fun e w' => e = .returned (.int .i64 0) ∧ CG w' S g k n R (wRd k rd j) (wMd k md j) s L ∧ Upd S w w' := by
  obtain ⟨h0, ⟨rfl, B, c, sg, cap, p, vd, h, hS⟩ | ⟨rfl, B, sg, cap, m, vd, h, hS⟩⟩ := h
  · refine (gwipe_any j h hj).mono ?_
    rintro e w' ⟨rfl, h', u⟩
    have f2 : (fun i => if i = j then (0 : Int) else (md i : Int)) = fun i => ((wMd 1 md j i : Nat) : Int) := by
      funext i
      rw [wMd, if_pos rfl]
      by_cases e : i = j
      · simp only [if_pos e]; rfl
      · simp only [if_neg e]
    have f1 : (fun i => if i = j then (0 : Int) else rd i) = wRd 1 rd j := by rw [wRd, if_pos rfl]
    rw [f1, f2] at h'
    exact ⟨rfl, ⟨fun b hb => Nat.lt_of_lt_of_le (h0 b hb) u.size, .inl ⟨rfl, B, c, sg, cap, p, vd, h', hS⟩⟩, u.mono (fun b _ e => hS b (.inr (.inr (.inr (.inl ⟨j, hj, e⟩)))))⟩
  · refine (gmwipe_any j h.G hj h.n7).mono ?_
    rintro e w' ⟨rfl, rfl⟩
    exact ⟨rfl, ⟨h0, .inr ⟨rfl, B, sg, cap, m, vd, h, hS⟩⟩, Upd.refl _ _⟩
theorem ra_wipe (h : RA w T g k n R rd md s L) (hk : k = 1 ∨ k = 2) (j : Nat) (hj : j < n) :
    Calls Try.prog 20 #[.pointer (some ⟨g, 0, none⟩), .int .i64 (j : Int)] w fun e w' => e = .returned (.int .i64 0) ∧ RA w' T g k n R (wRd k rd j) (wMd k md j) s L ∧ Upd T w w' := by
  obtain ⟨h0, B, pg, mg, cp, cm, vt, v, h, hT⟩ := h
  rcases hk with rfl | rfl
  · refine (rgwipe_clock j h hj).mono ?_
    rintro e w' ⟨rfl, h', u⟩
    refine ⟨rfl, ⟨fun b hb => Nat.lt_of_lt_of_le (h0 b hb) u.size, B, pg, mg, cp, cm, vt, _, by rw [wRd, wMd, if_pos rfl, if_pos rfl]; exact h', fun b hb => hT b ?_⟩, u.mono (fun b _ e => hT b (.inr (.inl e)))⟩
    rcases hb with hb | hb | hb | hb | ⟨i, hi, hb⟩
    · exact .inl hb
    · exact .inr (.inl hb)
    · exact .inr (.inr (.inl hb))
    · exact .inr (.inr (.inr (.inl hb)))
    · by_cases e : i = j
      · simp only [if_pos e] at hb; cases hb
      · simp only [if_neg e] at hb; exact .inr (.inr (.inr (.inr ⟨i, hi, hb⟩)))
  · refine (rgwipe_mixed j h hj).mono ?_
    rintro e w' ⟨rfl, rfl⟩
    exact ⟨rfl, ⟨h0, B, pg, mg, cp, cm, vt, v, by rw [wRd, wMd, if_neg (by decide), if_neg (by decide)]; exact h, hT⟩, Upd.refl _ _⟩
end

end Go.Proofs.Ytilngncjbikkgaa
