import Derived.Test.YtpkcoejjclmocaaCj
namespace Go.Proofs.Ytpkcoejjclmocaa
open Go.RowKit Go.Maps
set_option linter.unusedVariables false
set_option linter.unusedSimpArgs false

theorem OwnY.drew {α : Type} {Y : Lay α} {B : Nat} {w : World} {v : Value} {l : List α} (h : OwnY Y B w v l) : OwnY Y B w.drew v l := World.ownsRow.drew h
/-- A box is a row of one. -/
theorem own_box {α : Type} {Y : Lay α} (K : Y.Ok) (B : Nat) (w : World) (x : α) (hB : B ≤ w.heap.size) : OwnY Y B (w.alloc (.cells (Y.cs x).toArray Y.T)) (.slice (some ⟨w.heap.size, 0, none⟩) 1 1) [x] := by
  have h := World.ownsRow_lit (e := Y.T) (size := Y.k) w (Y.cs x).toArray 1 hB (by unfold maxLen; omega) (by rw [List.size_toArray, K.len, Nat.one_mul])
  have e : fl Y [x] = (Y.cs x).toArray.toList := by simp [fl]
  unfold OwnY
  rw [e]
  exact h
theorem OwnY.rw0 {B : Nat} {w : World} {g n c : Nat} {x : Rw} (h : OwnY yR B w (.slice (some ⟨g, 0, none⟩) n c) [x]) : w.cell? ⟨g, 0, none⟩ = some (.int .i64 x.c) ∧ w.cell? ⟨g, 1, none⟩ = some (.int .i64 x.n) ∧ w.cell? ⟨g, 2, none⟩ = some (.int .i64 x.p) ∧ w.cell? ⟨g, 3, none⟩ = some (.bool x.d) ∧ w.cell? ⟨g, 4, none⟩ = some (.int .i64 x.r.1) ∧ w.cell? ⟨g, 5, none⟩ = some (.int .i64 x.r.2.1) ∧ w.cell? ⟨g, 6, none⟩ = some (.string x.r.2.2) := by
  have := h.rw (i := 0) rfl
  simpa using this
/-- The row of a place, as the document tells it. -/
def rowD (R : List Rs) (i : Nat) (d : Bool) (e : En) : Rw := ⟨e.c, e.n, (i : Int) + 1, d, if d then R.getD i zR else zR⟩
theorem rowD_eq (R : List Rs) (k i : Nat) (e : En) : rowD R i (decide (i < k)) e = rwA R k i e := by
  unfold rowD rwA
  by_cases h : i < k <;> simp [h]
set_option maxRecDepth 100000 in
set_option maxHeartbeats 1000000 in
theorem refrow_any (L : List En) (a : Option Addr) (c i : Nat) (d : Bool) (e : En) (w : World) (h : SlY yE w a L.length c L) (hf : ∀ e ∈ L, e.fits) (hl : L.length ≤ 256) (he : L[i]? = some e) :
    Calls Try.prog 31 #[.slice a L.length c, .int .i64 ((i : Int) + 1), .bool d] w fun r w' => r = .returned (rowD (rsL L) i d e).val ∧ Below w.heap.size w w' := by
  have hi := (List.getElem?_eq_some_iff.1 he).1
  have hmx := h.max
  have hcp := h.cap
  unfold maxLen at hmx
  obtain ⟨q, o, ea, hq, c0, c1, c2, c3, c4⟩ := h.en he
  subst ea
  have H := hide h
  have HF := hide hf
  have HR : Hid (∀ x, ((rsL L).take (i + 1))[i]? = some x → (rsL L).getD i zR = x) := by
    intro x hx
    rw [List.getElem?_take, if_pos (by omega)] at hx
    rw [List.getD_eq_getElem?_getD, hx]
    rfl
  have HRl : Hid (∃ x, ((rsL L).take (i + 1))[i]? = some x) := ⟨_, List.getElem?_eq_getElem (by rw [List.length_take, rsL_length]; omega)⟩
  clear h hf he c2 c3 c4
  have hqn : ¬ q = w.heap.size := by omega
  have hqn2 : ¬ q = w.heap.size + 1 := by omega
  have hi0 : (0 : Int) ≤ (i : Int) := by omega
  have hi1 : (i : Int) < (L.length : Int) := by omega
  have hi2 : (i : Int) ≤ (L.length : Int) := by omega
  have hw2 : IntKind.i64.wrap (i : Int) = (i : Int) := by rw [IntKind.wrap_i64]; omega
  have hw3 : (i : Int) + 1 - 1 = (i : Int) := by omega
  have hw1 : IntKind.i64.wrap ((i : Int) + 1 - 1) = (i : Int) := by rw [IntKind.wrap_i64]; omega
  cases d with
  | false =>
    go_enter Try.func31, Try.ntmps31
    go_wp2
    go_region_held3 (fun v' => v'.cell? ⟨q, o + i * 5, none⟩ = some (.int .i64 e.c) ∧ v'.cell? ⟨q, o + i * 5 + 1, none⟩ = some (.int .i64 e.n)) (first | go_keep | (exact ⟨by go_simp, by go_simp⟩) | go_simp) (fail)
    go_wp2
    refine bodyPost_ret (v := .agg #[.int .i64 e.c, .int .i64 e.n, .int .i64 ((i : Int) + 1), .bool false, .int .i64 0, .int .i64 0, .string ByteArray.empty]) (by simp [results, Try.results31, go_sem] <;> rfl) rfl ⟨rfl, ?_⟩
    exact (((Below.refl _ w).alloc (Nat.le_refl _) _).alloc (by simp) _).drew
  | true =>
    have bZ := (Below.refl w.heap.size w).alloc (Nat.le_refl _) (.cells #[.int .i64 0, .int .i64 0, .int .i64 0, .bool false, .int .i64 0, .int .i64 0, .string ByteArray.empty] 57)
    have bX := ((Below.refl w.heap.size w).alloc (Nat.le_refl _) (.cells #[.int .i64 0, .int .i64 0, .int .i64 0, .bool false, .int .i64 0, .int .i64 0, .string ByteArray.empty] 57)).alloc (by simp) (.cells #[.int .i64 e.c, .int .i64 e.n, .int .i64 ((i : Int) + 1), .bool true, .int .i64 0, .int .i64 0, .string ByteArray.empty] 57)
    have cr := refresults_any L _ c (i + 1) _ (H.out.later bX.drew) HF.out hl (by omega)
    rw [show (((i + 1 : Nat)) : Int) = (i : Int) + 1 by omega] at cr
    have O1 := hide ((own_box kR w.heap.size w zRw (Nat.le_refl _)).alloc (.cells #[.int .i64 e.c, .int .i64 e.n, .int .i64 ((i : Int) + 1), .bool true, .int .i64 0, .int .i64 0, .string ByteArray.empty] 57))
    have O2 := hide (own_box kR w.heap.size (w.alloc (.cells #[.int .i64 0, .int .i64 0, .int .i64 0, .bool false, .int .i64 0, .int .i64 0, .string ByteArray.empty] 57)) ⟨e.c, e.n, (i : Int) + 1, true, zR⟩ (by simp))
    have BX := hide bX
    clear bZ bX
    go_enter Try.func31, Try.ntmps31
    go_wp2
    go_region_held3 (fun v' => v'.cell? ⟨q, o + i * 5, none⟩ = some (.int .i64 e.c) ∧ v'.cell? ⟨q, o + i * 5 + 1, none⟩ = some (.int .i64 e.n)) (first | go_keep | (exact ⟨by go_simp, by go_simp⟩) | go_simp) (fail)
    go_wp2_with fail
    refine cr.mono ?_
    rintro r w1 ⟨vr, rfl, o1, b1⟩
    obtain ⟨x, hx⟩ := HRl.out
    have hrx := HR.out x hx
    obtain ⟨av, cv, rfl, hv1, hv2, hv3, hv4⟩ := o1.form
    have hlen : ((rsL L).take (i + 1)).length = i + 1 := by rw [List.length_take, rsL_length]; omega
    obtain ⟨b, rfl⟩ : ∃ b, av = some ⟨b, 0, none⟩ := by
      cases av with
      | none => have := (hv3 rfl).1; rw [this] at hlen; simp at hlen
      | some z => obtain ⟨b, rfl, _⟩ := hv4 z rfl; exact ⟨b, rfl⟩
    obtain ⟨b', eb, hb1, hb2⟩ := hv4 _ rfl
    cases eb
    obtain ⟨r0, r1, r2⟩ := o1.cell i x hx
    obtain ⟨s0, s1, s2⟩ := x
    dsimp only at r0 r1 r2
    rw [hlen] at hv1 ⊢
    unfold maxLen at hv2
    have hE : Hid ((rowD (rsL L) i true e).val = .agg #[.int .i64 e.c, .int .i64 e.n, .int .i64 ((i : Int) + 1), .bool true, .int .i64 s0, .int .i64 s1, .string s2]) := by
      show _ = _
      unfold rowD
      rw [hrx]
      rfl
    have P1 : Hid (OwnY yR w.heap.size w1 (.slice (some ⟨w.heap.size, 0, none⟩) 1 1) [zRw]) := O1.out.drew.grow b1
    have P2 : Hid (OwnY yR w.heap.size w1 (.slice (some ⟨w.heap.size + 1, 0, none⟩) 1 1) [⟨e.c, e.n, (i : Int) + 1, true, zR⟩]) := by
      have O3 := O2.out
      rw [World.size_alloc] at O3
      exact O3.drew.grow b1
    have bb1 := hide (BX.out.drew.trans (b1.mono (by simp; omega)))
    have hz1 := b1.size
    have hz1' : w.heap.size + 1 + 1 ≤ w1.heap.size := by simpa using hz1
    clear o1 b1 hv3 hv4 hrx hx cr O1 O2 BX hz1 hlen
    go_wp2_with (first
      | (refine storeY kR _ rfl 43 (.tmp 33) (.tmp 32) rfl w.heap.size (w.heap.size + 1) 1 1 [⟨e.c, e.n, (i : Int) + 1, true, zR⟩] 0 4 _ ⟨e.c, e.n, (i : Int) + 1, true, (s0, s1, s2)⟩ _ rfl rfl rfl (by kernel_rfl) (by exact (by decide : 7 ≤ 7)) rfl P2.out ?_; intro w2 o2 u2 z2; obtain ⟨y0, y1, y2, y3, y4, y5, y6⟩ := OwnY.rw0 o2; dsimp only at y0 y1 y2 y3 y4 y5 y6; have P3 := hide (P1.out.upd1 u2 (fun g e => by cases e; show ¬ w.heap.size = w.heap.size + 1; omega)); clear o2)
      | (refine storeY kR _ rfl 57 (.tmp 6) (.tmp 34) rfl w.heap.size w.heap.size 1 1 [zRw] 0 0 _ ⟨e.c, e.n, (i : Int) + 1, true, (s0, s1, s2)⟩ _ rfl rfl rfl (by kernel_rfl) (by exact (by decide : 7 ≤ 7)) rfl P3.out ?_; intro w3 o3 u3 z3; obtain ⟨x0, x1, x2, x3, x4, x5, x6⟩ := OwnY.rw0 o3; dsimp only at x0 x1 x2 x3 x4 x5 x6; clear o3)
      | go_in)
    refine bodyPost_ret (v := .agg #[.int .i64 e.c, .int .i64 e.n, .int .i64 ((i : Int) + 1), .bool true, .int .i64 s0, .int .i64 s1, .string s2]) (by simp [results, Try.results31, go_sem, *] <;> rfl) rfl ⟨by rw [hE.out], ?_⟩
    exact bb1.out.trans ((u2.below (by omega) (fun k e => by subst e; omega)).trans (u3.below (by omega) (fun k e => by subst e; omega)))

end Go.Proofs.Ytpkcoejjclmocaa
