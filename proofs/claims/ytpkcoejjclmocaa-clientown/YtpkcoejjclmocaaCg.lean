import Derived.Test.YtpkcoejjclmocaaCf
namespace Go.Proofs.Ytpkcoejjclmocaa
open Go.RowKit Go.Maps
set_option linter.unusedVariables false
set_option linter.unusedSimpArgs false

/-- What a request is to a log. -/
def vd (x : Option Rw) (n : Int) : Int × Rs := match x with
  | none => (1, zR)
  | some r => if r.n < n then (1, zR) else if n < r.n then (4, zR) else if r.d then (3, r.r) else (2, zR)
/-- The error of Ask. -/
def akE (L : List En) (k c n : Int) : Int := if ckB L 0 k ≠ 0 then ckB L 0 k else ckR c n
def akV (L : List En) (k c n : Int) : Int × Rs := if akE L k c n ≠ 0 then (0, zR) else vd (lo (rws L k.toNat) c) n
theorem ckR_zero {c n : Int} (h : ckR c n = 0) : 0 ≤ c ∧ c < 16 ∧ 1 ≤ n := by
  unfold ckR at h
  by_cases h1 : c < 0 ∨ 16 ≤ c
  · simp [h1] at h
  · by_cases h2 : n < 1
    · simp [h1, h2] at h
    · omega
theorem held3x {w2 : World} {p0 p1 p2 : Addr} {u0 u1 u2 : Value} {cs : Array Value} {T : TypeId} {i : Nat} {x : Value} (h : cs[i]? = some x) : ((((w2.setCell p0 u0).setCell p1 u1).setCell p2 u2).alloc (.cells cs T)).drew.cell? ⟨w2.heap.size, i, none⟩ = some x := by
  show World.cell? (World.alloc _ _) _ = _
  rw [World.cell?_alloc_at _ _ _ _ (by simp [World.setCell])]
  exact h
theorem box3 {w w1 : World} {x0 x1 x2 : Value} {T : TypeId} {B : Nat} (hb : Below B (w.alloc (.cells #[x0, x1, x2] T)) w1) (hB : w.heap.size < B) : (w1.cell? ⟨w.heap.size, 0, none⟩ = some x0 ∧ w1.cell? ⟨w.heap.size, 1, none⟩ = some x1 ∧ w1.cell? ⟨w.heap.size, 2, none⟩ = some x2) ∧ w1.frozen? ⟨w.heap.size, 0, none⟩ = false ∧ w1.frozen? ⟨w.heap.size, 1, none⟩ = false ∧ w1.frozen? ⟨w.heap.size, 2, none⟩ = false :=
  ⟨⟨(hb.cell (p := ⟨w.heap.size, 0, none⟩) hB).trans (by simp), (hb.cell (p := ⟨w.heap.size, 1, none⟩) hB).trans (by simp), (hb.cell (p := ⟨w.heap.size, 2, none⟩) hB).trans (by simp)⟩, (hb.frozen (p := ⟨w.heap.size, 0, none⟩) hB).trans (by simp), (hb.frozen (p := ⟨w.heap.size, 1, none⟩) hB).trans (by simp), (hb.frozen (p := ⟨w.heap.size, 2, none⟩) hB).trans (by simp)⟩
set_option maxRecDepth 100000 in
set_option maxHeartbeats 2000000 in
theorem ask_any (L : List En) (a : Option Addr) (c : Nat) (k C N : Int) (w : World) (h : SlY yE w a L.length c L) (hf : ∀ e ∈ L, e.fits) :
    Calls Try.prog 16 #[.slice a L.length c, .int .i64 k, .int .i64 C, .int .i64 N] w fun e w' => e = .returned (.tuple #[.int .i64 (akV L k C N).1, rV (akV L k C N).2, .int .i64 (akE L k C N)]) ∧ Below w.heap.size w w' := by
  have bB := (Below.refl w.heap.size w).alloc (Nat.le_refl _) (.cells #[.int .i64 0, .int .i64 0, .string ByteArray.empty] 43)
  have ck := check2_any L a c 0 k _ (h.later bB) hf
  have cr := fun W => req_any C N W
  have hmx := h.max
  have hcp := h.cap
  unfold maxLen at hmx
  have H := hide (h.later bB)
  have HF := hide hf
  clear h hf
  by_cases hx : ckB L 0 k = 0
  · obtain ⟨h1, _, h3, h4⟩ := ckB_zero hx
    have hl : L.length ≤ 256 := by have := (lg_zero h1).1; omega
    by_cases hy : ckR C N = 0
    · obtain ⟨y1, y2, y3⟩ := ckR_zero hy
      have hE : Hid (akE L k C N = 0) := by show _ = _; simp [akE, hx, hy]
      have hV : Hid (akV L k C N = vd (lo (rws L k.toNat) C) N) := by show _ = _; unfold akV; rw [hE.out]; simp
      rw [hx] at ck
      rw [hy] at cr
      obtain ⟨n, rfl⟩ : ∃ n : Nat, k = (n : Int) := ⟨k.toNat, by omega⟩
      rw [Int.toNat_natCast] at hV
      have hn : n ≤ L.length := by omega
      clear hx hy h1 h3 h4
      cases hlo : lo (rws L n) C with
      | none =>
        have hVV : Hid (akV L (n : Int) C N = (1, zR)) := by show _ = _; rw [hV.out, hlo]; rfl
        clear hV
        go_enter Try.func16, Try.ntmps16
        go_wp2_with (first
          | (go_at_call 27; refine ck.mono ?_; rintro e w1 ⟨rfl, b1⟩; have hz := b1.size; have cl := last_any L a c n w1 (H.out.later b1) HF.out hl hn)
          | (go_at_call 38; refine (cr _).mono ?_; rintro e w5 ⟨rfl, rfl⟩)
          | (go_at_call 28; refine cl.mono ?_; rintro e w2 ⟨rfl, m2, b2⟩; clear cl; have b3 := b1.trans (b2.mono hz); obtain ⟨⟨q0, q1, q2⟩, p0, p1, p2⟩ := box3 b3 (by simp); have bb1 : Below w.heap.size w w2 := bB.trans (b3.mono (by simp)); have hz2 := b3.size; simp only [World.size_alloc] at hz2; have hlk := m2.look true Try.underlying76 (zrow _) (s := C) (wf_i64 (by omega)); unfold lF at hlk; rw [hlo] at hlk; simp only [Option.map_none, Option.getD_none, Option.isSome_none, if_true, zRw, Rw.val, zR] at hlk; have hzz : w.heap.size < w2.heap.size := (by omega); have A := (fun ob => (Below.refl w2.heap.size w2).alloc (Nat.le_refl _) ob); have q0 := (fun ob => ((A ob).cell (p := ⟨w.heap.size, 0, none⟩) hzz).trans q0); have q1 := (fun ob => ((A ob).cell (p := ⟨w.heap.size, 1, none⟩) hzz).trans q1); have q2 := (fun ob => ((A ob).cell (p := ⟨w.heap.size, 2, none⟩) hzz).trans q2); have p0 := (fun ob => ((A ob).frozen (p := ⟨w.heap.size, 0, none⟩) hzz).trans p0); have p1 := (fun ob => ((A ob).frozen (p := ⟨w.heap.size, 1, none⟩) hzz).trans p1); have p2 := (fun ob => ((A ob).frozen (p := ⟨w.heap.size, 2, none⟩) hzz).trans p2); clear m2 b2 b3 b1 hz A))
        refine bodyPost_ret (v := .tuple #[.int .i64 1, rV zR, .int .i64 0]) (by simp [results, Try.results16, go_sem, rV, zR, *] <;> rfl) rfl ⟨by rw [hVV.out, hE.out], ?_⟩
        exact ((((bb1.setCell (p := ⟨w.heap.size, 0, none⟩) (Nat.le_refl _) _).setCell (p := ⟨w.heap.size, 1, none⟩) (Nat.le_refl _) _).setCell (p := ⟨w.heap.size, 2, none⟩) (Nat.le_refl _) _).alloc (by simp [World.setCell]; omega) _)
      | some r =>
        obtain ⟨C1, N1, P1, d1, s0, s1, s2⟩ := r
        by_cases hn1 : N1 < N
        · have hVV : Hid (akV L (n : Int) C N = (1, zR)) := by show _ = _; rw [hV.out, hlo]; simp [vd, hn1]
          clear hV
          go_enter Try.func16, Try.ntmps16
          go_wp2_with (first
            | (go_at_call 27; refine ck.mono ?_; rintro e w1 ⟨rfl, b1⟩; have hz := b1.size; have cl := last_any L a c n w1 (H.out.later b1) HF.out hl hn)
            | (go_at_call 38; refine (cr _).mono ?_; rintro e w5 ⟨rfl, rfl⟩)
            | (go_at_call 28; refine cl.mono ?_; rintro e w2 ⟨rfl, m2, b2⟩; clear cl; have b3 := b1.trans (b2.mono hz); obtain ⟨⟨q0, q1, q2⟩, p0, p1, p2⟩ := box3 b3 (by simp); have bb1 : Below w.heap.size w w2 := bB.trans (b3.mono (by simp)); have hz2 := b3.size; simp only [World.size_alloc] at hz2; have hlk := m2.look true Try.underlying76 (zrow _) (s := C) (wf_i64 (by omega)); unfold lF at hlk; rw [hlo] at hlk; simp only [Option.map_some, Option.getD_some, Option.isSome_some, if_true, Rw.val] at hlk; have hzz : w.heap.size < w2.heap.size := (by omega); have A := (fun ob => (Below.refl w2.heap.size w2).alloc (Nat.le_refl _) ob); have q0 := (fun ob => ((A ob).cell (p := ⟨w.heap.size, 0, none⟩) hzz).trans q0); have q1 := (fun ob => ((A ob).cell (p := ⟨w.heap.size, 1, none⟩) hzz).trans q1); have q2 := (fun ob => ((A ob).cell (p := ⟨w.heap.size, 2, none⟩) hzz).trans q2); have p0 := (fun ob => ((A ob).frozen (p := ⟨w.heap.size, 0, none⟩) hzz).trans p0); have p1 := (fun ob => ((A ob).frozen (p := ⟨w.heap.size, 1, none⟩) hzz).trans p1); have p2 := (fun ob => ((A ob).frozen (p := ⟨w.heap.size, 2, none⟩) hzz).trans p2); clear m2 b2 b3 b1 hz A))
          refine bodyPost_ret (v := .tuple #[.int .i64 1, rV zR, .int .i64 0]) (by simp [results, Try.results16, go_sem, rV, zR, *] <;> rfl) rfl ⟨by rw [hVV.out, hE.out], ?_⟩
          exact ((((bb1.setCell (p := ⟨w.heap.size, 0, none⟩) (Nat.le_refl _) _).setCell (p := ⟨w.heap.size, 1, none⟩) (Nat.le_refl _) _).setCell (p := ⟨w.heap.size, 2, none⟩) (Nat.le_refl _) _).alloc (by simp [World.setCell]; omega) _)
        · by_cases hn2 : N < N1
          · have hVV : Hid (akV L (n : Int) C N = (4, zR)) := by show _ = _; rw [hV.out, hlo]; simp [vd, hn1, hn2]
            clear hV
            go_enter Try.func16, Try.ntmps16
            go_wp2_with (first
              | (go_at_call 27; refine ck.mono ?_; rintro e w1 ⟨rfl, b1⟩; have hz := b1.size; have cl := last_any L a c n w1 (H.out.later b1) HF.out hl hn)
              | (go_at_call 38; refine (cr _).mono ?_; rintro e w5 ⟨rfl, rfl⟩)
              | (go_at_call 28; refine cl.mono ?_; rintro e w2 ⟨rfl, m2, b2⟩; clear cl; have b3 := b1.trans (b2.mono hz); obtain ⟨⟨q0, q1, q2⟩, p0, p1, p2⟩ := box3 b3 (by simp); have bb1 : Below w.heap.size w w2 := bB.trans (b3.mono (by simp)); have hz2 := b3.size; simp only [World.size_alloc] at hz2; have hlk := m2.look true Try.underlying76 (zrow _) (s := C) (wf_i64 (by omega)); unfold lF at hlk; rw [hlo] at hlk; simp only [Option.map_some, Option.getD_some, Option.isSome_some, if_true, Rw.val] at hlk; have hzz : w.heap.size < w2.heap.size := (by omega); have A := (fun ob => (Below.refl w2.heap.size w2).alloc (Nat.le_refl _) ob); have q0 := (fun ob => ((A ob).cell (p := ⟨w.heap.size, 0, none⟩) hzz).trans q0); have q1 := (fun ob => ((A ob).cell (p := ⟨w.heap.size, 1, none⟩) hzz).trans q1); have q2 := (fun ob => ((A ob).cell (p := ⟨w.heap.size, 2, none⟩) hzz).trans q2); have p0 := (fun ob => ((A ob).frozen (p := ⟨w.heap.size, 0, none⟩) hzz).trans p0); have p1 := (fun ob => ((A ob).frozen (p := ⟨w.heap.size, 1, none⟩) hzz).trans p1); have p2 := (fun ob => ((A ob).frozen (p := ⟨w.heap.size, 2, none⟩) hzz).trans p2); clear m2 b2 b3 b1 hz A))
            refine bodyPost_ret (v := .tuple #[.int .i64 4, rV zR, .int .i64 0]) (by simp [results, Try.results16, go_sem, rV, zR, *] <;> rfl) rfl ⟨by rw [hVV.out, hE.out], ?_⟩
            exact ((((bb1.setCell (p := ⟨w.heap.size, 0, none⟩) (Nat.le_refl _) _).setCell (p := ⟨w.heap.size, 1, none⟩) (Nat.le_refl _) _).setCell (p := ⟨w.heap.size, 2, none⟩) (Nat.le_refl _) _).alloc (by simp [World.setCell]; omega) _)
          · cases d1 with
            | true =>
              have hVV : Hid (akV L (n : Int) C N = (3, (s0, s1, s2))) := by show _ = _; rw [hV.out, hlo]; simp [vd, hn1, hn2]
              clear hV
              go_enter Try.func16, Try.ntmps16
              go_wp2_with (first
                | (go_at_call 27; refine ck.mono ?_; rintro e w1 ⟨rfl, b1⟩; have hz := b1.size; have cl := last_any L a c n w1 (H.out.later b1) HF.out hl hn)
                | (go_at_call 38; refine (cr _).mono ?_; rintro e w5 ⟨rfl, rfl⟩)
                | (go_at_call 28; refine cl.mono ?_; rintro e w2 ⟨rfl, m2, b2⟩; clear cl; have b3 := b1.trans (b2.mono hz); obtain ⟨⟨q0, q1, q2⟩, p0, p1, p2⟩ := box3 b3 (by simp); have bb1 : Below w.heap.size w w2 := bB.trans (b3.mono (by simp)); have hz2 := b3.size; simp only [World.size_alloc] at hz2; have hlk := m2.look true Try.underlying76 (zrow _) (s := C) (wf_i64 (by omega)); unfold lF at hlk; rw [hlo] at hlk; simp only [Option.map_some, Option.getD_some, Option.isSome_some, if_true, Rw.val] at hlk; have hzz : w.heap.size < w2.heap.size := (by omega); have A := (fun ob => (Below.refl w2.heap.size w2).alloc (Nat.le_refl _) ob); have q0 := (fun ob => ((A ob).cell (p := ⟨w.heap.size, 0, none⟩) hzz).trans q0); have q1 := (fun ob => ((A ob).cell (p := ⟨w.heap.size, 1, none⟩) hzz).trans q1); have q2 := (fun ob => ((A ob).cell (p := ⟨w.heap.size, 2, none⟩) hzz).trans q2); have p0 := (fun ob => ((A ob).frozen (p := ⟨w.heap.size, 0, none⟩) hzz).trans p0); have p1 := (fun ob => ((A ob).frozen (p := ⟨w.heap.size, 1, none⟩) hzz).trans p1); have p2 := (fun ob => ((A ob).frozen (p := ⟨w.heap.size, 2, none⟩) hzz).trans p2); clear m2 b2 b3 b1 hz A))
              have k4 : (w2.alloc (.cells #[.int .i64 C1, .int .i64 N1, .int .i64 P1, .bool true, .int .i64 s0, .int .i64 s1, .string s2] 57)).cell? ⟨w2.heap.size, 4, none⟩ = some (.int .i64 s0) := by simp
              have k5 : (w2.alloc (.cells #[.int .i64 C1, .int .i64 N1, .int .i64 P1, .bool true, .int .i64 s0, .int .i64 s1, .string s2] 57)).cell? ⟨w2.heap.size, 5, none⟩ = some (.int .i64 s1) := by simp
              have k6 : (w2.alloc (.cells #[.int .i64 C1, .int .i64 N1, .int .i64 P1, .bool true, .int .i64 s0, .int .i64 s1, .string s2] 57)).cell? ⟨w2.heap.size, 6, none⟩ = some (.string s2) := by simp
              have bbW : Below w.heap.size w (w2.alloc (.cells #[.int .i64 C1, .int .i64 N1, .int .i64 P1, .bool true, .int .i64 s0, .int .i64 s1, .string s2] 57)) := bb1.alloc (by omega) _
              have q0 := q0 (.cells #[.int .i64 C1, .int .i64 N1, .int .i64 P1, .bool true, .int .i64 s0, .int .i64 s1, .string s2] 57)
              have q1 := q1 (.cells #[.int .i64 C1, .int .i64 N1, .int .i64 P1, .bool true, .int .i64 s0, .int .i64 s1, .string s2] 57)
              have q2 := q2 (.cells #[.int .i64 C1, .int .i64 N1, .int .i64 P1, .bool true, .int .i64 s0, .int .i64 s1, .string s2] 57)
              have p0 := p0 (.cells #[.int .i64 C1, .int .i64 N1, .int .i64 P1, .bool true, .int .i64 s0, .int .i64 s1, .string s2] 57)
              have p1 := p1 (.cells #[.int .i64 C1, .int .i64 N1, .int .i64 P1, .bool true, .int .i64 s0, .int .i64 s1, .string s2] 57)
              have p2 := p2 (.cells #[.int .i64 C1, .int .i64 N1, .int .i64 P1, .bool true, .int .i64 s0, .int .i64 s1, .string s2] 57)
              have hne : w.heap.size ≠ w2.heap.size := by omega
              have hne2 : w2.heap.size ≠ w.heap.size := by omega
              clear hlk
              generalize (w2.alloc (.cells #[.int .i64 C1, .int .i64 N1, .int .i64 P1, .bool true, .int .i64 s0, .int .i64 s1, .string s2] 57)) = W at *
              generalize w2.heap.size = g7 at *
              go_region_held3 (fun v' => v'.cell? ⟨g7, 4, none⟩ = some (.int .i64 s0) ∧ v'.cell? ⟨g7, 5, none⟩ = some (.int .i64 s1) ∧ v'.cell? ⟨g7, 6, none⟩ = some (.string s2)) (first | go_keep | (exact ⟨by go_simp, by go_simp, by go_simp⟩) | go_simp) (fail)
              go_wp2
              refine bodyPost_ret (v := .tuple #[.int .i64 3, rV (s0, s1, s2), .int .i64 0]) (by simp [results, Try.results16, go_sem, rV, zR, *] <;> rfl) rfl ⟨by rw [hVV.out, hE.out], ?_⟩
              exact (((bbW.drew).setCell (p := ⟨w.heap.size, 0, none⟩) (Nat.le_refl _) _).setCell (p := ⟨w.heap.size, 1, none⟩) (Nat.le_refl _) _).setCell (p := ⟨w.heap.size, 2, none⟩) (Nat.le_refl _) _
            | false =>
              have hVV : Hid (akV L (n : Int) C N = (2, zR)) := by show _ = _; rw [hV.out, hlo]; simp [vd, hn1, hn2]
              clear hV
              go_enter Try.func16, Try.ntmps16
              go_wp2_with (first
                | (go_at_call 27; refine ck.mono ?_; rintro e w1 ⟨rfl, b1⟩; have hz := b1.size; have cl := last_any L a c n w1 (H.out.later b1) HF.out hl hn)
                | (go_at_call 38; refine (cr _).mono ?_; rintro e w5 ⟨rfl, rfl⟩)
                | (go_at_call 28; refine cl.mono ?_; rintro e w2 ⟨rfl, m2, b2⟩; clear cl; have b3 := b1.trans (b2.mono hz); obtain ⟨⟨q0, q1, q2⟩, p0, p1, p2⟩ := box3 b3 (by simp); have bb1 : Below w.heap.size w w2 := bB.trans (b3.mono (by simp)); have hz2 := b3.size; simp only [World.size_alloc] at hz2; have hlk := m2.look true Try.underlying76 (zrow _) (s := C) (wf_i64 (by omega)); unfold lF at hlk; rw [hlo] at hlk; simp only [Option.map_some, Option.getD_some, Option.isSome_some, if_true, Rw.val] at hlk; have hzz : w.heap.size < w2.heap.size := (by omega); have A := (fun ob => (Below.refl w2.heap.size w2).alloc (Nat.le_refl _) ob); have q0 := (fun ob => ((A ob).cell (p := ⟨w.heap.size, 0, none⟩) hzz).trans q0); have q1 := (fun ob => ((A ob).cell (p := ⟨w.heap.size, 1, none⟩) hzz).trans q1); have q2 := (fun ob => ((A ob).cell (p := ⟨w.heap.size, 2, none⟩) hzz).trans q2); have p0 := (fun ob => ((A ob).frozen (p := ⟨w.heap.size, 0, none⟩) hzz).trans p0); have p1 := (fun ob => ((A ob).frozen (p := ⟨w.heap.size, 1, none⟩) hzz).trans p1); have p2 := (fun ob => ((A ob).frozen (p := ⟨w.heap.size, 2, none⟩) hzz).trans p2); clear m2 b2 b3 b1 hz A))
              refine bodyPost_ret (v := .tuple #[.int .i64 2, rV zR, .int .i64 0]) (by simp [results, Try.results16, go_sem, rV, zR, *] <;> rfl) rfl ⟨by rw [hVV.out, hE.out], ?_⟩
              exact ((((bb1.setCell (p := ⟨w.heap.size, 0, none⟩) (Nat.le_refl _) _).setCell (p := ⟨w.heap.size, 1, none⟩) (Nat.le_refl _) _).setCell (p := ⟨w.heap.size, 2, none⟩) (Nat.le_refl _) _).alloc (by simp [World.setCell]; omega) _)
    · have hE : Hid (akE L k C N = ckR C N) := by show _ = _; simp [akE, hx]
      have hV : Hid (akV L k C N = (0, zR)) := by show _ = _; unfold akV; rw [hE.out]; simp [hy]
      rw [hx] at ck
      generalize ckR C N = x at *
      clear hx h1 h3 h4
      go_enter Try.func16, Try.ntmps16
      go_wp2_with (first
        | (go_at_call 27; refine ck.mono ?_; rintro e w1 ⟨rfl, b1⟩; have hz := b1.size; obtain ⟨⟨q0, q1, q2⟩, p0, p1, p2⟩ := box3 b1 (by simp); have bb1 : Below w.heap.size w w1 := bB.trans (b1.mono (by simp)))
        | (go_at_call 38; refine (cr _).mono ?_; rintro e w2 ⟨rfl, rfl⟩))
      refine bodyPost_ret (v := .tuple #[.int .i64 0, rV zR, .int .i64 x]) (by simp [results, Try.results16, go_sem, rV, zR, *] <;> rfl) rfl ⟨by rw [hV.out, hE.out], ?_⟩
      exact ((bb1.setCell (p := ⟨w.heap.size, 0, none⟩) (Nat.le_refl _) _).setCell (p := ⟨w.heap.size, 1, none⟩) (Nat.le_refl _) _).setCell (p := ⟨w.heap.size, 2, none⟩) (Nat.le_refl _) _
  · have hE : Hid (akE L k C N = ckB L 0 k) := by show _ = _; simp [akE, hx]
    have hV : Hid (akV L k C N = (0, zR)) := by show _ = _; unfold akV; rw [hE.out]; simp [hx]
    generalize ckB L 0 k = x at *
    go_enter Try.func16, Try.ntmps16
    go_wp2_with (go_at_call 27; refine ck.mono ?_; rintro e w1 ⟨rfl, b1⟩; have hz := b1.size; obtain ⟨⟨q0, q1, q2⟩, p0, p1, p2⟩ := box3 b1 (by simp); have bb1 : Below w.heap.size w w1 := bB.trans (b1.mono (by simp)))
    refine bodyPost_ret (v := .tuple #[.int .i64 0, rV zR, .int .i64 x]) (by simp [results, Try.results16, go_sem, rV, zR, *] <;> rfl) rfl ⟨by rw [hV.out, hE.out], ?_⟩
    exact ((bb1.setCell (p := ⟨w.heap.size, 0, none⟩) (Nat.le_refl _) _).setCell (p := ⟨w.heap.size, 1, none⟩) (Nat.le_refl _) _).setCell (p := ⟨w.heap.size, 2, none⟩) (Nat.le_refl _) _

end Go.Proofs.Ytpkcoejjclmocaa
