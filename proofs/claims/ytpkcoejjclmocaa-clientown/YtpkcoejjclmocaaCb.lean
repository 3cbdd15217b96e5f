import Derived.Test.YtpkcoejjclmocaaCa
namespace Go.Proofs.Ytpkcoejjclmocaa
open Go.RowKit Go.Maps
set_option linter.unusedVariables false
set_option linter.unusedSimpArgs false

theorem SlY.en {w : World} {a : Option Addr} {n c : Nat} {L : List En} (h : SlY yE w a n c L) {j : Nat} {e : En} (he : L[j]? = some e) : ∃ q o, a = some ⟨q, o, none⟩ ∧ q < w.heap.size ∧ w.cell? ⟨q, o + j * 5, none⟩ = some (.int .i64 e.c) ∧ w.cell? ⟨q, o + j * 5 + 1, none⟩ = some (.int .i64 e.n) ∧ w.cell? ⟨q, o + j * 5 + 2, none⟩ = some (.int .i64 e.o.k) ∧ w.cell? ⟨q, o + j * 5 + 3, none⟩ = some (.int .i64 e.o.s) ∧ w.cell? ⟨q, o + j * 5 + 4, none⟩ = some (.string e.o.v) := by
  obtain ⟨q, o, ea, hq, hl⟩ := h.place (by rintro rfl; simp at he)
  exact ⟨q, o, ea, hq, hl j e he 0 _ rfl, hl j e he 1 _ rfl, hl j e he 2 _ rfl, hl j e he 3 _ rfl, hl j e he 4 _ rfl⟩
theorem box5 {w w1 : World} {x0 x1 x2 x3 x4 : Value} {T : TypeId} {B : Nat} (hb : Below B (w.alloc (.cells #[x0, x1, x2, x3, x4] T)) w1) (hB : w.heap.size < B) : w1.cell? ⟨w.heap.size, 0, none⟩ = some x0 ∧ w1.cell? ⟨w.heap.size, 1, none⟩ = some x1 ∧ w1.cell? ⟨w.heap.size, 2, none⟩ = some x2 ∧ w1.cell? ⟨w.heap.size, 3, none⟩ = some x3 ∧ w1.cell? ⟨w.heap.size, 4, none⟩ = some x4 :=
  ⟨(hb.cell (p := ⟨w.heap.size, 0, none⟩) hB).trans (by simp), (hb.cell (p := ⟨w.heap.size, 1, none⟩) hB).trans (by simp), (hb.cell (p := ⟨w.heap.size, 2, none⟩) hB).trans (by simp), (hb.cell (p := ⟨w.heap.size, 3, none⟩) hB).trans (by simp), (hb.cell (p := ⟨w.heap.size, 4, none⟩) hB).trans (by simp)⟩
theorem ret_int {k : IntKind} {a b : Int} (h : a = b) : Ending.returned (.int k a) = .returned (.int k b) := by rw [h]

theorem req_any (c n : Int) (w : World) : Calls Try.prog 38 #[.int .i64 c, .int .i64 n] w fun e w' => e = .returned (.int .i64 (ckR c n)) ∧ w' = w := by
  by_cases h1 : c < 0
  · go_enter Try.func38, Try.ntmps38
    go_wp2
    go_ret
    exact ⟨ret_int (by simp [ckR, h1]), rfl⟩
  · by_cases h2 : 16 ≤ c
    · go_enter Try.func38, Try.ntmps38
      go_wp2
      go_ret
      exact ⟨ret_int (by simp [ckR, h2]), rfl⟩
    · by_cases h3 : n < 1
      · go_enter Try.func38, Try.ntmps38
        go_wp2
        go_ret
        exact ⟨ret_int (by simp [ckR, h1, h2, h3]), rfl⟩
      · go_enter Try.func38, Try.ntmps38
        go_wp2
        go_ret
        exact ⟨ret_int (by unfold ckR; rw [if_neg (by omega), if_neg (by omega)]), rfl⟩

/-- The greatest numbers, as the map has them. -/
def gF (L : List En) (s : Int) : Option Value := if gm L s = 0 then none else some (.int .i64 (gm L s))
theorem gF_getD (L : List En) (s : Int) : (gF L s).getD (.int .i64 0) = .int .i64 (gm L s) := by
  unfold gF
  split
  · rename_i h; rw [h]; rfl
  · rfl
theorem gF_snoc {L : List En} {e : En} (h1 : 1 ≤ e.n) (h2 : gm L e.c < e.n) : (fun s' => if s' = e.c then some (.int .i64 e.n) else gF L s') = gF (L ++ [e]) := by
  funext s
  unfold gF
  rw [gm_snoc]
  by_cases hs : s = e.c
  · subst hs
    have e1 : max (gm L e.c) e.n = e.n := by omega
    have e2 : ¬ e.n = 0 := by omega
    simp [e1, e2]
  · have hs' : ¬ e.c = s := fun x => hs x.symm
    simp [hs, hs']
theorem er_at (past : List En) (e : En) : er past e = if ckR e.c e.n ≠ 0 then ckR e.c e.n else if ck e.o.k e.o.s e.o.v ≠ 0 then ck e.o.k e.o.s e.o.v else if e.n ≤ gm past e.c then 64 else 0 := by
  unfold er ckE ckR
  by_cases h1 : e.c < 0 ∨ 16 ≤ e.c
  · simp [h1]
  · by_cases h2 : e.n < 1
    · simp [h1, h2]
    · simp only [h1, h2, if_false]
      rw [tw_iff e (by omega)]
      by_cases h3 : ck e.o.k e.o.s e.o.v = 0 <;> simp [h3]
set_option maxRecDepth 100000 in
set_option maxHeartbeats 1000000 in
theorem checklog_any (L : List En) (a : Option Addr) (c : Nat) (w : World) (h : SlY yE w a L.length c L) (hf : ∀ e ∈ L, e.fits) :
    Calls Try.prog 54 #[.slice a L.length c] w fun e w' => e = .returned (.int .i64 (lg L 256)) ∧ Below w.heap.size w w' := by
  have hmx := h.max
  have hcp := h.cap
  unfold maxLen at hmx
  have H := hide h
  have HF := hide hf
  clear h hf
  by_cases hl : 256 < (L.length : Int)
  · go_enter Try.func54, Try.ntmps54
    go_wp2
    go_ret
    exact ⟨ret_int (by simp [lg, hl]), Below.refl _ _⟩
  · have HL : Hid (lg L 256 = lgA (L.take 0) (L.drop 0)) := by show _ = _; simp [lg, hl]
    have hmm := @run_makeMap Try.prog
    go_enter Try.func54, Try.ntmps54
    go_wp2
    go_loopw [14] (fun i wr => ∃ j : Nat, i = .int .i64 (j : Int) ∧ j ≤ L.length ∧ MapF wr w.heap.size j (gF (L.take j)) ∧ Hid (lg L 256 = lgA (L.take j) (L.drop j)) ∧ Below w.heap.size w wr) (fun i _ => L.length - (intOf i).toNat)
    case atStart => exact ⟨0, rfl, Nat.zero_le _, MapF.made w, HL, (Below.refl _ _).alloc (Nat.le_refl _) _⟩
    case round =>
      obtain ⟨j, rfl, hj, hm, hL, hb⟩ := hrel
      by_cases hlt : j < L.length
      · have hg : L[j]? = some L[j] := List.getElem?_eq_getElem hlt
        have hat := lgA_at hg
        have hfj := HF.out L[j] (List.getElem_mem hlt)
        obtain ⟨q, o, ea, hq, c0, c1, c2, c3, c4⟩ := (H.out.later hb).en hg
        have htk : L.take (j + 1) = L.take j ++ [L[j]] := by rw [List.take_add_one, hg]; rfl
        rw [er_at] at hat
        generalize L[j] = e at *
        have hsn : 1 ≤ e.n → gm (L.take j) e.c < e.n → _ := fun h1 h2 => gF_snoc (L := L.take j) (e := e) h1 h2
        obtain ⟨C, N, ⟨k, s, v⟩⟩ := e
        dsimp only at c0 c1 c2 c3 c4 hat hsn
        subst ea
        have hT := hide htk
        have hS := hide hsn
        have hsz := hb.size
        have hCw := hfj.cw
        have hNb := i64_wf hfj.nw
        have hop := hfj.ow
        dsimp only at hCw hNb hop
        have hmb := hm.lt
        have mh := hide hm
        have hgd := gF_getD (L.take j) C
        have cr := fun W => req_any C N W
        have cc := fun W => check3 k s v hop W
        have hgn := gm_nonneg (L.take j) C
        generalize hxe : ckR C N = x at *
        generalize hye : ck k s v = y at *
        generalize hge : gm (L.take j) C = G at *
        have zi : ∀ W : World, (zeroValue 3).run Try.prog W = .ok (.int .i64 0) W := fun W => by kernel_rfl
        have bA := (Below.refl _ wr).alloc (Nat.le_refl _) (.cells #[.int .i64 C, .int .i64 N, .int .i64 k, .int .i64 s, .string v] 61)
        have hA := hide hat
        have hX := hide hxe
        clear hat htk hsn hg hm hfj hxe hye hge
        by_cases hx : x = 0
        · subst hx
          have hCN : Hid (1 ≤ N) := by
            show 1 ≤ N
            have := hX.out
            unfold ckR at this
            by_cases h1 : C < 0 ∨ 16 ≤ C
            · simp [h1] at this
            · by_cases h2 : N < 1
              · simp [h1, h2] at this
              · omega
          by_cases hy : y = 0
          · subst hy
            by_cases hn : N ≤ G
            · have hE : Hid (lg L 256 = 64) := by show _ = _; rw [hL.out, hA.out]; simp [hn]
              go_wp2_with (first
                | (go_at_call 38; refine (cr _).mono ?_; rintro e w1 ⟨rfl, rfl⟩)
                | (go_at_call 62; refine (cc _).mono ?_; rintro e w2 ⟨rfl, b2⟩; obtain ⟨y0, y1, y2, y3, y4⟩ := box5 b2 (by simp); have hlk := ((mh.out.later bA).later b2).look false Try.underlying143 (zi _) (s := C) hCw; rw [hgd] at hlk; simp only [Bool.false_eq_true, if_false] at hlk))
              go_ret
              exact ⟨ret_int hE.out.symm, hb.trans ((bA.mono hsz).trans (b2.mono (by simp; omega)))⟩
            · have hE : Hid (lg L 256 = lgA (L.take (j + 1)) (L.drop (j + 1))) := by show _ = _; rw [hL.out, hA.out]; simp [hn]
              go_wp2_with (first
                | (go_at_call 38; refine (cr _).mono ?_; rintro e w1 ⟨rfl, rfl⟩)
                | (go_at_call 62; refine (cc _).mono ?_; rintro e w2 ⟨rfl, b2⟩; obtain ⟨y0, y1, y2, y3, y4⟩ := box5 b2 (by simp); have hlk := ((mh.out.later bA).later b2).look false Try.underlying143 (zi _) (s := C) hCw; rw [hgd] at hlk; simp only [Bool.false_eq_true, if_false] at hlk)
                | (at_mapUpdate; refine mapF_put _ rfl _ _ _ 143 rfl 3 Try.underlying143 w.heap.size j _ rfl ((mh.out.later bA).later b2) (by unfold maxLen; omega) C hCw (.int .i64 N) rfl rfl ?_; intro w3 hm3 hg3)
                | go_in)
              go_round
              case rel => exact ⟨j + 1, by go_num, by omega, by rw [hT.out, ← hS.out hCN.out (by omega)]; exact hm3, hE, (hb.trans ((bA.mono hsz).trans (b2.mono (by simp; omega)))).grown hg3 (by have := b2.size; simp at this; omega) (fun k hk => by cases hk; exact Nat.le_refl _)⟩
              case measure => simp [intOf]; omega
          · have hE : Hid (lg L 256 = y) := by show _ = _; rw [hL.out, hA.out]; simp [hy]
            go_wp2_with (first
              | (go_at_call 38; refine (cr _).mono ?_; rintro e w1 ⟨rfl, rfl⟩)
              | (go_at_call 62; refine (cc _).mono ?_; rintro e w2 ⟨rfl, b2⟩))
            go_ret
            exact ⟨ret_int hE.out.symm, hb.trans ((bA.mono hsz).trans (b2.mono (by simp; omega)))⟩
        · have hE : Hid (lg L 256 = x) := by show _ = _; rw [hL.out, hA.out]; simp [hx]
          go_wp2_with (go_at_call 38; refine (cr _).mono ?_; rintro e w1 ⟨rfl, rfl⟩)
          go_ret
          exact ⟨ret_int hE.out.symm, hb.trans (bA.mono hsz)⟩
      · obtain rfl : j = L.length := by omega
        have hE := hL.out
        rw [lgA_end] at hE
        go_wp2
        go_ret
        exact ⟨ret_int hE.symm, hb⟩

/-- A log and two lengths of beginnings of it. -/
def ckB (L : List En) (f t : Int) : Int := if lg L 256 ≠ 0 then lg L 256 else if f < 0 ∨ (L.length : Int) < t ∨ t < f then 50 else 0
set_option maxRecDepth 100000 in
theorem check2_any (L : List En) (a : Option Addr) (c : Nat) (f t : Int) (w : World) (h : SlY yE w a L.length c L) (hf : ∀ e ∈ L, e.fits) :
    Calls Try.prog 27 #[.slice a L.length c, .int .i64 f, .int .i64 t] w fun e w' => e = .returned (.int .i64 (ckB L f t)) ∧ Below w.heap.size w w' := by
  have cl := checklog_any L a c w h hf
  have hmx := h.max
  have hcp := h.cap
  unfold maxLen at hmx
  clear h hf
  unfold ckB
  generalize lg L 256 = x at *
  by_cases hx : x = 0
  · subst hx
    simp only [ne_eq, not_true, if_false]
    by_cases h1 : f < 0
    · have d1 : decide (f < 0) = true := by simpa using h1
      go_enter Try.func27, Try.ntmps27
      go_wp2_with (go_at_call 54; refine cl.mono ?_; rintro e w1 ⟨rfl, b1⟩)
      go_ret
      exact ⟨ret_int (by simp [h1]), b1⟩
    · by_cases h2 : (L.length : Int) < t
      · go_enter Try.func27, Try.ntmps27
        go_wp2_with (go_at_call 54; refine cl.mono ?_; rintro e w1 ⟨rfl, b1⟩)
        go_ret
        exact ⟨ret_int (by simp [h2]), b1⟩
      · by_cases h3 : t < f
        · go_enter Try.func27, Try.ntmps27
          go_wp2_with (go_at_call 54; refine cl.mono ?_; rintro e w1 ⟨rfl, b1⟩)
          go_ret
          exact ⟨ret_int (by simp [h3]), b1⟩
        · go_enter Try.func27, Try.ntmps27
          go_wp2_with (go_at_call 54; refine cl.mono ?_; rintro e w1 ⟨rfl, b1⟩)
          go_ret
          exact ⟨ret_int (by first | rfl | rw [if_neg (by omega)]), b1⟩
  · go_enter Try.func27, Try.ntmps27
    go_wp2_with (go_at_call 54; refine cl.mono ?_; rintro e w1 ⟨rfl, b1⟩)
    go_ret
    exact ⟨ret_int (by simp [hx]), b1⟩

end Go.Proofs.Ytpkcoejjclmocaa
