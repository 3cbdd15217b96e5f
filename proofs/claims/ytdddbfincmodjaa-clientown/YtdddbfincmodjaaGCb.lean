import Derived.Test.YtdddbfincmodjaaCa
import Derived.Test.YtdddbfincmodjaaGYa
namespace Go.Proofs.Ytdddbfincmodjaa
open Go.RowKit Go.Maps
open Classical
set_option linter.unusedVariables false
set_option linter.unusedSimpArgs false

theorem box5 {w w1 : World} {x0 x1 x2 x3 x4 : Value} {T : TypeId} {B : Nat} (hb : Below B (w.alloc (.cells #[x0, x1, x2, x3, x4] T)) w1) (hB : w.heap.size < B) : w1.cell? ⟨w.heap.size, 0, none⟩ = some x0 ∧ w1.cell? ⟨w.heap.size, 1, none⟩ = some x1 ∧ w1.cell? ⟨w.heap.size, 2, none⟩ = some x2 ∧ w1.cell? ⟨w.heap.size, 3, none⟩ = some x3 ∧ w1.cell? ⟨w.heap.size, 4, none⟩ = some x4 :=
  ⟨(hb.cell (p := ⟨w.heap.size, 0, none⟩) hB).trans (by simp), (hb.cell (p := ⟨w.heap.size, 1, none⟩) hB).trans (by simp), (hb.cell (p := ⟨w.heap.size, 2, none⟩) hB).trans (by simp), (hb.cell (p := ⟨w.heap.size, 3, none⟩) hB).trans (by simp), (hb.cell (p := ⟨w.heap.size, 4, none⟩) hB).trans (by simp)⟩
theorem ret_int {k : IntKind} {a b : Int} (h : a = b) : Ending.returned (.int k a) = .returned (.int k b) := by rw [h]

theorem req_any (c n : Int) (w : World) : Calls Try.prog 38 #[.int .i64 c, .int .i64 n] w fun e w' => e = .returned (.int .i64 (ckR c n)) ∧ w' = w := by
  by_cases h1 : c < 0
  · go_enter Try.func38, Try.ntmps38
    go_wp2
    go_ret
    exact ⟨ret_int (by simp [ckR, h1]), rfl⟩
  · by_cases h2 : 16 ≤ c
    · go_enter Try.func38, Try.ntmps38
      go_wp2
      go_ret
      exact ⟨ret_int (by simp [ckR, h2]), rfl⟩
    · by_cases h3 : n < 1
      · go_enter Try.func38, Try.ntmps38
        go_wp2
        go_ret
        exact ⟨ret_int (by simp [ckR, h1, h2, h3]), rfl⟩
      · go_enter Try.func38, Try.ntmps38
        go_wp2
        go_ret
        exact ⟨ret_int (by unfold ckR; rw [if_neg (by omega), if_neg (by omega)]), rfl⟩

/-- The greatest numbers, as the map has them. -/
def gF (L : List En) (s : Int) : Option Value := if gm L s = 0 then none else some (.int .i64 (gm L s))
theorem gF_getD (L : List En) (s : Int) : (gF L s).getD (.int .i64 0) = .int .i64 (gm L s) := by
  unfold gF
  split
  · rename_i h; rw [h]; rfl
  · rfl
theorem gF_snoc {L : List En} {e : En} (h1 : 1 ≤ e.n) (h2 : gm L e.c < e.n) : (fun s' => if s' = e.c then some (.int .i64 e.n) else gF L s') = gF (L ++ [e]) := by
  funext s
  unfold gF
  rw [gm_snoc]
  by_cases hs : s = e.c
  · subst hs
    have e1 : max (gm L e.c) e.n = e.n := by omega
    have e2 : ¬ e.n = 0 := by omega
    simp [e1, e2]
  · have hs' : ¬ e.c = s := fun x => hs x.symm
    simp [hs, hs']
theorem er_at (past : List En) (e : En) : er past e = if ckR e.c e.n ≠ 0 then ckR e.c e.n else if ck e.o.k e.o.s e.o.v ≠ 0 then ck e.o.k e.o.s e.o.v else if e.n ≤ gm past e.c then 64 else 0 := by
  unfold er ckE ckR
  by_cases h1 : e.c < 0 ∨ 16 ≤ e.c
  · simp [h1]
  · by_cases h2 : e.n < 1
    · simp [h1, h2]
    · simp only [h1, h2, if_false]
      rw [tw_iff e (by omega)]
      by_cases h3 : ck e.o.k e.o.s e.o.v = 0 <;> simp [h3]
set_option maxRecDepth 100000 in
set_option maxHeartbeats 1000000 in
theorem checklog_any (L : List En) (a : Option Addr) (c : Nat) (w : World) (h : SlY yE w a L.length c L) (hf : ∀ e ∈ L, e.fits) :
    Calls Try.prog 54 #[.slice a L.length c] w fun e w' => e = .returned (.int .i64 (lg L 256)) ∧ Below w.heap.size w w' := by
  have hmx := h.max
  have hcp := h.cap
  unfold maxLen at hmx
  have H := hide h
  have HF := hide hf
  clear h hf
  by_cases hl : 256 < (L.length : Int)
  · go_enter Try.func54, Try.ntmps54
    go_wp2
    go_ret
    exact ⟨ret_int (by simp [lg, hl]), Below.refl _ _⟩
  · have HL : Hid (lg L 256 = lgA (L.take 0) (L.drop 0)) := by show _ = _; simp [lg, hl]
    have hmm := @run_makeMap Try.prog
    go_enter Try.func54, Try.ntmps54
    go_wp2
    go_loopw [14] (fun i wr => ∃ j : Nat, i = .int .i64 (j : Int) ∧ j ≤ L.length ∧ MapF wr w.heap.size j (gF (L.take j)) ∧ Hid (lg L 256 = lgA (L.take j) (L.drop j)) ∧ Below w.heap.size w wr) (fun i _ => L.length - (intOf i).toNat)
    case atStart => exact ⟨0, rfl, Nat.zero_le _, MapF.made w, HL, (Below.refl _ _).alloc (Nat.le_refl _) _⟩
    case round =>
      obtain ⟨j, rfl, hj, hm, hL, hb⟩ := hrel
      by_cases hlt : j < L.length
      · have hg : L[j]? = some L[j] := List.getElem?_eq_getElem hlt
        have hat := lgA_at hg
        have hfj := HF.out L[j] (List.getElem_mem hlt)
        obtain ⟨q, o, ea, hq, c0, c1, c2, c3, c4⟩ := (H.out.later hb).en hg
        have htk : L.take (j + 1) = L.take j ++ [L[j]] := by rw [List.take_add_one, hg]; rfl
        rw [er_at] at hat
        generalize L[j] = e at *
        have hsn : 1 ≤ e.n → gm (L.take j) e.c < e.n → _ := fun h1 h2 => gF_snoc (L := L.take j) (e := e) h1 h2
        obtain ⟨C, N, ⟨k, s, v⟩⟩ := e
        dsimp only at c0 c1 c2 c3 c4 hat hsn
        subst ea
        have hT := hide htk
        have hS := hide hsn
        have hsz := hb.size
        have hCw := hfj.cw
        have hNb := i64_wf hfj.nw
        have hop := hfj.ow
        dsimp only at hCw hNb hop
        have hmb := hm.lt
        have mh := hide hm
        have hgd := gF_getD (L.take j) C
        have cr := fun W => req_any C N W
        have cc := fun W => check3 k s v hop W
        have hgn := gm_nonneg (L.take j) C
        generalize hxe : ckR C N = x at *
        generalize hye : ck k s v = y at *
        generalize hge : gm (L.take j) C = G at *
        have zi : ∀ W : World, (zeroValue 3).run Try.prog W = .ok (.int .i64 0) W := fun W => by kernel_rfl
        have bA := (Below.refl _ wr).alloc (Nat.le_refl _) (.cells #[.int .i64 C, .int .i64 N, .int .i64 k, .int .i64 s, .string v] 61)
        have hA := hide hat
        have hX := hide hxe
        clear hat htk hsn hg hm hfj hxe hye hge
        by_cases hx : x = 0
        · subst hx
          have hCN : Hid (1 ≤ N) := by
            show 1 ≤ N
            have := hX.out
            unfold ckR at this
            by_cases h1 : C < 0 ∨ 16 ≤ C
            · simp [h1] at this
            · by_cases h2 : N < 1
              · simp [h1, h2] at this
              · omega
          by_cases hy : y = 0
          · subst hy
            by_cases hn : N ≤ G
            · have hE : Hid (lg L 256 = 64) := by show _ = _; rw [hL.out, hA.out]; simp [hn]
              go_wp2_with (first
                | (go_at_call 38; refine (cr _).mono ?_; rintro e w1 ⟨rfl, rfl⟩)
                | (go_at_call 62; refine (cc _).mono ?_; rintro e w2 ⟨rfl, b2⟩; obtain ⟨y0, y1, y2, y3, y4⟩ := box5 b2 (by simp); have hlk := ((mh.out.later bA).later b2).look false Try.underlying143 (zi _) (s := C) hCw; rw [hgd] at hlk; simp only [Bool.false_eq_true, if_false] at hlk))
              go_ret
              exact ⟨ret_int hE.out.symm, hb.trans ((bA.mono hsz).trans (b2.mono (by simp; omega)))⟩
            · have hE : Hid (lg L 256 = lgA (L.take (j + 1)) (L.drop (j + 1))) := by show _ = _; rw [hL.out, hA.out]; simp [hn]
              go_wp2_with (first
                | (go_at_call 38; refine (cr _).mono ?_; rintro e w1 ⟨rfl, rfl⟩)
                | (go_at_call 62; refine (cc _).mono ?_; rintro e w2 ⟨rfl, b2⟩; obtain ⟨y0, y1, y2, y3, y4⟩ := box5 b2 (by simp); have hlk := ((mh.out.later bA).later b2).look false Try.underlying143 (zi _) (s := C) hCw; rw [hgd] at hlk; simp only [Bool.false_eq_true, if_false] at hlk)
                | (at_mapUpdate; refine mapF_put _ rfl _ _ _ 143 rfl 3 Try.underlying143 w.heap.size j _ rfl ((mh.out.later bA).later b2) (by unfold maxLen; omega) C hCw (.int .i64 N) rfl rfl ?_; intro w3 hm3 hg3)
                | go_in)
              go_round
              case rel => exact ⟨j + 1, by go_num, by omega, by rw [hT.out, ← hS.out hCN.out (by omega)]; exact hm3, hE, (hb.trans ((bA.mono hsz).trans (b2.mono (by simp; omega)))).grown hg3 (by have := b2.size; simp at this; omega) (fun k hk => by cases hk; exact Nat.le_refl _)⟩
              case measure => simp [intOf]; omega
          · have hE : Hid (lg L 256 = y) := by show _ = _; rw [hL.out, hA.out]; simp [hy]
            go_wp2_with (first
              | (go_at_call 38; refine (cr _).mono ?_; rintro e w1 ⟨rfl, rfl⟩)
              | (go_at_call 62; refine (cc _).mono ?_; rintro e w2 ⟨rfl, b2⟩))
            go_ret
            exact ⟨ret_int hE.out.symm, hb.trans ((bA.mono hsz).trans (b2.mono (by simp; omega)))⟩
        · have hE : Hid (lg L 256 = x) := by show _ = _; rw [hL.out, hA.out]; simp [hx]
          go_wp2_with (go_at_call 38; refine (cr _).mono ?_; rintro e w1 ⟨rfl, rfl⟩)
          go_ret
          exact ⟨ret_int hE.out.symm, hb.trans (bA.mono hsz)⟩
      · obtain rfl : j = L.length := by omega
        have hE := hL.out
        rw [lgA_end] at hE
        go_wp2
        go_ret
        exact ⟨ret_int hE.symm, hb⟩

/-- A log and two lengths of beginnings of it. -/
def ckB (L : List En) (f t : Int) : Int := if lg L 256 ≠ 0 then lg L 256 else if f < 0 ∨ (L.length : Int) < t ∨ t < f then 50 else 0
set_option maxRecDepth 100000 in
theorem check2_any (L : List En) (a : Option Addr) (c : Nat) (f t : Int) (w : World) (h : SlY yE w a L.length c L) (hf : ∀ e ∈ L, e.fits) :
    Calls Try.prog 27 #[.slice a L.length c, .int .i64 f, .int .i64 t] w fun e w' => e = .returned (.int .i64 (ckB L f t)) ∧ Below w.heap.size w w' := by
  have cl := checklog_any L a c w h hf
  have hmx := h.max
  have hcp := h.cap
  unfold maxLen at hmx
  clear h hf
  unfold ckB
  generalize lg L 256 = x at *
  by_cases hx : x = 0
  · subst hx
    simp only [ne_eq, not_true, if_false]
    by_cases h1 : f < 0
    · have d1 : decide (f < 0) = true := by simpa using h1
      go_enter Try.func27, Try.ntmps27
      go_wp2_with (go_at_call 54; refine cl.mono ?_; rintro e w1 ⟨rfl, b1⟩)
      go_ret
      exact ⟨ret_int (by simp [h1]), b1⟩
    · by_cases h2 : (L.length : Int) < t
      · go_enter Try.func27, Try.ntmps27
        go_wp2_with (go_at_call 54; refine cl.mono ?_; rintro e w1 ⟨rfl, b1⟩)
        go_ret
        exact ⟨ret_int (by simp [h2]), b1⟩
      · by_cases h3 : t < f
        · go_enter Try.func27, Try.ntmps27
          go_wp2_with (go_at_call 54; refine cl.mono ?_; rintro e w1 ⟨rfl, b1⟩)
          go_ret
          exact ⟨ret_int (by simp [h3]), b1⟩
        · go_enter Try.func27, Try.ntmps27
          go_wp2_with (go_at_call 54; refine cl.mono ?_; rintro e w1 ⟨rfl, b1⟩)
          go_ret
          exact ⟨ret_int (by first | rfl | rw [if_neg (by omega)]), b1⟩
  · go_enter Try.func27, Try.ntmps27
    go_wp2_with (go_at_call 54; refine cl.mono ?_; rintro e w1 ⟨rfl, b1⟩)
    go_ret
    exact ⟨ret_int (by simp [hx]), b1⟩

end Go.Proofs.Ytdddbfincmodjaa

namespace Go.Proofs.Ytdddbfincmodjaa
open Go.RowKit Go.Maps
set_option linter.unusedVariables false
set_option linter.unusedSimpArgs false

/-- Operations and results as rows. -/
def y3 (T ST : TypeId) : Lay Rs := ⟨T, ST, 3, 32, fun r => [.int .i64 r.1, .int .i64 r.2.1, .string r.2.2], zR⟩
theorem own3_len {T : TypeId} {B : Nat} {w : World} {g n c : Nat} {l : List Rs} (h : Own3 T B w (.slice (some ⟨g, 0, none⟩) n c) l) : l.length = n := by
  obtain ⟨a, c', e, _⟩ := h.form
  injection e with _ e2 _
  exact e2.symm
theorem own3_later {T : TypeId} {S : Nat → Prop} {B : Nat} {w w' : World} {v : Value} {l : List Rs} (h : Own3 T B w v l) (hb : Below w.heap.size w w') : Own3 T B w' v l := h.grow hb
/-- Own3's cells as operations. -/
theorem ops_own {T : TypeId} {B : Nat} {w : World} {g n c : Nat} {P : List Opn} (h : Own3 T B w (.slice (some ⟨g, 0, none⟩) n c) (P.map fun o => (o.k, o.s, o.v))) : Ops w (some ⟨g, 0, none⟩) P := fun i hi => by
  obtain ⟨e0, e1, e2⟩ := h.cell i (P[i].k, P[i].s, P[i].v) (by rw [List.getElem?_map, List.getElem?_eq_getElem hi]; rfl)
  exact ⟨g, 0, rfl, by rw [Nat.zero_add]; exact e0, by rw [Nat.zero_add]; exact e1, by rw [Nat.zero_add]; exact e2⟩
def oT (o : Opn) : Rs := (o.k, o.s, o.v)
set_option maxRecDepth 100000 in
set_option maxHeartbeats 1000000 in
theorem carry_any (L : List En) (a : Option Addr) (c : Nat) (w : World) (h : SlY yE w a L.length c L) (hf : ∀ e ∈ L, e.fits) (hl : L.length ≤ 256) :
    Calls Try.prog 59 #[.slice a L.length c] w fun e w' => ∃ vr, e = .returned vr ∧ Own3 43 w.heap.size w' vr (rsL L) ∧ Below w.heap.size w w' := by
  have hmx := h.max
  have hcp := h.cap
  unfold maxLen at hmx
  have H := hide h
  have HF := hide hf
  clear h hf
  go_enter Try.func59, Try.ntmps59
  go_wp2_with (at_make; go_must (refine make3 tyOp _ rfl (.tmp 9) rfl L.length rfl (by omega) ?_; intro w2 o2 b2))
  go_wp2
  go_loopw [13] (fun i wr => ∃ j : Nat, i = .int .i64 (j : Int) ∧ j ≤ L.length ∧ Own3 59 w.heap.size wr (.slice (some ⟨w.heap.size, 0, none⟩) L.length L.length) (((L.take j).map En.o).map oT ++ List.replicate (L.length - j) (0, 0, ByteArray.empty)) ∧ Below w.heap.size w wr) (fun i _ => L.length - (intOf i).toNat)
  case atStart => exact ⟨0, rfl, Nat.zero_le _, by simpa using o2, b2⟩
  case round =>
    obtain ⟨j, rfl, hj, oR, hb⟩ := hrel
    by_cases hlt : j < L.length
    · have hg : L[j]? = some L[j] := List.getElem?_eq_getElem hlt
      obtain ⟨q, o, ea, hq, c0, c1, c2, c3, c4⟩ := (H.out.later hb).en hg
      have htk : ((L.take (j + 1)).map En.o).map oT = ((L.take j).map En.o).map oT ++ [oT L[j].o] := by rw [List.take_add_one, hg, List.map_append, List.map_append]; rfl
      have hln : (((L.take j).map En.o).map oT).length = j := by simp; omega
      have hrep : List.replicate (L.length - j) ((0 : Int), (0 : Int), ByteArray.empty) = (0, 0, ByteArray.empty) :: List.replicate (L.length - (j + 1)) (0, 0, ByteArray.empty) := by
        rw [show L.length - j = (L.length - (j + 1)) + 1 by omega, List.replicate_succ]
      rw [hrep] at oR
      generalize L[j] = e at *
      obtain ⟨C, N, ⟨k, s, v⟩⟩ := e
      dsimp only [oT] at c0 c1 c2 c3 c4 htk
      subst ea
      generalize ((L.take j).map En.o).map oT = X at *
      have hset : Hid ((X ++ (0, 0, ByteArray.empty) :: List.replicate (L.length - (j + 1)) (0, 0, ByteArray.empty)).set j (k, s, v) = (X ++ [(k, s, v)]) ++ List.replicate (L.length - (j + 1)) (0, 0, ByteArray.empty)) := by
        show _ = _
        rw [List.set_append_right _ _ (by omega), hln, Nat.sub_self]
        simp
      have hget : (X ++ (0, 0, ByteArray.empty) :: List.replicate (L.length - (j + 1)) (0, 0, ByteArray.empty))[j]? = some (0, 0, ByteArray.empty) := by
        rw [List.getElem?_append_right (by omega), hln, Nat.sub_self]
        rfl
      have hT := hide htk
      clear htk hg hrep hln
      have hsz := hb.size
      have bA := (Below.refl _ wr).alloc (Nat.le_refl _) (.cells #[.int .i64 C, .int .i64 N, .int .i64 k, .int .i64 s, .string v] 61)
      have hmb : w.heap.size < wr.heap.size := by
        obtain ⟨_, _, e, _, _, _, h4⟩ := oR.form
        injection e with e1
        obtain ⟨g, e2, _, h5⟩ := h4 _ e1.symm
        cases e2
        exact h5
      obtain ⟨e0, e1, e2⟩ := oR.cell j _ hget
      have f0 := oR.free (j * 3)
      have f1 := oR.free (j * 3 + 1)
      have f2 := oR.free (j * 3 + 2)
      have oN := hide ((oR.set j (k, s, v)).alloc (.cells #[.int .i64 C, .int .i64 N, .int .i64 k, .int .i64 s, .string v] 61))
      clear oR hget
      dsimp only at e0 e1 e2
      go_wp2
      go_round
      case rel => exact ⟨j + 1, by go_num, by omega, by rw [hT.out, ← hset.out]; exact oN.out, (((hb.setCell (p := ⟨w.heap.size, j * 3, none⟩) (Nat.le_refl _) _).setCell (p := ⟨w.heap.size, j * 3 + 1, none⟩) (Nat.le_refl _) _).setCell (p := ⟨w.heap.size, j * 3 + 2, none⟩) (Nat.le_refl _) _).alloc (by simpa [World.setCell] using hsz) _⟩
      case measure => simp [intOf]; omega
    · obtain rfl : j = L.length := by omega
      rw [Nat.sub_self, List.replicate_zero, List.append_nil, List.take_of_length_le (Nat.le_refl _)] at oR
      have cr := replay_any (L.map En.o) (some ⟨w.heap.size, 0, none⟩) L.length wr (ops_own oR) (fun p hp => by
        obtain ⟨e, he, rfl⟩ := List.mem_map.1 hp
        exact (HF.out e he).ow) (by simp; omega)
      rw [List.length_map] at cr
      clear oR
      have hsz := hb.size
      go_wp2_with (go_at_call 74; refine cr.mono ?_; rintro e w6 ⟨vc, vr, rfl, o6, o7, b6⟩; have o8 := hide (o7.low hsz); have b8 := hide (hb.trans (b6.mono hsz)); clear o6 o7 b6)
      go_ret
      exact ⟨_, rfl, o8.out, b8.out⟩

end Go.Proofs.Ytdddbfincmodjaa

namespace Go.Proofs.Ytdddbfincmodjaa
open Go.RowKit Go.Maps
set_option linter.unusedVariables false
set_option linter.unusedSimpArgs false

theorem OwnY.set0 {α : Type} {Y : Lay α} {B : Nat} {w : World} {v : Value} {l : List α} (h : OwnY Y B w v l) {i : Nat} {x : α} (hx : l[i]? = some x) : OwnY Y B w v (l.set i x) := by
  have e : l.set i x = l := by
    apply List.ext_getElem?
    intro j
    by_cases hj : i = j
    · subst hj
      rw [List.getElem?_set_self (List.getElem?_eq_some_iff.1 hx).1, hx]
    · rw [List.getElem?_set_ne hj]
  rw [e]; exact h
theorem OwnY.set2 {α : Type} {Y : Lay α} (K : Y.Ok) {B : Nat} {w : World} {g n c : Nat} {l : List α} {i : Nat} {x : α} (h : OwnY Y B w (.slice (some ⟨g, 0, none⟩) n c) (l.set i x)) (hi : i < l.length) (x' : α) (j : Nat) (u : Value) (hj : j < Y.k) (hc : Y.cs x' = (Y.cs x).set j u) :
    OwnY Y B (w.setCell ⟨g, i * Y.k + j, none⟩ u) (.slice (some ⟨g, 0, none⟩) n c) (l.set i x') := by
  have := h.set1 K (i := i) (x := x) (by simp [hi]) x' j u hj hc
  rw [List.set_set] at this
  exact this
theorem OwnY.lenN {α : Type} {Y : Lay α} {B : Nat} {w : World} {g n c : Nat} {l : List α} (h : OwnY Y B w (.slice (some ⟨g, 0, none⟩) n c) l) : l.length = n ∧ B ≤ g ∧ g < w.heap.size := by
  obtain ⟨a, c', e, _, _, _, h4⟩ := h.form
  injection e with e1 e2 _
  obtain ⟨g', e3, h5, h6⟩ := h4 _ e1.symm
  cases e3
  exact ⟨e2.symm, h5, h6⟩
/-- A row's cells, as they lie. -/
theorem OwnY.rw {B : Nat} {w : World} {g n c : Nat} {l : List Rw} (h : OwnY yR B w (.slice (some ⟨g, 0, none⟩) n c) l) {i : Nat} {x : Rw} (hx : l[i]? = some x) : w.cell? ⟨g, i * 7, none⟩ = some (.int .i64 x.c) ∧ w.cell? ⟨g, i * 7 + 1, none⟩ = some (.int .i64 x.n) ∧ w.cell? ⟨g, i * 7 + 2, none⟩ = some (.int .i64 x.p) ∧ w.cell? ⟨g, i * 7 + 3, none⟩ = some (.bool x.d) ∧ w.cell? ⟨g, i * 7 + 4, none⟩ = some (.int .i64 x.r.1) ∧ w.cell? ⟨g, i * 7 + 5, none⟩ = some (.int .i64 x.r.2.1) ∧ w.cell? ⟨g, i * 7 + 6, none⟩ = some (.string x.r.2.2) :=
  ⟨h.cell kR i x hx 0 _ rfl, h.cell kR i x hx 1 _ rfl, h.cell kR i x hx 2 _ rfl, h.cell kR i x hx 3 _ rfl, h.cell kR i x hx 4 _ rfl, h.cell kR i x hx 5 _ rfl, h.cell kR i x hx 6 _ rfl⟩
theorem OwnY.put7 {B : Nat} {w : World} {g n c : Nat} {l : List Rw} (h : OwnY yR B w (.slice (some ⟨g, 0, none⟩) n c) l) {i : Nat} (hi : i < l.length) (C N P : Int) (d : Bool) (r : Rs) :
    OwnY yR B (((((((w.setCell ⟨g, i * 7, none⟩ (.int .i64 C)).setCell ⟨g, i * 7 + 1, none⟩ (.int .i64 N)).setCell ⟨g, i * 7 + 2, none⟩ (.int .i64 P)).setCell ⟨g, i * 7 + 3, none⟩ (.bool d)).setCell ⟨g, i * 7 + 4, none⟩ (.int .i64 r.1)).setCell ⟨g, i * 7 + 5, none⟩ (.int .i64 r.2.1)).setCell ⟨g, i * 7 + 6, none⟩ (.string r.2.2)) (.slice (some ⟨g, 0, none⟩) n c) (l.set i ⟨C, N, P, d, r⟩) := by
  have hx : l[i]? = some l[i] := List.getElem?_eq_getElem hi
  generalize l[i] = x at hx
  obtain ⟨c0, n0, p0, d0, r0, r1, r2⟩ := x
  obtain ⟨s0, s1, s2⟩ := r
  have h0 := h.set0 hx
  have h1 := h0.set2 kR hi ⟨C, n0, p0, d0, r0, r1, r2⟩ 0 (.int .i64 C) (by decide) rfl
  have h2 := h1.set2 kR hi ⟨C, N, p0, d0, r0, r1, r2⟩ 1 (.int .i64 N) (by decide) rfl
  have h3 := h2.set2 kR hi ⟨C, N, P, d0, r0, r1, r2⟩ 2 (.int .i64 P) (by decide) rfl
  have h4 := h3.set2 kR hi ⟨C, N, P, d, r0, r1, r2⟩ 3 (.bool d) (by decide) rfl
  have h5 := h4.set2 kR hi ⟨C, N, P, d, s0, r1, r2⟩ 4 (.int .i64 s0) (by decide) rfl
  have h6 := h5.set2 kR hi ⟨C, N, P, d, s0, s1, r2⟩ 5 (.int .i64 s1) (by decide) rfl
  exact h6.set2 kR hi ⟨C, N, P, d, s0, s1, s2⟩ 6 (.string s2) (by decide) rfl
theorem OwnY.put4 {B : Nat} {w : World} {g n c : Nat} {l : List Rw} {i : Nat} {C N P : Int} {d0 : Bool} {r0 : Rs} (h : OwnY yR B w (.slice (some ⟨g, 0, none⟩) n c) (l.set i ⟨C, N, P, d0, r0⟩)) (hi : i < l.length) (d : Bool) (r : Rs) :
    OwnY yR B ((((w.setCell ⟨g, i * 7 + 3, none⟩ (.bool d)).setCell ⟨g, i * 7 + 4, none⟩ (.int .i64 r.1)).setCell ⟨g, i * 7 + 5, none⟩ (.int .i64 r.2.1)).setCell ⟨g, i * 7 + 6, none⟩ (.string r.2.2)) (.slice (some ⟨g, 0, none⟩) n c) (l.set i ⟨C, N, P, d, r⟩) := by
  obtain ⟨r0, r1, r2⟩ := r0
  obtain ⟨s0, s1, s2⟩ := r
  have h4 := h.set2 kR hi ⟨C, N, P, d, r0, r1, r2⟩ 3 (.bool d) (by decide) rfl
  have h5 := h4.set2 kR hi ⟨C, N, P, d, s0, r1, r2⟩ 4 (.int .i64 s0) (by decide) rfl
  have h6 := h5.set2 kR hi ⟨C, N, P, d, s0, s1, r2⟩ 5 (.int .i64 s1) (by decide) rfl
  exact h6.set2 kR hi ⟨C, N, P, d, s0, s1, s2⟩ 6 (.string s2) (by decide) rfl
def zRw : Rw := ⟨0, 0, 0, false, zR⟩
set_option maxRecDepth 100000 in
set_option maxHeartbeats 1000000 in
theorem rows_any (L : List En) (a : Option Addr) (c k : Nat) (w : World) (h : SlY yE w a L.length c L) (hf : ∀ e ∈ L, e.fits) (hl : L.length ≤ 256) (hk : k ≤ L.length) :
    Calls Try.prog 39 #[.slice a L.length c, .int .i64 (k : Int)] w fun e w' => ∃ g, e = .returned (.slice (some ⟨g, 0, none⟩) L.length L.length) ∧ OwnY yR w.heap.size w' (.slice (some ⟨g, 0, none⟩) L.length L.length) (rws L k) ∧ Below w.heap.size w w' := by
  have hmx := h.max
  have hcp := h.cap
  unfold maxLen at hmx
  have cc := carry_any (L.take k) a c w (by have := h.take k hk; rw [List.length_take, Nat.min_eq_left hk]; exact this) (fun e he => hf e (List.mem_of_mem_take he)) (by simp; omega)
  rw [List.length_take, Nat.min_eq_left hk, rsL_take] at cc
  have H := hide h
  clear h hf
  go_enter Try.func39, Try.ntmps39
  go_wp2_with (first
    | (go_at_call 59; refine cc.mono ?_; rintro e w1 ⟨vr, rfl, o1, b1⟩; have z1 := b1.size)
    | (at_make; go_must (refine makeY kR _ rfl (.tmp 14) rfl L.length rfl (by unfold maxLen; omega) (by show L.length * 64 ≤ _; omega) ?_; intro w2 o2 b2)))
  have hRl : ((rsL L).take k).length = k := by rw [List.length_take, rsL_length]; omega
  obtain ⟨av, cv, ev, hv1, hv2, hv3, hv4⟩ := o1.form
  rw [hRl] at ev hv1
  subst ev
  unfold maxLen at hv2
  have hRg : Hid (∀ j, j < k → ((rsL L).take k)[j]? = some ((rsL L).getD j zR)) := by
    intro j hj
    rw [List.getElem?_take, if_pos hj, List.getD_eq_getElem?_getD, List.getElem?_eq_getElem (by rw [rsL_length]; omega)]
    rfl
  have hvg : Hid (∀ x, av = some x → ∃ b, x = ⟨b, 0, none⟩ ∧ b ≠ w1.heap.size) := fun x hx => by
    obtain ⟨b, e, _, hb⟩ := hv4 x hx
    exact ⟨b, e, by omega⟩
  have hvn : Hid (av = none → k = 0) := fun e => by
    have := (hv3 e).1
    rw [this] at hRl
    simpa using hRl.symm
  have OR := hide (o1.grow b2)
  have OT : Hid (OwnY yR w.heap.size w2 (.slice (some ⟨w1.heap.size, 0, none⟩) L.length L.length) ((rws L k).take 0 ++ List.replicate (L.length - 0) zRw)) := (o2.low z1)
  have BB := hide (b1.trans (b2.mono z1))
  clear o1 o2 b1 b2 hRl hv3 hv4
  have HR := hide (show ∀ (j : Nat) (e : En), L[j]? = some e → (rws L k).take (j + 1) = (rws L k).take j ++ [rwA (rsL L) k j e] from fun j e he => by rw [List.take_add_one, rws_get k he]; rfl)
  have HRL := hide (show ∀ j, j ≤ L.length → ((rws L k).take j).length = j from fun j hj => by rw [List.length_take, rws_length]; omega)
  have HRE := hide (show (rws L k).take L.length = rws L k from List.take_of_length_le (by rw [rws_length]; exact Nat.le_refl _))
  obtain ⟨g, hgw⟩ : ∃ g, g = w1.heap.size := ⟨_, rfl⟩
  rw [← hgw] at OT hvg
  have hgz : w.heap.size ≤ g := by omega
  have HZ := hide hgw
  go_wp2
  rw [← HZ.out]
  clear HZ hgw
  go_loopw [18] (fun i wr => ∃ j : Nat, i = .int .i64 (j : Int) ∧ j ≤ L.length ∧ OwnY yR w.heap.size wr (.slice (some ⟨g, 0, none⟩) L.length L.length) ((rws L k).take j ++ List.replicate (L.length - j) zRw) ∧ Own3 43 w.heap.size wr (.slice av k cv) ((rsL L).take k) ∧ Below w.heap.size w wr) (fun i _ => L.length - (intOf i).toNat)
  case atStart => exact ⟨0, rfl, Nat.zero_le _, OT.out, OR.out, BB.out⟩
  case round =>
    obtain ⟨j, rfl, hj, oT, oR, hb⟩ := hrel
    by_cases hlt : j < L.length
    · have hg : L[j]? = some L[j] := List.getElem?_eq_getElem hlt
      obtain ⟨q, o, ea, hq, c0, c1, c2, c3, c4⟩ := (H.out.later hb).en hg
      have hq2 : q ≠ g := fun e => by
        obtain ⟨q', o', ea', hq', _⟩ := H.out.en hg
        rw [ea] at ea'
        cases ea'
        omega
      have hsn := HR.out j _ hg
      have hrl := HRL.out j hj
      generalize (rws L k).take j = X at *
      generalize L[j] = e at *
      obtain ⟨C, N, ⟨ok, os, ov⟩⟩ := e
      dsimp only at c0 c1 c2 c3 c4
      subst ea
      have hrep : List.replicate (L.length - j) zRw = zRw :: List.replicate (L.length - (j + 1)) zRw := by
        rw [show L.length - j = (L.length - (j + 1)) + 1 by omega, List.replicate_succ]
      rw [hrep] at oT
      have hset : ∀ x, Hid ((X ++ zRw :: List.replicate (L.length - (j + 1)) zRw).set j x = (X ++ [x]) ++ List.replicate (L.length - (j + 1)) zRw) := fun x => by
        show _ = _
        rw [List.set_append_right _ _ (by omega), hrl, Nat.sub_self]
        simp
      have hlen : Hid (j < (X ++ zRw :: List.replicate (L.length - (j + 1)) zRw).length) := by
        show _ < _
        rw [List.length_append, hrl, List.length_cons]
        omega
      have hget : (X ++ zRw :: List.replicate (L.length - (j + 1)) zRw)[j]? = some zRw := by
        rw [List.getElem?_append_right (by omega), hrl, Nat.sub_self]
        rfl
      have SN := hide hsn
      clear hrep hrl hg hsn
      generalize X ++ zRw :: List.replicate (L.length - (j + 1)) zRw = XX at *
      obtain ⟨_, hg1, hg2⟩ := oT.lenN
      have hsz := hb.size
      have bA := (Below.refl _ wr).alloc (Nat.le_refl _) (.cells #[.int .i64 C, .int .i64 N, .int .i64 ok, .int .i64 os, .string ov] 61)
      have bT := hide (hb.trans (bA.mono hsz))
      have OT2 := hide (oT.alloc (.cells #[.int .i64 C, .int .i64 N, .int .i64 ok, .int .i64 os, .string ov] 61))
      have OR2 := hide (oR.alloc (.cells #[.int .i64 C, .int .i64 N, .int .i64 ok, .int .i64 os, .string ov] 61))
      have HG := hide hget
      clear oT hget bA
      by_cases hjk : j < k
      · obtain ⟨x, hx⟩ : ∃ x, av = some x := by
          cases av with
          | none => have := hvn.out rfl; omega
          | some x => exact ⟨x, rfl⟩
        obtain ⟨b, rfl, hbg⟩ := hvg.out x hx
        subst hx
        have hbl : b < wr.heap.size := by
          obtain ⟨_, _, ee, _, _, _, h4⟩ := oR.form
          injection ee with ee
          obtain ⟨g', e2, _, h5⟩ := h4 _ ee.symm
          cases e2
          exact h5
        obtain ⟨r0, r1, r2⟩ := OR2.out.cell j _ (hRg.out j hjk)
        have hrw : Hid (rwA (rsL L) k j ⟨C, N, ⟨ok, os, ov⟩⟩ = ⟨C, N, (j : Int) + 1, true, (rsL L).getD j zR⟩) := by
          show _ = _
          simp [rwA, hjk]
        generalize (rsL L).getD j zR = r at *
        obtain ⟨s0, s1, s2⟩ := r
        dsimp only at r0 r1 r2
        have RR : Hid (∀ W, Upd (fun b => b = g) (wr.alloc (.cells #[.int .i64 C, .int .i64 N, .int .i64 ok, .int .i64 os, .string ov] 61)) W → W.cell? ⟨b, j * 3, none⟩ = some (.int .i64 s0) ∧ W.cell? ⟨b, j * 3 + 1, none⟩ = some (.int .i64 s1) ∧ W.cell? ⟨b, j * 3 + 2, none⟩ = some (.string s2)) := fun W u =>
          ⟨(u.cell (p := ⟨b, j * 3, none⟩) (by simp; omega) hbg).trans r0, (u.cell (p := ⟨b, j * 3 + 1, none⟩) (by simp; omega) hbg).trans r1, (u.cell (p := ⟨b, j * 3 + 2, none⟩) (by simp; omega) hbg).trans r2⟩
        clear oR r0 r1 r2
        go_wp2_with (first
          | (refine storeY kR _ rfl 57 (.tmp 32) (.tmp 31) rfl w.heap.size g L.length L.length XX j 0 zRw ⟨C, N, (j : Int) + 1, false, zR⟩ _ rfl rfl HG.out (by kernel_rfl) (by exact (by decide : 7 ≤ 7)) rfl OT2.out ?_; intro w3 o3 u3 z3; obtain ⟨r0, r1, r2⟩ := RR.out w3 u3; have g3 : (XX.set j ⟨C, N, (j : Int) + 1, false, zR⟩)[j]? = some ⟨C, N, (j : Int) + 1, false, zR⟩ := List.getElem?_set_self hlen.out; have O3 := hide o3; have G3 := hide g3; clear o3 g3)
          | (refine storeY kR _ rfl 4 (.tmp 45) (.const (.bool true)) rfl w.heap.size g L.length L.length _ j 3 _ ⟨C, N, (j : Int) + 1, true, zR⟩ _ rfl rfl G3.out (by kernel_rfl) (by exact (by decide : 4 ≤ 7)) rfl O3.out ?_; intro w4 o4 u4 z4; rw [List.set_set] at o4; have g4 : (XX.set j ⟨C, N, (j : Int) + 1, true, zR⟩)[j]? = some ⟨C, N, (j : Int) + 1, true, zR⟩ := List.getElem?_set_self hlen.out; have O4 := hide o4; have G4 := hide g4; clear o4 g4)
          | (refine storeY kR _ rfl 43 (.tmp 47) (.tmp 43) rfl w.heap.size g L.length L.length _ j 4 _ ⟨C, N, (j : Int) + 1, true, (s0, s1, s2)⟩ _ rfl rfl G4.out (by kernel_rfl) (by exact (by decide : 7 ≤ 7)) rfl O4.out ?_; intro w5 o5 u5 z5; rw [List.set_set] at o5; have O5 := hide o5; clear o5)
          | go_in)
        go_round
        case rel =>
          have U := (u3.trans u4).trans u5
          refine ⟨j + 1, by go_num, by omega, by rw [SN.out, hrw.out, ← (hset _).out]; exact O5.out, OR2.out.upd1 U (fun g' e => by cases e; exact hbg), bT.out.trans (U.below (by simp; omega) (fun k e => by subst e; exact hgz))⟩
        case measure => simp [intOf]; omega
      · have hrw : Hid (rwA (rsL L) k j ⟨C, N, ⟨ok, os, ov⟩⟩ = ⟨C, N, (j : Int) + 1, false, zR⟩) := by
          show _ = _
          simp [rwA, hjk]
        have hvg2 : Hid (∀ g', (Value.slice av k cv).ownBlock = some g' → g' ≠ g) := fun g' e => by
          cases av with
          | none => cases e
          | some x =>
            obtain ⟨b, rfl, hbg⟩ := hvg.out x rfl
            cases e
            exact hbg
        clear oR
        go_wp2_with (first
          | (refine storeY kR _ rfl 57 (.tmp 32) (.tmp 31) rfl w.heap.size g L.length L.length XX j 0 zRw ⟨C, N, (j : Int) + 1, false, zR⟩ _ rfl rfl HG.out (by kernel_rfl) (by exact (by decide : 7 ≤ 7)) rfl OT2.out ?_; intro w3 o3 u3 z3; have O3 := hide o3; clear o3)
          | go_in)
        go_round
        case rel =>
          refine ⟨j + 1, by go_num, by omega, by rw [SN.out, hrw.out, ← (hset _).out]; exact O3.out, OR2.out.upd1 u3 hvg2.out, bT.out.trans (u3.below (by simp; omega) (fun k e => by subst e; exact hgz))⟩
        case measure => simp [intOf]; omega
    · obtain rfl : j = L.length := by omega
      rw [HRE.out, Nat.sub_self, List.replicate_zero, List.append_nil] at oT
      have oTh := hide oT
      clear oT oR
      go_wp2
      go_ret
      exact ⟨g, rfl, oTh.out, hb⟩

end Go.Proofs.Ytdddbfincmodjaa
