import Derived.Test.YtjidimegjegakaaFy
namespace Go.Proofs.Ytjidimegjegakaa
open Go.RowKit Go.Maps
set_option linter.unusedVariables false
set_option linter.unusedSimpArgs false

set_option maxHeartbeats 400000 in
theorem compare_any (h l h' l' : Int) (w : World) :
    Calls Try.prog 6 #[.agg #[.int .u64 h, .int .u64 l], .agg #[.int .u64 h', .int .u64 l']] w fun e w' => e = .returned (.int .i64 (cmpD h l h' l')) ∧ Below w.heap.size w w' := by
  by_cases e1 : h = h'
  · subst e1
    rcases Int.lt_trichotomy l l' with c | c | c
    · have hc : cmpD h l h l' = -1 := by unfold cmpD cmpI; rw [if_pos rfl, if_pos c]
      rw [hc]; clear hc
      have f1 : (l == l') = false := by simp; omega
      have f2 : ¬ l = l' := by omega
      have f3 : ¬ l' < l := by omega
      go_enter Try.func6, Try.ntmps6
      go_wp2
      go_ret
      exact ⟨rfl, ((Below.refl _ _).alloc (Nat.le_refl _) _).alloc (by simp) _⟩
    · subst c
      have hc : cmpD h l h l = 0 := by unfold cmpD cmpI; rw [if_pos rfl, if_neg (by omega), if_neg (by omega)]
      rw [hc]; clear hc
      go_enter Try.func6, Try.ntmps6
      go_wp2
      go_ret
      exact ⟨rfl, ((Below.refl _ _).alloc (Nat.le_refl _) _).alloc (by simp) _⟩
    · have hc : cmpD h l h l' = 1 := by unfold cmpD cmpI; rw [if_pos rfl, if_neg (by omega), if_pos c]
      rw [hc]; clear hc
      have f1 : (l == l') = false := by simp; omega
      have f2 : ¬ l = l' := by omega
      have f3 : ¬ l < l' := by omega
      go_enter Try.func6, Try.ntmps6
      go_wp2
      go_ret
      exact ⟨rfl, ((Below.refl _ _).alloc (Nat.le_refl _) _).alloc (by simp) _⟩
  · have f0 : (h == h') = false := by simp [e1]
    rcases (by omega : h < h' ∨ h' < h) with c | c
    · have hc : cmpD h l h' l' = -1 := by unfold cmpD cmpI; rw [if_neg e1, if_pos c]
      rw [hc]; clear hc
      have f3 : ¬ h' < h := by omega
      go_enter Try.func6, Try.ntmps6
      go_wp2
      go_ret
      exact ⟨rfl, ((Below.refl _ _).alloc (Nat.le_refl _) _).alloc (by simp) _⟩
    · have hc : cmpD h l h' l' = 1 := by unfold cmpD cmpI; rw [if_neg e1, if_neg (by omega), if_pos c]
      rw [hc]; clear hc
      have f3 : ¬ h < h' := by omega
      go_enter Try.func6, Try.ntmps6
      go_wp2
      go_ret
      exact ⟨rfl, ((Below.refl _ _).alloc (Nat.le_refl _) _).alloc (by simp) _⟩

set_option maxHeartbeats 400000 in
theorem refcompare_any (h l h' l' : Int) (w : World) :
    Calls Try.prog 7 #[.agg #[.int .u64 h, .int .u64 l], .agg #[.int .u64 h', .int .u64 l']] w fun e w' => e = .returned (.int .i64 (cmpD h l h' l')) ∧ Below w.heap.size w w' := by
  by_cases e1 : h = h'
  · subst e1
    rcases Int.lt_trichotomy l l' with c | c | c
    · have hc : cmpD h l h l' = -1 := by unfold cmpD cmpI; rw [if_pos rfl, if_pos c]
      rw [hc]; clear hc
      have f1 : (l == l') = false := by simp; omega
      have f2 : ¬ l = l' := by omega
      have f3 : ¬ l' < l := by omega
      go_enter Try.func7, Try.ntmps7
      go_wp2
      go_ret
      exact ⟨rfl, ((Below.refl _ _).alloc (Nat.le_refl _) _).alloc (by simp) _⟩
    · subst c
      have hc : cmpD h l h l = 0 := by unfold cmpD cmpI; rw [if_pos rfl, if_neg (by omega), if_neg (by omega)]
      rw [hc]; clear hc
      go_enter Try.func7, Try.ntmps7
      go_wp2
      go_ret
      exact ⟨rfl, ((Below.refl _ _).alloc (Nat.le_refl _) _).alloc (by simp) _⟩
    · have hc : cmpD h l h l' = 1 := by unfold cmpD cmpI; rw [if_pos rfl, if_neg (by omega), if_pos c]
      rw [hc]; clear hc
      have f1 : (l == l') = false := by simp; omega
      have f2 : ¬ l = l' := by omega
      have f3 : ¬ l < l' := by omega
      go_enter Try.func7, Try.ntmps7
      go_wp2
      go_ret
      exact ⟨rfl, ((Below.refl _ _).alloc (Nat.le_refl _) _).alloc (by simp) _⟩
  · have f0 : (h == h') = false := by simp [e1]
    rcases (by omega : h < h' ∨ h' < h) with c | c
    · have hc : cmpD h l h' l' = -1 := by unfold cmpD cmpI; rw [if_neg e1, if_pos c]
      rw [hc]; clear hc
      have f3 : ¬ h' < h := by omega
      go_enter Try.func7, Try.ntmps7
      go_wp2
      go_ret
      exact ⟨rfl, ((Below.refl _ _).alloc (Nat.le_refl _) _).alloc (by simp) _⟩
    · have hc : cmpD h l h' l' = 1 := by unfold cmpD cmpI; rw [if_neg e1, if_neg (by omega), if_pos c]
      rw [hc]; clear hc
      have f3 : ¬ h < h' := by omega
      go_enter Try.func7, Try.ntmps7
      go_wp2
      go_ret
      exact ⟨rfl, ((Below.refl _ _).alloc (Nat.le_refl _) _).alloc (by simp) _⟩

theorem belNN {B : Nat} {w w' : World} (h : Below B w w') (n : Nat) : Below B w (w'.drewN n) := ⟨h.os, h.tape, h.output, h.size, h.block⟩
theorem SlY.st {w : World} {a : Option Addr} {n c : Nat} {L : List St} (h : SlY yT w a n c L) {j : Nat} {x : St} (hx : L[j]? = some x) : ∃ q o, a = some ⟨q, o, none⟩ ∧ q < w.heap.size ∧ w.cell? ⟨q, o + j * 3, none⟩ = some (.int .i64 x.n) ∧ w.cell? ⟨q, o + j * 3 + 1, none⟩ = some (.int .u64 x.h) ∧ w.cell? ⟨q, o + j * 3 + 2, none⟩ = some (.int .u64 x.l) := by
  obtain ⟨q, o, ea, hq, hl⟩ := h.place (by rintro rfl; simp at hx)
  exact ⟨q, o, ea, hq, hl j x hx 0 _ rfl, hl j x hx 1 _ rfl, hl j x hx 2 _ rfl⟩
theorem box3n {w w1 : World} {x0 x1 x2 : Value} {T : TypeId} {B : Nat} (hb : Below B (w.alloc (.cells #[x0, x1, x2] T)) w1) (hB : w.heap.size < B) : w1.cell? ⟨w.heap.size, 0, none⟩ = some x0 ∧ w1.cell? ⟨w.heap.size, 1, none⟩ = some x1 ∧ w1.cell? ⟨w.heap.size, 2, none⟩ = some x2 :=
  ⟨(hb.cell (p := ⟨w.heap.size, 0, none⟩) hB).trans (by simp), (hb.cell (p := ⟨w.heap.size, 1, none⟩) hB).trans (by simp), (hb.cell (p := ⟨w.heap.size, 2, none⟩) hB).trans (by simp)⟩
theorem zdraw (W : World) : (zeroValue 25).run Try.prog W = .ok (.agg #[.int .u64 0, .int .u64 0]) W := by kernel_rfl
set_option maxRecDepth 100000 in
set_option maxHeartbeats 1000000 in
theorem fresh_any (L : List St) (a : Option Addr) (c : Nat) (w : World) (h : SlY yT w a L.length c L) (hf : ∀ e ∈ L, e.fits) (hb24 : L.length * 24 ≤ 140737488351232) :
    Calls Try.prog 4 #[.slice a L.length c] w fun e w' => e = .returned (.tuple #[.bool (fr L).1, .int .i64 (fr L).2]) ∧ Below w.heap.size w w' := by
  have hmx := h.max
  have hcp := h.cap
  unfold maxLen at hmx
  have H := hide h
  have HF := hide hf
  clear h hf
  have HL : Hid (fr L = frA (L.take 0) (L.drop 0) 0) := by show _ = _; simp [fr]
  generalize fr L = X at *
  have hmm := @run_makeMap Try.prog
  go_enter Try.func4, Try.ntmps4
  go_wp2
  go_loopw [10] (fun i wr => ∃ j : Nat, i = .int .i64 (j : Int) ∧ j ≤ L.length ∧ MapF wr w.heap.size j (gxF (L.take j)) ∧ Hid (X = frA (L.take j) (L.drop j) j) ∧ Below w.heap.size w wr) (fun i _ => L.length - (intOf i).toNat)
  case atStart => exact ⟨0, rfl, Nat.zero_le _, MapF.made w, HL, (Below.refl _ _).alloc (Nat.le_refl _) _⟩
  case round =>
    obtain ⟨j, rfl, hj, hm, hL, hb⟩ := hrel
    by_cases hlt : j < L.length
    · have hg : L[j]? = some L[j] := List.getElem?_eq_getElem hlt
      have hat := frA_at hg
      have hfj := HF.out L[j] (List.getElem_mem hlt)
      obtain ⟨q, o, ea, hq, c0, c1, c2⟩ := (H.out.later hb).st hg
      have htk : L.take (j + 1) = L.take j ++ [L[j]] := by rw [List.take_add_one, hg]; rfl
      generalize L[j] = e at *
      have hsn : gx (L.take j) e.n < e.v → _ := fun h2 => gxF_snoc (L := L.take j) (e := e) hfj h2
      have hnn := gx_nonneg (L.take j) e.n
      have hev : e.v = nv e.h e.l := rfl
      obtain ⟨n, hh, ll⟩ := e
      dsimp only at c0 c1 c2 hat hsn hnn hev
      subst ea
      have hT := hide htk
      have hS := hide hsn
      have hsz := hb.size
      have hnw := hfj.nw
      have b1 := hfj.h0
      have b2 := hfj.l0
      dsimp only at hnw b1 b2
      have hmb := hm.lt
      have mh := hide hm
      have hgd := gxF_getD (L.take j) n
      generalize hge : gx (L.take j) n = G at *
      have cc := fun W => compare_any hh ll (G / 18446744073709551616) (G % 18446744073709551616) W
      have hle := cmpD_le (h := hh) (h' := G / 18446744073709551616) b2 (show 0 ≤ G % 18446744073709551616 ∧ G % 18446744073709551616 < 18446744073709551616 by omega)
      rw [nv_back, ← hev] at hle
      have bA := (Below.refl _ wr).alloc (Nat.le_refl _) (.cells #[.int .i64 n, .int .u64 hh, .int .u64 ll] 27)
      have hlk0 := (mh.out.later bA).look false Try.underlying31 (zdraw _) (s := n) hnw
      rw [hgd] at hlk0
      simp only [Bool.false_eq_true, if_false, dV] at hlk0
      have hA := hide hat
      have HEV := hide hev
      clear hat htk hsn hg hm hfj hge hev
      generalize cmpD hh ll (G / 18446744073709551616) (G % 18446744073709551616) = z at *
      generalize hv1 : (St.v ⟨n, hh, ll⟩) = V at *
      clear hv1
      generalize G / 18446744073709551616 = gd at *
      generalize G % 18446744073709551616 = gr at *
      by_cases hn : V ≤ G
      · have hz : z ≤ 0 := hle.2 hn
        have hE : Hid (X = (false, (j : Int))) := by show _ = _; rw [hL.out, hA.out, if_pos hn]
        clear hle
        go_wp2_with (go_at_call 6; refine (cc _).mono ?_; rintro e w2 ⟨rfl, b2⟩)
        go_ret2
        exact ⟨by rw [hE.out]; rfl, hb.trans ((bA.mono hsz).trans (b2.mono (by simp; omega)))⟩
      · have hz : ¬ z ≤ 0 := fun h => hn (hle.1 h)
        have hE : Hid (X = frA (L.take (j + 1)) (L.drop (j + 1)) (j + 1)) := by show _ = _; rw [hL.out, hA.out, if_neg hn]
        have hSS := hide (hS.out (by omega))
        clear hle hS
        go_wp2_with (first
          | (go_at_call 6; refine (cc _).mono ?_; rintro e w2 ⟨rfl, b2⟩; obtain ⟨y0, y1, y2⟩ := box3n b2 (by simp))
          | (at_mapUpdate; refine mapF_put _ rfl _ _ _ 31 rfl 25 Try.underlying31 w.heap.size j _ rfl ((mh.out.later bA).later b2) (by unfold maxLen; omega) n hnw (.agg #[.int .u64 hh, .int .u64 ll]) rfl rfl ?_; intro w3 hm3 hg3)
          | go_in)
        go_round
        case rel => exact ⟨j + 1, by go_num, by omega, by rw [hT.out, ← hSS.out]; exact hm3, hE, (hb.trans ((bA.mono hsz).trans (b2.mono (by simp; omega)))).grown hg3 (by have := b2.size; simp at this; omega) (fun k hk => by cases hk; exact Nat.le_refl _)⟩
        case measure => simp [intOf]; omega
    · obtain rfl : j = L.length := by omega
      have hE := hL.out
      rw [frA_end] at hE
      have HE := hide hE
      clear hE
      go_wp2
      go_ret2
      exact ⟨by rw [HE.out]; rfl, hb⟩

end Go.Proofs.Ytjidimegjegakaa
