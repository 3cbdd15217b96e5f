import Derived.Test.YtpkcoejjclmocaaCc
import Derived.Test.YtpkcoejjclmocaaYc
namespace Go.Proofs.Ytpkcoejjclmocaa
open Go.RowKit Go.Maps
set_option linter.unusedVariables false
set_option linter.unusedSimpArgs false

theorem OwnY.set0 {α : Type} {Y : Lay α} {B : Nat} {w : World} {v : Value} {l : List α} (h : OwnY Y B w v l) {i : Nat} {x : α} (hx : l[i]? = some x) : OwnY Y B w v (l.set i x) := by
  have e : l.set i x = l := by
    apply List.ext_getElem?
    intro j
    by_cases hj : i = j
    · subst hj
      rw [List.getElem?_set_self (List.getElem?_eq_some_iff.1 hx).1, hx]
    · rw [List.getElem?_set_ne hj]
  rw [e]; exact h
theorem OwnY.set2 {α : Type} {Y : Lay α} (K : Y.Ok) {B : Nat} {w : World} {g n c : Nat} {l : List α} {i : Nat} {x : α} (h : OwnY Y B w (.slice (some ⟨g, 0, none⟩) n c) (l.set i x)) (hi : i < l.length) (x' : α) (j : Nat) (u : Value) (hj : j < Y.k) (hc : Y.cs x' = (Y.cs x).set j u) :
    OwnY Y B (w.setCell ⟨g, i * Y.k + j, none⟩ u) (.slice (some ⟨g, 0, none⟩) n c) (l.set i x') := by
  have := h.set1 K (i := i) (x := x) (by simp [hi]) x' j u hj hc
  rw [List.set_set] at this
  exact this
theorem OwnY.lenN {α : Type} {Y : Lay α} {B : Nat} {w : World} {g n c : Nat} {l : List α} (h : OwnY Y B w (.slice (some ⟨g, 0, none⟩) n c) l) : l.length = n ∧ B ≤ g ∧ g < w.heap.size := by
  obtain ⟨a, c', e, _, _, _, h4⟩ := h.form
  injection e with e1 e2 _
  obtain ⟨g', e3, h5, h6⟩ := h4 _ e1.symm
  cases e3
  exact ⟨e2.symm, h5, h6⟩
/-- A row's cells, as they lie. -/
theorem OwnY.rw {B : Nat} {w : World} {g n c : Nat} {l : List Rw} (h : OwnY yR B w (.slice (some ⟨g, 0, none⟩) n c) l) {i : Nat} {x : Rw} (hx : l[i]? = some x) : w.cell? ⟨g, i * 7, none⟩ = some (.int .i64 x.c) ∧ w.cell? ⟨g, i * 7 + 1, none⟩ = some (.int .i64 x.n) ∧ w.cell? ⟨g, i * 7 + 2, none⟩ = some (.int .i64 x.p) ∧ w.cell? ⟨g, i * 7 + 3, none⟩ = some (.bool x.d) ∧ w.cell? ⟨g, i * 7 + 4, none⟩ = some (.int .i64 x.r.1) ∧ w.cell? ⟨g, i * 7 + 5, none⟩ = some (.int .i64 x.r.2.1) ∧ w.cell? ⟨g, i * 7 + 6, none⟩ = some (.string x.r.2.2) :=
  ⟨h.cell kR i x hx 0 _ rfl, h.cell kR i x hx 1 _ rfl, h.cell kR i x hx 2 _ rfl, h.cell kR i x hx 3 _ rfl, h.cell kR i x hx 4 _ rfl, h.cell kR i x hx 5 _ rfl, h.cell kR i x hx 6 _ rfl⟩
theorem OwnY.put7 {B : Nat} {w : World} {g n c : Nat} {l : List Rw} (h : OwnY yR B w (.slice (some ⟨g, 0, none⟩) n c) l) {i : Nat} (hi : i < l.length) (C N P : Int) (d : Bool) (r : Rs) :
    OwnY yR B (((((((w.setCell ⟨g, i * 7, none⟩ (.int .i64 C)).setCell ⟨g, i * 7 + 1, none⟩ (.int .i64 N)).setCell ⟨g, i * 7 + 2, none⟩ (.int .i64 P)).setCell ⟨g, i * 7 + 3, none⟩ (.bool d)).setCell ⟨g, i * 7 + 4, none⟩ (.int .i64 r.1)).setCell ⟨g, i * 7 + 5, none⟩ (.int .i64 r.2.1)).setCell ⟨g, i * 7 + 6, none⟩ (.string r.2.2)) (.slice (some ⟨g, 0, none⟩) n c) (l.set i ⟨C, N, P, d, r⟩) := by
  have hx : l[i]? = some l[i] := List.getElem?_eq_getElem hi
  generalize l[i] = x at hx
  obtain ⟨c0, n0, p0, d0, r0, r1, r2⟩ := x
  obtain ⟨s0, s1, s2⟩ := r
  have h0 := h.set0 hx
  have h1 := h0.set2 kR hi ⟨C, n0, p0, d0, r0, r1, r2⟩ 0 (.int .i64 C) (by decide) rfl
  have h2 := h1.set2 kR hi ⟨C, N, p0, d0, r0, r1, r2⟩ 1 (.int .i64 N) (by decide) rfl
  have h3 := h2.set2 kR hi ⟨C, N, P, d0, r0, r1, r2⟩ 2 (.int .i64 P) (by decide) rfl
  have h4 := h3.set2 kR hi ⟨C, N, P, d, r0, r1, r2⟩ 3 (.bool d) (by decide) rfl
  have h5 := h4.set2 kR hi ⟨C, N, P, d, s0, r1, r2⟩ 4 (.int .i64 s0) (by decide) rfl
  have h6 := h5.set2 kR hi ⟨C, N, P, d, s0, s1, r2⟩ 5 (.int .i64 s1) (by decide) rfl
  exact h6.set2 kR hi ⟨C, N, P, d, s0, s1, s2⟩ 6 (.string s2) (by decide) rfl
theorem OwnY.put4 {B : Nat} {w : World} {g n c : Nat} {l : List Rw} {i : Nat} {C N P : Int} {d0 : Bool} {r0 : Rs} (h : OwnY yR B w (.slice (some ⟨g, 0, none⟩) n c) (l.set i ⟨C, N, P, d0, r0⟩)) (hi : i < l.length) (d : Bool) (r : Rs) :
    OwnY yR B ((((w.setCell ⟨g, i * 7 + 3, none⟩ (.bool d)).setCell ⟨g, i * 7 + 4, none⟩ (.int .i64 r.1)).setCell ⟨g, i * 7 + 5, none⟩ (.int .i64 r.2.1)).setCell ⟨g, i * 7 + 6, none⟩ (.string r.2.2)) (.slice (some ⟨g, 0, none⟩) n c) (l.set i ⟨C, N, P, d, r⟩) := by
  obtain ⟨r0, r1, r2⟩ := r0
  obtain ⟨s0, s1, s2⟩ := r
  have h4 := h.set2 kR hi ⟨C, N, P, d, r0, r1, r2⟩ 3 (.bool d) (by decide) rfl
  have h5 := h4.set2 kR hi ⟨C, N, P, d, s0, r1, r2⟩ 4 (.int .i64 s0) (by decide) rfl
  have h6 := h5.set2 kR hi ⟨C, N, P, d, s0, s1, r2⟩ 5 (.int .i64 s1) (by decide) rfl
  exact h6.set2 kR hi ⟨C, N, P, d, s0, s1, s2⟩ 6 (.string s2) (by decide) rfl
def zRw : Rw := ⟨0, 0, 0, false, zR⟩
set_option maxRecDepth 100000 in
set_option maxHeartbeats 1000000 in
theorem rows_any (L : List En) (a : Option Addr) (c k : Nat) (w : World) (h : SlY yE w a L.length c L) (hf : ∀ e ∈ L, e.fits) (hl : L.length ≤ 256) (hk : k ≤ L.length) :
    Calls Try.prog 39 #[.slice a L.length c, .int .i64 (k : Int)] w fun e w' => ∃ g, e = .returned (.slice (some ⟨g, 0, none⟩) L.length L.length) ∧ OwnY yR w.heap.size w' (.slice (some ⟨g, 0, none⟩) L.length L.length) (rws L k) ∧ Below w.heap.size w w' := by
  have hmx := h.max
  have hcp := h.cap
  unfold maxLen at hmx
  have cc := carry_any (L.take k) a c w (by have := h.take k hk; rw [List.length_take, Nat.min_eq_left hk]; exact this) (fun e he => hf e (List.mem_of_mem_take he)) (by simp; omega)
  rw [List.length_take, Nat.min_eq_left hk, rsL_take] at cc
  have H := hide h
  clear h hf
  go_enter Try.func39, Try.ntmps39
  go_wp2_with (first
    | (go_at_call 59; refine cc.mono ?_; rintro e w1 ⟨vr, rfl, o1, b1⟩; have z1 := b1.size)
    | (at_make; go_must (refine makeY kR _ rfl (.tmp 14) rfl L.length rfl (by unfold maxLen; omega) (by show L.length * 64 ≤ _; omega) ?_; intro w2 o2 b2)))
  have hRl : ((rsL L).take k).length = k := by rw [List.length_take, rsL_length]; omega
  obtain ⟨av, cv, ev, hv1, hv2, hv3, hv4⟩ := o1.form
  rw [hRl] at ev hv1
  subst ev
  unfold maxLen at hv2
  have hRg : Hid (∀ j, j < k → ((rsL L).take k)[j]? = some ((rsL L).getD j zR)) := by
    intro j hj
    rw [List.getElem?_take, if_pos hj, List.getD_eq_getElem?_getD, List.getElem?_eq_getElem (by rw [rsL_length]; omega)]
    rfl
  have hvg : Hid (∀ x, av = some x → ∃ b, x = ⟨b, 0, none⟩ ∧ b ≠ w1.heap.size) := fun x hx => by
    obtain ⟨b, e, _, hb⟩ := hv4 x hx
    exact ⟨b, e, by omega⟩
  have hvn : Hid (av = none → k = 0) := fun e => by
    have := (hv3 e).1
    rw [this] at hRl
    simpa using hRl.symm
  have OR := hide (o1.grow b2)
  have OT : Hid (OwnY yR w.heap.size w2 (.slice (some ⟨w1.heap.size, 0, none⟩) L.length L.length) ((rws L k).take 0 ++ List.replicate (L.length - 0) zRw)) := (o2.low z1)
  have BB := hide (b1.trans (b2.mono z1))
  clear o1 o2 b1 b2 hRl hv3 hv4
  have HR := hide (show ∀ (j : Nat) (e : En), L[j]? = some e → (rws L k).take (j + 1) = (rws L k).take j ++ [rwA (rsL L) k j e] from fun j e he => by rw [List.take_add_one, rws_get k he]; rfl)
  have HRL := hide (show ∀ j, j ≤ L.length → ((rws L k).take j).length = j from fun j hj => by rw [List.length_take, rws_length]; omega)
  have HRE := hide (show (rws L k).take L.length = rws L k from List.take_of_length_le (by rw [rws_length]; exact Nat.le_refl _))
  obtain ⟨g, hgw⟩ : ∃ g, g = w1.heap.size := ⟨_, rfl⟩
  rw [← hgw] at OT hvg
  have hgz : w.heap.size ≤ g := by omega
  have HZ := hide hgw
  go_wp2
  rw [← HZ.out]
  clear HZ hgw
  go_loopw [18] (fun i wr => ∃ j : Nat, i = .int .i64 (j : Int) ∧ j ≤ L.length ∧ OwnY yR w.heap.size wr (.slice (some ⟨g, 0, none⟩) L.length L.length) ((rws L k).take j ++ List.replicate (L.length - j) zRw) ∧ Own3 43 w.heap.size wr (.slice av k cv) ((rsL L).take k) ∧ Below w.heap.size w wr) (fun i _ => L.length - (intOf i).toNat)
  case atStart => exact ⟨0, rfl, Nat.zero_le _, OT.out, OR.out, BB.out⟩
  case round =>
    obtain ⟨j, rfl, hj, oT, oR, hb⟩ := hrel
    by_cases hlt : j < L.length
    · have hg : L[j]? = some L[j] := List.getElem?_eq_getElem hlt
      obtain ⟨q, o, ea, hq, c0, c1, c2, c3, c4⟩ := (H.out.later hb).en hg
      have hq2 : q ≠ g := fun e => by
        obtain ⟨q', o', ea', hq', _⟩ := H.out.en hg
        rw [ea] at ea'
        cases ea'
        omega
      have hsn := HR.out j _ hg
      have hrl := HRL.out j hj
      generalize (rws L k).take j = X at *
      generalize L[j] = e at *
      obtain ⟨C, N, ⟨ok, os, ov⟩⟩ := e
      dsimp only at c0 c1 c2 c3 c4
      subst ea
      have hrep : List.replicate (L.length - j) zRw = zRw :: List.replicate (L.length - (j + 1)) zRw := by
        rw [show L.length - j = (L.length - (j + 1)) + 1 by omega, List.replicate_succ]
      rw [hrep] at oT
      have hset : ∀ x, Hid ((X ++ zRw :: List.replicate (L.length - (j + 1)) zRw).set j x = (X ++ [x]) ++ List.replicate (L.length - (j + 1)) zRw) := fun x => by
        show _ = _
        rw [List.set_append_right _ _ (by omega), hrl, Nat.sub_self]
        simp
      have hlen : Hid (j < (X ++ zRw :: List.replicate (L.length - (j + 1)) zRw).length) := by
        show _ < _
        rw [List.length_append, hrl, List.length_cons]
        omega
      have hget : (X ++ zRw :: List.replicate (L.length - (j + 1)) zRw)[j]? = some zRw := by
        rw [List.getElem?_append_right (by omega), hrl, Nat.sub_self]
        rfl
      have SN := hide hsn
      clear hrep hrl hg hsn
      generalize X ++ zRw :: List.replicate (L.length - (j + 1)) zRw = XX at *
      obtain ⟨_, hg1, hg2⟩ := oT.lenN
      have hsz := hb.size
      have bA := (Below.refl _ wr).alloc (Nat.le_refl _) (.cells #[.int .i64 C, .int .i64 N, .int .i64 ok, .int .i64 os, .string ov] 61)
      have bT := hide (hb.trans (bA.mono hsz))
      have OT2 := hide (oT.alloc (.cells #[.int .i64 C, .int .i64 N, .int .i64 ok, .int .i64 os, .string ov] 61))
      have OR2 := hide (oR.alloc (.cells #[.int .i64 C, .int .i64 N, .int .i64 ok, .int .i64 os, .string ov] 61))
      have HG := hide hget
      clear oT hget bA
      by_cases hjk : j < k
      · obtain ⟨x, hx⟩ : ∃ x, av = some x := by
          cases av with
          | none => have := hvn.out rfl; omega
          | some x => exact ⟨x, rfl⟩
        obtain ⟨b, rfl, hbg⟩ := hvg.out x hx
        subst hx
        have hbl : b < wr.heap.size := by
          obtain ⟨_, _, ee, _, _, _, h4⟩ := oR.form
          injection ee with ee
          obtain ⟨g', e2, _, h5⟩ := h4 _ ee.symm
          cases e2
          exact h5
        obtain ⟨r0, r1, r2⟩ := OR2.out.cell j _ (hRg.out j hjk)
        have hrw : Hid (rwA (rsL L) k j ⟨C, N, ⟨ok, os, ov⟩⟩ = ⟨C, N, (j : Int) + 1, true, (rsL L).getD j zR⟩) := by
          show _ = _
          simp [rwA, hjk]
        generalize (rsL L).getD j zR = r at *
        obtain ⟨s0, s1, s2⟩ := r
        dsimp only at r0 r1 r2
        have RR : Hid (∀ W, Upd (fun b => b = g) (wr.alloc (.cells #[.int .i64 C, .int .i64 N, .int .i64 ok, .int .i64 os, .string ov] 61)) W → W.cell? ⟨b, j * 3, none⟩ = some (.int .i64 s0) ∧ W.cell? ⟨b, j * 3 + 1, none⟩ = some (.int .i64 s1) ∧ W.cell? ⟨b, j * 3 + 2, none⟩ = some (.string s2)) := fun W u =>
          ⟨(u.cell (p := ⟨b, j * 3, none⟩) (by simp; omega) hbg).trans r0, (u.cell (p := ⟨b, j * 3 + 1, none⟩) (by simp; omega) hbg).trans r1, (u.cell (p := ⟨b, j * 3 + 2, none⟩) (by simp; omega) hbg).trans r2⟩
        clear oR r0 r1 r2
        go_wp2_with (first
          | (refine storeY kR _ rfl 57 (.tmp 32) (.tmp 31) rfl w.heap.size g L.length L.length XX j 0 zRw ⟨C, N, (j : Int) + 1, false, zR⟩ _ rfl rfl HG.out (by kernel_rfl) (by exact (by decide : 7 ≤ 7)) rfl OT2.out ?_; intro w3 o3 u3 z3; obtain ⟨r0, r1, r2⟩ := RR.out w3 u3; have g3 : (XX.set j ⟨C, N, (j : Int) + 1, false, zR⟩)[j]? = some ⟨C, N, (j : Int) + 1, false, zR⟩ := List.getElem?_set_self hlen.out; have O3 := hide o3; have G3 := hide g3; clear o3 g3)
          | (refine storeY kR _ rfl 4 (.tmp 45) (.const (.bool true)) rfl w.heap.size g L.length L.length _ j 3 _ ⟨C, N, (j : Int) + 1, true, zR⟩ _ rfl rfl G3.out (by kernel_rfl) (by exact (by decide : 4 ≤ 7)) rfl O3.out ?_; intro w4 o4 u4 z4; rw [List.set_set] at o4; have g4 : (XX.set j ⟨C, N, (j : Int) + 1, true, zR⟩)[j]? = some ⟨C, N, (j : Int) + 1, true, zR⟩ := List.getElem?_set_self hlen.out; have O4 := hide o4; have G4 := hide g4; clear o4 g4)
          | (refine storeY kR _ rfl 43 (.tmp 47) (.tmp 43) rfl w.heap.size g L.length L.length _ j 4 _ ⟨C, N, (j : Int) + 1, true, (s0, s1, s2)⟩ _ rfl rfl G4.out (by kernel_rfl) (by exact (by decide : 7 ≤ 7)) rfl O4.out ?_; intro w5 o5 u5 z5; rw [List.set_set] at o5; have O5 := hide o5; clear o5)
          | go_in)
        go_round
        case rel =>
          have U := (u3.trans u4).trans u5
          refine ⟨j + 1, by go_num, by omega, by rw [SN.out, hrw.out, ← (hset _).out]; exact O5.out, OR2.out.upd1 U (fun g' e => by cases e; exact hbg), bT.out.trans (U.below (by simp; omega) (fun k e => by subst e; exact hgz))⟩
        case measure => simp [intOf]; omega
      · have hrw : Hid (rwA (rsL L) k j ⟨C, N, ⟨ok, os, ov⟩⟩ = ⟨C, N, (j : Int) + 1, false, zR⟩) := by
          show _ = _
          simp [rwA, hjk]
        have hvg2 : Hid (∀ g', (Value.slice av k cv).ownBlock = some g' → g' ≠ g) := fun g' e => by
          cases av with
          | none => cases e
          | some x =>
            obtain ⟨b, rfl, hbg⟩ := hvg.out x rfl
            cases e
            exact hbg
        clear oR
        go_wp2_with (first
          | (refine storeY kR _ rfl 57 (.tmp 32) (.tmp 31) rfl w.heap.size g L.length L.length XX j 0 zRw ⟨C, N, (j : Int) + 1, false, zR⟩ _ rfl rfl HG.out (by kernel_rfl) (by exact (by decide : 7 ≤ 7)) rfl OT2.out ?_; intro w3 o3 u3 z3; have O3 := hide o3; clear o3)
          | go_in)
        go_round
        case rel =>
          refine ⟨j + 1, by go_num, by omega, by rw [SN.out, hrw.out, ← (hset _).out]; exact O3.out, OR2.out.upd1 u3 hvg2.out, bT.out.trans (u3.below (by simp; omega) (fun k e => by subst e; exact hgz))⟩
        case measure => simp [intOf]; omega
    · obtain rfl : j = L.length := by omega
      rw [HRE.out, Nat.sub_self, List.replicate_zero, List.append_nil] at oT
      have oTh := hide oT
      clear oT oR
      go_wp2
      go_ret
      exact ⟨g, rfl, oTh.out, hb⟩

end Go.Proofs.Ytpkcoejjclmocaa
