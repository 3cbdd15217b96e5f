import Derived.Orders
import Derived.Test.YtjfbkeommlopmaaGreatDoorE1
namespace Go.Proofs.YtjfbkeommlopmaaGreatDoor
open Go.RowKit Go.Shelf
open Classical
set_option linter.unusedVariables false
set_option linter.unusedSimpArgs false
attribute [local go_sem] Oper.semAt_some
def ckA : List En → List En → Int × Int
  | _, [] => (0, 0)
  | past, e :: r => if er past e ≠ 0 then (er past e, (past.length : Int) + 1) else ckA (past ++ [e]) r
def chk (L : List En) (room : Int) : Int × Int := if room < 1 ∨ 256 < room then (3, 0) else if room < L.length then (60, room) else ckA [] L
theorem ckA_at {L : List En} {j : Nat} {e : En} (h : L[j]? = some e) : ckA (L.take j) (L.drop j) = if er (L.take j) e ≠ 0 then (er (L.take j) e, (j : Int) + 1) else ckA (L.take (j + 1)) (L.drop (j + 1)) := by
  have hj := (List.getElem?_eq_some_iff.1 h).1
  have he := (List.getElem?_eq_some_iff.1 h).2
  have hl : (L.take j).length = j := by rw [List.length_take]; omega
  rw [List.drop_eq_getElem_cons hj, he, ckA, List.take_add_one, h, hl]
  rfl
theorem ckA_end (L : List En) : ckA (L.take L.length) (L.drop L.length) = (0, 0) := by simp [ckA]
set_option maxRecDepth 100000 in
theorem checkent_any (C N k s : Int) (v : ByteArray) (hf : (⟨k, s, v⟩ : Opn).fits) (w : World) :
    Calls Tryz.prog 136 #[.agg #[.int .i64 C, .int .i64 N, .int .i64 k, .int .i64 s, .string v]] w fun e w' => e = .returned (.int .i64 (ckE ⟨C, N, ⟨k, s, v⟩⟩)) ∧ Below w.heap.size w w' := by
  have cc := fun W => check_any ⟨k, s, v⟩ hf W
  dsimp only [Opn.val] at cc
  have bA := (Below.refl w.heap.size w).alloc (Nat.le_refl _) (.cells #[.int .i64 C, .int .i64 N, .int .i64 k, .int .i64 s, .string v] 28)
  by_cases h1 : C < 0
  · have hE : Hid (ckE ⟨C, N, ⟨k, s, v⟩⟩ = 62) := by show _ = _; simp [ckE, h1]
    have d1 : decide (C < 0) = true := by simpa using h1
    go_enter Tryz.func136, Tryz.ntmps136
    go_wp2
    go_ret
    exact ⟨ret_int hE.out.symm, bA⟩
  · by_cases h2 : 16 ≤ C
    · have hE : Hid (ckE ⟨C, N, ⟨k, s, v⟩⟩ = 62) := by show _ = _; simp [ckE, h2]
      go_enter Tryz.func136, Tryz.ntmps136
      go_wp2
      go_ret
      exact ⟨ret_int hE.out.symm, bA⟩
    · by_cases h3 : N < 1
      · have hE : Hid (ckE ⟨C, N, ⟨k, s, v⟩⟩ = 63) := by show _ = _; simp [ckE, h1, h2, h3]
        go_enter Tryz.func136, Tryz.ntmps136
        go_wp2
        go_ret
        exact ⟨ret_int hE.out.symm, bA⟩
      · have hE : Hid (ckE ⟨C, N, ⟨k, s, v⟩⟩ = ck k s v) := by show _ = _; simp [ckE, h1, h2, h3]
        generalize ck k s v = x at *
        go_enter Tryz.func136, Tryz.ntmps136
        go_wp2_with (go_at_call 148; refine (cc _).mono ?_; rintro e w2 ⟨rfl, b2⟩)
        go_ret
        exact ⟨ret_int hE.out.symm, bA.trans (b2.mono (by simp))⟩
def gml (L : List En) : List Value := (List.range 16).map fun (c : Nat) => .int .i64 (gm L (c : Int))
theorem gml_get (L : List En) {c : Nat} (h : c < 16) : (gml L)[c]? = some (.int .i64 (gm L (c : Int))) := by simp [gml, h]
theorem gml_len (L : List En) : (gml L).length = 16 := by simp [gml]
theorem gml_set {L : List En} {e : En} {c : Nat} (hc : e.c = (c : Int)) (h16 : c < 16) (hn : gm L e.c < e.n) : (gml L).set c (.int .i64 e.n) = gml (L ++ [e]) := by
  apply List.ext_getElem?
  intro i
  by_cases h : i < 16
  · rw [gml_get _ h, gm_snoc, List.getElem?_set]
    by_cases hs : c = i
    · subst hs
      rw [hc] at hn ⊢
      have : max (gm L (c : Int)) e.n = e.n := by omega
      simp [gml_len, h, this]
    · have : ¬ (e.c = (i : Int)) := by rw [hc]; omega
      simp [hs, this, gml_get L h]
  · rw [List.getElem?_eq_none (by rw [List.length_set, gml_len]; omega), List.getElem?_eq_none (by rw [gml_len]; omega)]
theorem setc_other {w : World} {b b' i j : Nat} {u x : Value} (h : w.cell? ⟨b, i, none⟩ = some x) (hne : b ≠ b') : (w.setCell ⟨b', j, none⟩ u).cell? ⟨b, i, none⟩ = some x :=
  (World.cell?_of_block (a := ⟨b, i, none⟩) (Below.heap_setCell w ⟨b', j, none⟩ u b hne)).trans h
def ChkI (w4 : World) (N : Nat) (L : List En) (X : Int × Int) (i : Nat) (W : World) : Prop := Upd (· = N) w4 W ∧ Arr W N 209 (gml (L.take i)) ∧ X = ckA (L.take i) (L.drop i)
set_option maxRecDepth 100000 in
set_option maxHeartbeats 1000000 in
theorem checkO_any (L : List En) (a : Option Addr) (n c : Nat) (room : Int) (w : World) (h : SlY yE w a n c L) (hf : ∀ e ∈ L, e.fits) :
    Calls Tryz.prog 114 #[.slice a n c, .int .i64 room] w fun e w' => e = .returned (.tuple #[.int .i64 (chk L room).1, .int .i64 (chk L room).2]) ∧ Below w.heap.size w w' := by
  have hln := h.len
  have hcp := h.cap
  have hmx := h.max
  unfold maxLen at hmx
  have H := hide h
  have HF := hide hf
  clear h hf
  subst hln
  by_cases h1 : room < 1
  · have hE : Hid (chk L room = (3, 0)) := by show _ = _; simp [chk, h1]
    rw [hE.out]
    have d1 : decide (room < 1) = true := by simpa using h1
    go_enter Tryz.func114, Tryz.ntmps114
    go_wp2
    refine bodyPost_ret (v := .tuple #[.int .i64 3, .int .i64 0]) (by simp [results, Tryz.f114, go_sem]) rfl ⟨rfl, ((Below.refl _ _).alloc (Nat.le_refl _) _).alloc (by simp) _⟩
  · by_cases h2 : 256 < room
    · have hE : Hid (chk L room = (3, 0)) := by show _ = _; simp [chk, h2]
      rw [hE.out]
      go_enter Tryz.func114, Tryz.ntmps114
      go_wp2
      refine bodyPost_ret (v := .tuple #[.int .i64 3, .int .i64 0]) (by simp [results, Tryz.f114, go_sem]) rfl ⟨rfl, ((Below.refl _ _).alloc (Nat.le_refl _) _).alloc (by simp) _⟩
    · by_cases h3 : room < (L.length : Int)
      · have hE : Hid (chk L room = (60, room)) := by show _ = _; simp [chk, h1, h2, h3]
        rw [hE.out]
        go_enter Tryz.func114, Tryz.ntmps114
        go_wp2
        refine bodyPost_ret (v := .tuple #[.int .i64 60, .int .i64 room]) (by simp [results, Tryz.f114, go_sem]) rfl ⟨rfl, ((Below.refl _ _).alloc (Nat.le_refl _) _).alloc (by simp) _⟩
      · have hE : Hid (chk L room = ckA (L.take 0) (L.drop 0)) := by show _ = _; simp [chk, h1, h2, h3]
        have hb : L.length * 48 ≤ 140737488355328 := by omega
        refine (callsIn_wide (n := 4)).1 ?_
        refine callsIn_of_wp_marks Tryz.func114 rfl trivial ?_ rfl
        simp only [Tryz.ntmps114, List.size_toArray, List.length_cons, List.length_nil, Nat.reduceAdd, Nat.reduceSub, Array.replicate_succ, Array.replicate_zero, List.push_toArray, List.append_toArray, List.nil_append, List.cons_append]
        generalize chk L room = X at *
        gi_wp2_with fail
        refine ⟨trivial, ?_⟩
        obtain ⟨w3, hw3⟩ : ∃ w3, (((w.alloc (Obj.cells #[Value.int IntKind.i64 0] 47)).alloc (Obj.cells #[Value.int IntKind.i64 0] 3)).alloc (Obj.cells #[Value.int IntKind.i64 0, Value.int IntKind.i64 0, Value.int IntKind.i64 0, Value.int IntKind.i64 0, Value.int IntKind.i64 0, Value.int IntKind.i64 0, Value.int IntKind.i64 0, Value.int IntKind.i64 0, Value.int IntKind.i64 0, Value.int IntKind.i64 0, Value.int IntKind.i64 0, Value.int IntKind.i64 0, Value.int IntKind.i64 0, Value.int IntKind.i64 0, Value.int IntKind.i64 0, Value.int IntKind.i64 0] 209)) = w3 := ⟨_, rfl⟩
        rw [hw3]
        have b3 : Below w.heap.size w w3 := by rw [← hw3]; exact (((Below.refl _ _).alloc (Nat.le_refl _) _).alloc (by simp) _).alloc (by simp; omega) _
        have z3 : w3.heap.size = w.heap.size + 3 := by rw [← hw3]; simp
        have c0 : w3.cell? ⟨w.heap.size, 0, none⟩ = some (.int .i64 0) := by subst hw3; go_simp
        have c1 : w3.cell? ⟨w.heap.size + 1, 0, none⟩ = some (.int .i64 0) := by subst hw3; go_simp
        have f0 : w3.frozen? ⟨w.heap.size, 0, none⟩ = false := by subst hw3; go_simp
        have f1 : w3.frozen? ⟨w.heap.size + 1, 0, none⟩ = false := by subst hw3; go_simp
        have ar : Arr w3 (w.heap.size + 1 + 1) 209 (gml (L.take 0)) := by
          have := Arr.new ((w.alloc (Obj.cells #[Value.int IntKind.i64 0] 47)).alloc (Obj.cells #[Value.int IntKind.i64 0] 3)) 209 16 (.int .i64 0) (by omega)
          rw [World.size_alloc, World.size_alloc] at this
          rw [← hw3]
          exact this
        clear hw3
        refine (callsIn_wide.2 (eachO_one L a L.length c w3 (H.out.later b3) hb)).mono ?_
        rintro e w4 ⟨g, k, f, rfl, ea⟩
        have d0 := (ea.bel.cell (p := ⟨w.heap.size, 0, none⟩) (by show w.heap.size < _; omega)).trans c0
        have d1 := (ea.bel.cell (p := ⟨w.heap.size + 1, 0, none⟩) (by show w.heap.size + 1 < _; omega)).trans c1
        have g0 := (ea.bel.frozen (p := ⟨w.heap.size, 0, none⟩) (by show w.heap.size < _; omega)).trans f0
        have g1 := (ea.bel.frozen (p := ⟨w.heap.size + 1, 0, none⟩) (by show w.heap.size + 1 < _; omega)).trans f1
        have ar4 := hide (ar.later ea.bel)
        have b4 : Below w.heap.size w w4 := b3.trans (ea.bel.mono (by omega))
        have z4 : w.heap.size + 3 ≤ w4.heap.size := by have := ea.bel.size; omega
        clear c0 c1 f0 f1 b3 ar
        obtain ⟨gb, lt, kc, fc, row, _⟩ := ea
        obtain ⟨l1, l2, l3⟩ := lt
        have lie : LieY yE w4 g 0 L := fun i x hx j u hu => by rw [Nat.zero_add]; exact row.cell kE i x hx j u hu
        have hN : Hid (g ≠ w.heap.size + 1 + 1 ∧ k ≠ w.heap.size + 1 + 1 ∧ f ≠ w.heap.size + 1 + 1) := by show _ ∧ _; omega
        clear z3 row
        have HB4 := hide b4
        have HZ4 := hide z4
        have HL := hide lie
        clear b4 z4 lie gb
        gi_wp2
        refine over_each (n := 4) (by omega) L 1 k f g rfl rfl (by omega) (by omega) hb l2 l3 l1 kc fc HL.out
          (ChkI w4 (w.heap.size + 1 + 1) L X)
          (fun cd i W => cd = .ret ∧ (W.cell? ⟨w.heap.size, 0, none⟩ = some (.int .i64 X.1) ∧ W.cell? ⟨w.heap.size + 1, 0, none⟩ = some (.int .i64 X.2)) ∧ Upd (fun k => w.heap.size ≤ k) w4 W)
          (fun i W W' row hi hg hr => ⟨up_row hi.1 hg hr, hi.2.1.upd (S := fun k => row = some k) (gupd hg (fun _ e => e)) (fun e => by have := hr _ e; have := HZ4.out; omega), hi.2.2⟩)
          (fun cd i W W' hi hg => ⟨hi.1, ⟨gcell hg hi.2.1.1 (fun e => by injection e with e; have := HZ4.out; omega), gcell hg hi.2.1.2 (fun e => by injection e with e; have := HZ4.out; omega)⟩, up_row hi.2.2 hg (fun r e => by cases e; rfl)⟩)
          (fun i W hi => ⟨hi.1.size, fun j hj => hi.1.block j (by rcases hj with rfl | rfl | rfl <;> assumption) (by have := hN.out; rcases hj with rfl | rfl | rfl <;> omega)⟩)
          ⟨Upd.refl _ _, ar4.out, hE.out⟩ ?round ?done ?stop
        case round =>
          rintro i x W hx ⟨u, hA, hf⟩ hlt
          have hil := (List.getElem?_eq_some_iff.1 hx).1
          have hst := ckA_at hx
          have htk : L.take (i + 1) = L.take i ++ [x] := by rw [List.take_add_one, hx]; rfl
          have hfx := (HF.out x (List.mem_of_getElem? hx)).ow
          have her : er (L.take i) x = if ckE x ≠ 0 then ckE x else if tw (L.take i) x then 64 else 0 := rfl
          have HST := hide hst
          have HTK := hide htk
          have HER := hide her
          clear hst htk her hx
          obtain ⟨xc, xn, ⟨ok, os, ov⟩⟩ := x
          dsimp only [En.val]
          have HA1 := hide hA
          have HU := hide u
          have HLT := hide hlt
          have HF1 := hide hf
          clear hA u hlt hf
          gi_wp2
          have zl := HZ4.out
          have hlt := HLT.out
          have u := HU.out
          have us := u.size
          refine ⟨⟨⟨u.alloc _, HA1.out.later ((Below.refl _ _).alloc (Nat.le_refl _) _), HF1.out⟩, Below.heap_alloc _ _ _ (by omega), Below.heap_alloc _ _ _ hlt⟩, ?_⟩
          rintro W2 ⟨u2, hA2, hf2⟩ hg2
          have HA2 := hide hA2
          clear hA2 HA1
          have e0 : W2.cell? ⟨W.heap.size, 0, none⟩ = some (.int .i64 xc) := gcell hg2 (World.cell?_alloc_at _ _ _ _ rfl) (fun e => by injection e with e; omega)
          have e1 : W2.cell? ⟨W.heap.size, 1, none⟩ = some (.int .i64 xn) := gcell hg2 (World.cell?_alloc_at _ _ _ _ rfl) (fun e => by injection e with e; omega)
          have e2 : W2.cell? ⟨W.heap.size, 2, none⟩ = some (.int .i64 ok) := gcell hg2 (World.cell?_alloc_at _ _ _ _ rfl) (fun e => by injection e with e; omega)
          have e3 : W2.cell? ⟨W.heap.size, 3, none⟩ = some (.int .i64 os) := gcell hg2 (World.cell?_alloc_at _ _ _ _ rfl) (fun e => by injection e with e; omega)
          have e4 : W2.cell? ⟨W.heap.size, 4, none⟩ = some (.string ov) := gcell hg2 (World.cell?_alloc_at _ _ _ _ rfl) (fun e => by injection e with e; omega)
          have hW2 : W.heap.size < W2.heap.size := by have := hg2.size; simp at this; omega
          have cc := hide (fun W => checkent_any xc xn ok os ov hfx W)
          clear hfx
          gi_wp2_with fail
          refine ⟨trivial, ?_⟩
          refine (CallsIn.inRound _ (callsIn_wide.2 (cc.out _))).mono ?_
          rintro e w5 ⟨rfl, b5⟩
          have HU5 := hide (u2.trans (Upd.of_below b5))
          have HA5 := hide (HA2.out.later b5)
          have e0 := (b5.cell (p := ⟨W.heap.size, 0, none⟩) hW2).trans e0
          have e1 := (b5.cell (p := ⟨W.heap.size, 1, none⟩) hW2).trans e1
          have i0 := (HU5.out.cell (p := ⟨w.heap.size, 0, none⟩) (by show w.heap.size < _; omega) (by show w.heap.size ≠ _; omega)).trans d0
          have j0 := (HU5.out.frozen (p := ⟨w.heap.size, 0, none⟩) (by show w.heap.size < _; omega) (by show w.heap.size ≠ _; omega)).trans g0
          have i1 := (HU5.out.cell (p := ⟨w.heap.size + 1, 0, none⟩) (by show w.heap.size + 1 < _; omega) (by show w.heap.size + 1 ≠ _; omega)).trans d1
          have j1 := (HU5.out.frozen (p := ⟨w.heap.size + 1, 0, none⟩) (by show w.heap.size + 1 < _; omega) (by show w.heap.size + 1 ≠ _; omega)).trans g1
          have HZ0 : Hid (w5.heap[w4.heap.size]? = W2.heap[w4.heap.size]? ∧ w5.heap[w4.heap.size + 1]? = W2.heap[w4.heap.size + 1]?) := ⟨b5.block _ (by omega), b5.block _ (by omega)⟩
          have HD : Hid (w4.heap.size ≠ w.heap.size ∧ w4.heap.size ≠ w.heap.size + 1 ∧ w4.heap.size ≠ w.heap.size + 1 + 1 ∧ w4.heap.size + 1 ≠ w.heap.size ∧ w4.heap.size + 1 ≠ w.heap.size + 1 ∧ w4.heap.size + 1 ≠ w.heap.size + 1 + 1) := by show _ ∧ _; omega
          have hv : Hid ((1 : Int) + (i : Int) = (i : Int) + 1) := by show _ = _; omega
          have RET : Hid (∀ v : Int, X = (v, (i : Int) + 1) → ∀ w6 : World, Upd (· = w.heap.size + 1 + 1) w4 w6 → (w6.heap[w4.heap.size]? = W2.heap[w4.heap.size]? ∧ w6.heap[w4.heap.size + 1]? = W2.heap[w4.heap.size + 1]?) → w6.cell? ⟨w.heap.size, 0, none⟩ = some (.int .i64 0) → w6.cell? ⟨w.heap.size + 1, 0, none⟩ = some (.int .i64 0) → ∀ af, eachPost (ChkI w4 (w.heap.size + 1 + 1) L X)
    (fun cd i W => cd = .ret ∧ (W.cell? ⟨w.heap.size, 0, none⟩ = some (.int .i64 X.1) ∧ W.cell? ⟨w.heap.size + 1, 0, none⟩ = some (.int .i64 X.2)) ∧ Upd (fun k => w.heap.size ≤ k) w4 W) w4.heap.size i W2 Exit.ret af ((w6.setCell ⟨w.heap.size, 0, none⟩ (Value.int .i64 v)).setCell ⟨w.heap.size + 1, 0, none⟩ (Value.int .i64 (1 + (i : Int))))) := by
            intro v hX w6 u6 hz6 k0 k1 af
            refine ⟨⟨?_, ?_⟩, rfl, ⟨?_, ?_⟩, ?_⟩
            · rw [Below.heap_setCell _ _ _ _ HD.out.2.1, Below.heap_setCell _ _ _ _ HD.out.1]
              exact hz6.1
            · rw [Below.heap_setCell _ _ _ _ HD.out.2.2.2.2.1, Below.heap_setCell _ _ _ _ HD.out.2.2.2.1]
              exact hz6.2
            · rw [hX]
              exact setc_other (setc_eq k0) (by omega)
            · rw [hX, ← hv.out]
              exact setc_eq (setc_other k1 (by omega))
            · refine Upd.setCell (S := fun k => w.heap.size ≤ k) (Upd.setCell (S := fun k => w.heap.size ≤ k) (u6.mono (fun k _ h => ?_)) (.inl ?_) _) (.inl ?_) _
              · rw [h]; omega
              · exact Nat.le_refl _
              · show w.heap.size ≤ w.heap.size + 1; omega
          clear e2 e3 e4 hg2 u2 HA2 cc b5
          have hckz := fun h => ckE_zero (e := ⟨xc, xn, ⟨ok, os, ov⟩⟩) h
          have HCZ := hide hckz
          clear hckz
          generalize hx : ckE ⟨xc, xn, ⟨ok, os, ov⟩⟩ = x at *
          have HX := hide hx
          clear hx
          by_cases hx0 : x = 0
          · subst hx0
            obtain ⟨p0, p1, p2, _⟩ := HCZ.out rfl
            dsimp only at p0 p1 p2
            obtain ⟨cN, rfl⟩ : ∃ cN : Nat, xc = (cN : Int) := ⟨xc.toNat, by omega⟩
            have hc16 : cN < 16 := by omega
            have a0 := HA5.out.cell (gml_get (L.take i) hc16)
            have af := HA5.out.free cN
            have htw := tw_iff ⟨cN, xn, ⟨ok, os, ov⟩⟩ p2 (L.take i)
            dsimp only at htw
            have HTW := hide htw
            have HGS : Hid (gm (L.take i) (cN : Int) < xn → (gml (L.take i)).set cN (.int .i64 xn) = gml (L.take i ++ [⟨cN, xn, ⟨ok, os, ov⟩⟩])) := fun h => gml_set (e := ⟨cN, xn, ⟨ok, os, ov⟩⟩) rfl hc16 h
            clear htw HCZ p0 p1
            generalize gm (L.take i) (cN : Int) = G at *
            by_cases hle : xn ≤ G
            · have hX : Hid (X = (64, (i : Int) + 1)) := by
                show _ = _
                rw [hf2, HST.out, HER.out]
                simp [HTW.out, hle]
              gi_wp2
              refine region_round (by kernel_rfl) (by kernel_rfl) rfl ?_
              repeat (go_big_quiet_step (fail))
              refine wpQuiet_nil ?_
              intro _ hw'
              obtain ⟨nq, hw''⟩ := hw'
              subst hw''
              gi_wp2
              exact RET.out 64 hX.out (w5.drewN nq) (HU5.out.drewN nq) HZ0.out i0 i1 _
            · have hX : Hid (X = ckA (L.take (i + 1)) (L.drop (i + 1))) := by
                show _ = _
                rw [hf2, HST.out, HER.out]
                simp [HTW.out, hle]
              have hlt2 : G < xn := by omega
              gi_wp2
              refine region_round (by kernel_rfl) (by kernel_rfl) rfl ?_
              repeat (go_big_quiet_step (fail))
              refine wpQuiet_nil ?_
              intro _ hw'
              obtain ⟨nq, hw''⟩ := hw'
              subst hw''
              gi_wp2
              refine ⟨⟨?_, ?_⟩, ?_, ?_, hX.out⟩
              · rw [Below.heap_setCell _ _ _ _ HD.out.2.2.1]
                exact HZ0.out.1
              · rw [Below.heap_setCell _ _ _ _ HD.out.2.2.2.2.2]
                exact HZ0.out.2
              · exact Upd.setCell (S := (· = w.heap.size + 1 + 1)) (HU5.out.drewN nq) (.inl rfl) _
              · rw [HTK.out, ← HGS.out hlt2]
                exact Arr.set (HA5.out.later (belN (Below.refl _ _) nq)) cN _
          · have hX : Hid (X = (x, (i : Int) + 1)) := by
              show _ = _
              rw [hf2, HST.out, HER.out]
              simp [hx0]
            gi_wp2
            exact RET.out x hX.out w5 HU5.out HZ0.out i0 i1 _
        case done =>
          rintro W ⟨u, hA, hf⟩ hK
          have zl := HZ4.out
          rw [ckA_end] at hf
          have i0 := (u.cell (p := ⟨w.heap.size, 0, none⟩) (by show w.heap.size < _; omega) (by show w.heap.size ≠ _; omega)).trans d0
          have j0 := (u.frozen (p := ⟨w.heap.size, 0, none⟩) (by show w.heap.size < _; omega) (by show w.heap.size ≠ _; omega)).trans g0
          have i1 := (u.cell (p := ⟨w.heap.size + 1, 0, none⟩) (by show w.heap.size + 1 < _; omega) (by show w.heap.size + 1 ≠ _; omega)).trans d1
          have j1 := (u.frozen (p := ⟨w.heap.size + 1, 0, none⟩) (by show w.heap.size + 1 < _; omega) (by show w.heap.size + 1 ≠ _; omega)).trans g1
          clear hA
          gi_wp2
          have hK2 : ((W.setCell ⟨w.heap.size, 0, none⟩ (Value.int IntKind.i64 0)).setCell ⟨w.heap.size + 1, 0, none⟩ (Value.int IntKind.i64 0)).heap[w4.heap.size]? = some (.deferred (some [])) := by
            rw [Below.heap_setCell _ _ _ _ (by show w4.heap.size ≠ w.heap.size + 1; omega), Below.heap_setCell _ _ _ _ (by show w4.heap.size ≠ w.heap.size; omega)]
            exact hK
          refine ⟨by simp, .inl ⟨_, _, rfl, run_takeDeferred hK2, ?_⟩⟩
          have hc5 : (((W.setCell ⟨w.heap.size, 0, none⟩ (Value.int IntKind.i64 0)).setCell ⟨w.heap.size + 1, 0, none⟩ (Value.int IntKind.i64 0)).putObj w4.heap.size (.deferred none)).cell? ⟨w.heap.size, 0, none⟩ = some (.int .i64 0) := gcell (grownBy_putObj' _ _ _) (setc_other (setc_eq i0) (by omega)) (fun e => by injection e with e; omega)
          have hc6 : (((W.setCell ⟨w.heap.size, 0, none⟩ (Value.int IntKind.i64 0)).setCell ⟨w.heap.size + 1, 0, none⟩ (Value.int IntKind.i64 0)).putObj w4.heap.size (.deferred none)).cell? ⟨w.heap.size + 1, 0, none⟩ = some (.int .i64 0) := gcell (grownBy_putObj' _ _ _) (setc_eq (setc_other i1 (by omega))) (fun e => by injection e with e; omega)
          refine ⟨.tuple #[.int .i64 0, .int .i64 0], ?_, by rw [hf], ?_⟩
          · simp [results, Tryz.f114, go_sem, hc5, hc6]
          · exact ((((HB4.out.trans (u.below (by omega) (fun _ h => by omega))).setCell (by show w.heap.size ≤ w.heap.size; omega) _).setCell (by show w.heap.size ≤ w.heap.size + 1; omega) _).grown (grownBy_putObj' _ _ _) (by simp [World.setCell]; have := u.size; omega) (fun k e => by cases e; omega))
        case stop =>
          rintro cd i W hi ⟨rfl, ⟨hc0, hc1⟩, u⟩ hK
          have zl := HZ4.out
          gi_wp2
          refine ⟨by simp, .inl ⟨_, _, rfl, run_takeDeferred hK, ?_⟩⟩
          have hc5 : (W.putObj w4.heap.size (.deferred none)).cell? ⟨w.heap.size, 0, none⟩ = some (.int .i64 X.1) := gcell (grownBy_putObj' _ _ _) hc0 (fun e => by injection e with e; omega)
          have hc6 : (W.putObj w4.heap.size (.deferred none)).cell? ⟨w.heap.size + 1, 0, none⟩ = some (.int .i64 X.2) := gcell (grownBy_putObj' _ _ _) hc1 (fun e => by injection e with e; omega)
          refine ⟨_, ?_, rfl, ?_⟩
          · simp [results, Tryz.f114, go_sem, hc5, hc6]
          · exact ((HB4.out.trans (u.below (by omega) (fun _ h => h))).grown (grownBy_putObj' _ _ _) (by have := u.size; omega) (fun k e => by cases e; omega))
end Go.Proofs.YtjfbkeommlopmaaGreatDoor
namespace Go.Proofs.YtjfbkeommlopmaaGreatDoor
open Go.RowKit Go.Maps
open Classical
set_option linter.unusedVariables false
set_option linter.unusedSimpArgs false
structure Cf where
  f : Int
  r : Int
  p : Int
  u : Bool
def Cf.val (c : Cf) : Value := .agg #[.int .i64 c.f, .int .i64 c.r, .int .i64 c.p, .bool c.u]
def inR (x a b : Int) : Bool := decide (a ≤ x) && decide (x ≤ b)
def cfB (c : Cf) : Bool := inR c.f 1 3 && inR c.r 1 256 && inR c.p 6 100
def rdB (c : Int) : Bool := decide (c = 4) || decide (c = 5) || decide (c = 6)
def apB (p c r : Int) : Bool := if c = 7 then decide (p = 0) else inR p 1 r
def kdB (k : Int) : Bool := inR k 1 14
def noV : ByteArray := ⟨#[]⟩
def resB (c s : Int) (v : ByteArray) : Bool := if c = 1 ∨ c = 2 ∨ c = 4 then inR s 0 1023 && decide (v.size ≤ 64) else if c = 5 then inR s 0 1023 && decide (v = noV) else if c = 6 then inR s 0 1024 && decide (v = noV) else if c = 3 ∨ c = 7 then decide (s = 0) && decide (v = noV) else false
theorem withinM_any (x a b : Int) (w : World) : Calls Tryz.prog 75 #[.int .i64 x, .int .i64 a, .int .i64 b] w fun e w' => e = .returned (.bool (inR x a b)) ∧ w' = w := by
  by_cases h1 : a ≤ x
  · by_cases h2 : x ≤ b
    · go_enter Tryz.func75, Tryz.ntmps75
      go_wp2
      go_ret
      exact ⟨by simp [inR, h1, h2], rfl⟩
    · go_enter Tryz.func75, Tryz.ntmps75
      go_wp2
      go_ret
      exact ⟨by simp [inR, h1, h2], rfl⟩
  · go_enter Tryz.func75, Tryz.ntmps75
    go_wp2
    go_ret
    exact ⟨by simp [inR, h1]; omega, rfl⟩
theorem isKind_any (k : Int) (w : World) : Calls Tryz.prog 30 #[.int .i64 k] w fun e w' => e = .returned (.bool (kdB k)) ∧ w' = w := by
  by_cases h1 : 1 ≤ k
  · by_cases h2 : k ≤ 14
    · go_enter Tryz.func30, Tryz.ntmps30
      go_wp2
      go_ret
      exact ⟨by simp [kdB, inR, h1, h2], rfl⟩
    · go_enter Tryz.func30, Tryz.ntmps30
      go_wp2
      go_ret
      exact ⟨by simp [kdB, inR, h1, h2], rfl⟩
  · go_enter Tryz.func30, Tryz.ntmps30
    go_wp2
    go_ret
    exact ⟨by simp [kdB, inR, h1]; omega, rfl⟩
theorem isReading_any (c : Int) (w : World) : Calls Tryz.prog 81 #[.int .i64 c] w fun e w' => e = .returned (.bool (rdB c)) ∧ w' = w := by
  by_cases h1 : c = 4
  · subst h1
    go_enter Tryz.func81, Tryz.ntmps81
    go_wp2
    go_ret
    exact ⟨rfl, rfl⟩
  · by_cases h2 : c = 5
    · subst h2
      go_enter Tryz.func81, Tryz.ntmps81
      go_wp2
      go_ret
      exact ⟨rfl, rfl⟩
    · by_cases h3 : c = 6
      · subst h3
        go_enter Tryz.func81, Tryz.ntmps81
        go_wp2
        go_ret
        exact ⟨rfl, rfl⟩
      · go_enter Tryz.func81, Tryz.ntmps81
        go_wp2
        go_ret
        exact ⟨by simp [rdB, h1, h2, h3], rfl⟩
theorem answerPlace_any (p c r : Int) (w : World) : Calls Tryz.prog 77 #[.int .i64 p, .int .i64 c, .int .i64 r] w fun e w' => e = .returned (.bool (apB p c r)) ∧ w' = w := by
  by_cases h1 : c = 7
  · subst h1
    by_cases h2 : p = 0
    · subst h2
      go_enter Tryz.func77, Tryz.ntmps77
      go_wp2
      go_ret
      exact ⟨rfl, rfl⟩
    · go_enter Tryz.func77, Tryz.ntmps77
      go_wp2
      go_ret
      exact ⟨by simp [apB, h2], rfl⟩
  · have H := hide (withinM_any p 1 r w)
    go_enter Tryz.func77, Tryz.ntmps77
    go_wp2_with fail
    refine H.out.mono ?_
    rintro e w1 ⟨rfl, rfl⟩
    go_wp2
    go_ret
    exact ⟨by simp [apB, h1], rfl⟩
set_option maxHeartbeats 1000000 in
theorem configMayBe_any (c : Cf) (w : World) : Calls Tryz.prog 29 #[c.val] w fun e w' => e = .returned (.bool (cfB c)) ∧ Below w.heap.size w w' := by
  obtain ⟨f, r, p, u⟩ := c
  have H1 := hide (fun W => withinM_any f 1 3 W)
  have H2 := hide (fun W => withinM_any r 1 256 W)
  have H3 := hide (fun W => withinM_any p 6 100 W)
  have V : Hid (cfB ⟨f, r, p, u⟩ = (inR f 1 3 && inR r 1 256 && inR p 6 100)) := rfl
  unfold Cf.val
  dsimp only
  have hB : Below w.heap.size w (w.alloc (.cells #[.int .i64 f, .int .i64 r, .int .i64 p, .bool u] 23)) := (Below.refl _ _).alloc (Nat.le_refl _) _
  have HB := hide hB
  clear hB
  generalize inR f 1 3 = x1 at *
  generalize inR r 1 256 = x2 at *
  generalize inR p 6 100 = x3 at *
  cases x1 with
  | false =>
    go_enter Tryz.func29, Tryz.ntmps29
    go_wp2_with fail
    refine (H1.out _).mono ?_
    rintro e w1 ⟨rfl, rfl⟩
    go_wp2
    go_ret
    exact ⟨by rw [V.out]; rfl, HB.out⟩
  | true =>
    cases x2 with
    | false =>
      go_enter Tryz.func29, Tryz.ntmps29
      go_wp2_with fail
      refine (H1.out _).mono ?_
      rintro e w1 ⟨rfl, rfl⟩
      go_wp2_with fail
      refine (H2.out _).mono ?_
      rintro e w1 ⟨rfl, rfl⟩
      go_wp2
      go_ret
      exact ⟨by rw [V.out]; rfl, HB.out⟩
    | true =>
      go_enter Tryz.func29, Tryz.ntmps29
      go_wp2_with fail
      refine (H1.out _).mono ?_
      rintro e w1 ⟨rfl, rfl⟩
      go_wp2_with fail
      refine (H2.out _).mono ?_
      rintro e w1 ⟨rfl, rfl⟩
      go_wp2_with fail
      refine (H3.out _).mono ?_
      rintro e w1 ⟨rfl, rfl⟩
      go_wp2
      go_ret
      exact ⟨by rw [V.out]; simp, HB.out⟩
theorem logMayBe_any (L : List En) (a : Option Addr) (n c : Nat) (room : Int) (w : World) (h : SlY yE w a n c L) (hf : ∀ e ∈ L, e.fits) :
    Calls Tryz.prog 78 #[.slice a n c, .int .i64 room] w fun e w' => e = .returned (.bool (decide ((chk L room).1 = 0))) ∧ Below w.heap.size w w' := by
  have H := hide (checkO_any L a n c room w h hf)
  clear h
  go_enter Tryz.func78, Tryz.ntmps78
  go_wp2_with fail
  refine H.out.mono ?_
  rintro e w1 ⟨rfl, b1⟩
  by_cases hx : (chk L room).1 = 0
  · have V := hide (decide_eq_true hx)
    go_wp2
    go_ret
    exact ⟨by rw [V.out]; rfl, b1⟩
  · have V := hide (decide_eq_false hx)
    have hq : ((chk L room).1 == 0) = false := by simp [hx]
    go_wp2
    go_ret
    exact ⟨by rw [V.out]; rfl, b1⟩
set_option maxRecDepth 100000 in
set_option maxHeartbeats 1000000 in
theorem refConfig7 (c : Cf) (w : World) : Calls Tryz.prog 34 #[c.val] w fun e w' => e = .returned (.bool (cfB c)) ∧ Below w.heap.size w w' := by
  obtain ⟨f, r, p, u⟩ := c
  have V : Hid (cfB ⟨f, r, p, u⟩ = decide (1 ≤ f ∧ f ≤ 3 ∧ 1 ≤ r ∧ r ≤ 256 ∧ 6 ≤ p ∧ p ≤ 100)) := by
    show _ = _
    rw [Bool.eq_iff_iff]
    simp [cfB, inR, and_assoc]
  unfold Cf.val
  dsimp only
  have HB : Hid (Below w.heap.size w (w.alloc (.cells #[.int .i64 f, .int .i64 r, .int .i64 p, .bool u] 23))) := (Below.refl _ _).alloc (Nat.le_refl _) _
  generalize cfB ⟨f, r, p, u⟩ = b at *
  by_cases h0 : 1 ≤ f
  rotate_left
  · have hk : Hid (b = false) := by show _ = _; rw [V.out, decide_eq_false_iff_not]; omega
    go_enter Tryz.func34, Tryz.ntmps34
    go_wp2
    go_ret
    exact ⟨by rw [hk.out]; first | rfl | (simp; omega), HB.out⟩
  by_cases h1 : f ≤ 3
  rotate_left
  · have hk : Hid (b = false) := by show _ = _; rw [V.out, decide_eq_false_iff_not]; omega
    go_enter Tryz.func34, Tryz.ntmps34
    go_wp2
    go_ret
    exact ⟨by rw [hk.out]; first | rfl | (simp; omega), HB.out⟩
  by_cases h2 : 1 ≤ r
  rotate_left
  · have hk : Hid (b = false) := by show _ = _; rw [V.out, decide_eq_false_iff_not]; omega
    go_enter Tryz.func34, Tryz.ntmps34
    go_wp2
    go_ret
    exact ⟨by rw [hk.out]; first | rfl | (simp; omega), HB.out⟩
  by_cases h3 : r ≤ 256
  rotate_left
  · have hk : Hid (b = false) := by show _ = _; rw [V.out, decide_eq_false_iff_not]; omega
    go_enter Tryz.func34, Tryz.ntmps34
    go_wp2
    go_ret
    exact ⟨by rw [hk.out]; first | rfl | (simp; omega), HB.out⟩
  by_cases h4 : 6 ≤ p
  rotate_left
  · have hk : Hid (b = false) := by show _ = _; rw [V.out, decide_eq_false_iff_not]; omega
    go_enter Tryz.func34, Tryz.ntmps34
    go_wp2
    go_ret
    exact ⟨by rw [hk.out]; first | rfl | (simp; omega), HB.out⟩
  by_cases h5 : p ≤ 100
  rotate_left
  · have hk : Hid (b = false) := by show _ = _; rw [V.out, decide_eq_false_iff_not]; omega
    go_enter Tryz.func34, Tryz.ntmps34
    go_wp2
    go_ret
    exact ⟨by rw [hk.out]; first | rfl | (simp; omega), HB.out⟩
  have hk : Hid (b = true) := by show _ = _; rw [V.out, decide_eq_true_iff]; omega
  go_enter Tryz.func34, Tryz.ntmps34
  go_wp2
  go_ret
  exact ⟨by rw [hk.out]; first | rfl | (simp; omega), HB.out⟩
set_option maxRecDepth 100000 in
set_option maxHeartbeats 1000000 in
theorem refresult_1 (s : Int) (v : ByteArray) (w : World) : Calls Tryz.prog 85 #[.agg #[.int .i64 1, .int .i64 s, .string v]] w fun e w' => e = .returned (.bool (resB 1 s v)) ∧ Below w.heap.size w w' := by
  have HB : Hid (Below w.heap.size w (w.alloc (.cells #[.int .i64 1, .int .i64 s, .string v] 30))) := (Below.refl _ _).alloc (Nat.le_refl _) _
  have V : Hid (resB 1 s v = (inR s 0 1023 && decide (v.size ≤ 64))) := by simp [Hid, resB]
  by_cases h0 : 0 ≤ s
  · by_cases h1 : s < 1024
    · by_cases hv : (v.size : Int) ≤ 64
      · have V2 : Hid (resB 1 s v = decide (0 ≤ s ∧ s ≤ 1023 ∧ True)) := V.out.trans (by rw [Bool.eq_iff_iff]; simp [inR] <;> omega)
        clear V
        go_enter Tryz.func85, Tryz.ntmps85
        go_wp2
        go_ret
        exact ⟨by rw [V2.out]; first | rfl | (simp; done) | (simp; omega), HB.out⟩
      · have V2 : Hid (resB 1 s v = decide (0 ≤ s ∧ s ≤ 1023 ∧ False)) := V.out.trans (by rw [Bool.eq_iff_iff]; simp [inR] <;> omega)
        clear V
        go_enter Tryz.func85, Tryz.ntmps85
        go_wp2
        go_ret
        exact ⟨by rw [V2.out]; first | rfl | (simp; done) | (simp; omega), HB.out⟩
    · by_cases hv : (v.size : Int) ≤ 64
      · have V2 : Hid (resB 1 s v = decide (0 ≤ s ∧ s ≤ 1023 ∧ True)) := V.out.trans (by rw [Bool.eq_iff_iff]; simp [inR] <;> omega)
        clear V
        go_enter Tryz.func85, Tryz.ntmps85
        go_wp2
        go_ret
        exact ⟨by rw [V2.out]; first | rfl | (simp; done) | (simp; omega), HB.out⟩
      · have V2 : Hid (resB 1 s v = decide (0 ≤ s ∧ s ≤ 1023 ∧ False)) := V.out.trans (by rw [Bool.eq_iff_iff]; simp [inR] <;> omega)
        clear V
        go_enter Tryz.func85, Tryz.ntmps85
        go_wp2
        go_ret
        exact ⟨by rw [V2.out]; first | rfl | (simp; done) | (simp; omega), HB.out⟩
  · by_cases hv : (v.size : Int) ≤ 64
    · have V2 : Hid (resB 1 s v = decide (0 ≤ s ∧ s ≤ 1023 ∧ True)) := V.out.trans (by rw [Bool.eq_iff_iff]; simp [inR] <;> omega)
      clear V
      go_enter Tryz.func85, Tryz.ntmps85
      go_wp2
      go_ret
      exact ⟨by rw [V2.out]; first | rfl | (simp; done) | (simp; omega), HB.out⟩
    · have V2 : Hid (resB 1 s v = decide (0 ≤ s ∧ s ≤ 1023 ∧ False)) := V.out.trans (by rw [Bool.eq_iff_iff]; simp [inR] <;> omega)
      clear V
      go_enter Tryz.func85, Tryz.ntmps85
      go_wp2
      go_ret
      exact ⟨by rw [V2.out]; first | rfl | (simp; done) | (simp; omega), HB.out⟩
set_option maxRecDepth 100000 in
set_option maxHeartbeats 1000000 in
theorem refresult_2 (s : Int) (v : ByteArray) (w : World) : Calls Tryz.prog 85 #[.agg #[.int .i64 2, .int .i64 s, .string v]] w fun e w' => e = .returned (.bool (resB 2 s v)) ∧ Below w.heap.size w w' := by
  have HB : Hid (Below w.heap.size w (w.alloc (.cells #[.int .i64 2, .int .i64 s, .string v] 30))) := (Below.refl _ _).alloc (Nat.le_refl _) _
  have V : Hid (resB 2 s v = (inR s 0 1023 && decide (v.size ≤ 64))) := by simp [Hid, resB]
  by_cases h0 : 0 ≤ s
  · by_cases h1 : s < 1024
    · by_cases hv : (v.size : Int) ≤ 64
      · have V2 : Hid (resB 2 s v = decide (0 ≤ s ∧ s ≤ 1023 ∧ True)) := V.out.trans (by rw [Bool.eq_iff_iff]; simp [inR] <;> omega)
        clear V
        go_enter Tryz.func85, Tryz.ntmps85
        go_wp2
        go_ret
        exact ⟨by rw [V2.out]; first | rfl | (simp; done) | (simp; omega), HB.out⟩
      · have V2 : Hid (resB 2 s v = decide (0 ≤ s ∧ s ≤ 1023 ∧ False)) := V.out.trans (by rw [Bool.eq_iff_iff]; simp [inR] <;> omega)
        clear V
        go_enter Tryz.func85, Tryz.ntmps85
        go_wp2
        go_ret
        exact ⟨by rw [V2.out]; first | rfl | (simp; done) | (simp; omega), HB.out⟩
    · by_cases hv : (v.size : Int) ≤ 64
      · have V2 : Hid (resB 2 s v = decide (0 ≤ s ∧ s ≤ 1023 ∧ True)) := V.out.trans (by rw [Bool.eq_iff_iff]; simp [inR] <;> omega)
        clear V
        go_enter Tryz.func85, Tryz.ntmps85
        go_wp2
        go_ret
        exact ⟨by rw [V2.out]; first | rfl | (simp; done) | (simp; omega), HB.out⟩
      · have V2 : Hid (resB 2 s v = decide (0 ≤ s ∧ s ≤ 1023 ∧ False)) := V.out.trans (by rw [Bool.eq_iff_iff]; simp [inR] <;> omega)
        clear V
        go_enter Tryz.func85, Tryz.ntmps85
        go_wp2
        go_ret
        exact ⟨by rw [V2.out]; first | rfl | (simp; done) | (simp; omega), HB.out⟩
  · by_cases hv : (v.size : Int) ≤ 64
    · have V2 : Hid (resB 2 s v = decide (0 ≤ s ∧ s ≤ 1023 ∧ True)) := V.out.trans (by rw [Bool.eq_iff_iff]; simp [inR] <;> omega)
      clear V
      go_enter Tryz.func85, Tryz.ntmps85
      go_wp2
      go_ret
      exact ⟨by rw [V2.out]; first | rfl | (simp; done) | (simp; omega), HB.out⟩
    · have V2 : Hid (resB 2 s v = decide (0 ≤ s ∧ s ≤ 1023 ∧ False)) := V.out.trans (by rw [Bool.eq_iff_iff]; simp [inR] <;> omega)
      clear V
      go_enter Tryz.func85, Tryz.ntmps85
      go_wp2
      go_ret
      exact ⟨by rw [V2.out]; first | rfl | (simp; done) | (simp; omega), HB.out⟩
set_option maxRecDepth 100000 in
set_option maxHeartbeats 1000000 in
theorem refresult_4 (s : Int) (v : ByteArray) (w : World) : Calls Tryz.prog 85 #[.agg #[.int .i64 4, .int .i64 s, .string v]] w fun e w' => e = .returned (.bool (resB 4 s v)) ∧ Below w.heap.size w w' := by
  have HB : Hid (Below w.heap.size w (w.alloc (.cells #[.int .i64 4, .int .i64 s, .string v] 30))) := (Below.refl _ _).alloc (Nat.le_refl _) _
  have V : Hid (resB 4 s v = (inR s 0 1023 && decide (v.size ≤ 64))) := by simp [Hid, resB]
  by_cases h0 : 0 ≤ s
  · by_cases h1 : s < 1024
    · by_cases hv : (v.size : Int) ≤ 64
      · have V2 : Hid (resB 4 s v = decide (0 ≤ s ∧ s ≤ 1023 ∧ True)) := V.out.trans (by rw [Bool.eq_iff_iff]; simp [inR] <;> omega)
        clear V
        go_enter Tryz.func85, Tryz.ntmps85
        go_wp2
        go_ret
        exact ⟨by rw [V2.out]; first | rfl | (simp; done) | (simp; omega), HB.out⟩
      · have V2 : Hid (resB 4 s v = decide (0 ≤ s ∧ s ≤ 1023 ∧ False)) := V.out.trans (by rw [Bool.eq_iff_iff]; simp [inR] <;> omega)
        clear V
        go_enter Tryz.func85, Tryz.ntmps85
        go_wp2
        go_ret
        exact ⟨by rw [V2.out]; first | rfl | (simp; done) | (simp; omega), HB.out⟩
    · by_cases hv : (v.size : Int) ≤ 64
      · have V2 : Hid (resB 4 s v = decide (0 ≤ s ∧ s ≤ 1023 ∧ True)) := V.out.trans (by rw [Bool.eq_iff_iff]; simp [inR] <;> omega)
        clear V
        go_enter Tryz.func85, Tryz.ntmps85
        go_wp2
        go_ret
        exact ⟨by rw [V2.out]; first | rfl | (simp; done) | (simp; omega), HB.out⟩
      · have V2 : Hid (resB 4 s v = decide (0 ≤ s ∧ s ≤ 1023 ∧ False)) := V.out.trans (by rw [Bool.eq_iff_iff]; simp [inR] <;> omega)
        clear V
        go_enter Tryz.func85, Tryz.ntmps85
        go_wp2
        go_ret
        exact ⟨by rw [V2.out]; first | rfl | (simp; done) | (simp; omega), HB.out⟩
  · by_cases hv : (v.size : Int) ≤ 64
    · have V2 : Hid (resB 4 s v = decide (0 ≤ s ∧ s ≤ 1023 ∧ True)) := V.out.trans (by rw [Bool.eq_iff_iff]; simp [inR] <;> omega)
      clear V
      go_enter Tryz.func85, Tryz.ntmps85
      go_wp2
      go_ret
      exact ⟨by rw [V2.out]; first | rfl | (simp; done) | (simp; omega), HB.out⟩
    · have V2 : Hid (resB 4 s v = decide (0 ≤ s ∧ s ≤ 1023 ∧ False)) := V.out.trans (by rw [Bool.eq_iff_iff]; simp [inR] <;> omega)
      clear V
      go_enter Tryz.func85, Tryz.ntmps85
      go_wp2
      go_ret
      exact ⟨by rw [V2.out]; first | rfl | (simp; done) | (simp; omega), HB.out⟩
set_option maxRecDepth 100000 in
set_option maxHeartbeats 1000000 in
theorem refresult_5 (s : Int) (v : ByteArray) (w : World) : Calls Tryz.prog 85 #[.agg #[.int .i64 5, .int .i64 s, .string v]] w fun e w' => e = .returned (.bool (resB 5 s v)) ∧ Below w.heap.size w w' := by
  have HB : Hid (Below w.heap.size w (w.alloc (.cells #[.int .i64 5, .int .i64 s, .string v] 30))) := (Below.refl _ _).alloc (Nat.le_refl _) _
  have V : Hid (resB 5 s v = (inR s 0 1023 && decide (v = noV))) := by simp [Hid, resB]
  by_cases h0 : 0 ≤ s
  · by_cases h1 : s < 1024
    · by_cases hv : v = noV
      · have V2 : Hid (resB 5 s v = decide (0 ≤ s ∧ s ≤ 1023 ∧ True)) := V.out.trans (by rw [Bool.eq_iff_iff]; simp [inR, hv] <;> omega)
        clear V
        unfold noV at hv
        subst hv
        go_enter Tryz.func85, Tryz.ntmps85
        go_wp2
        go_ret
        exact ⟨by rw [V2.out]; first | rfl | (simp; done) | (simp; omega), HB.out⟩
      · have V2 : Hid (resB 5 s v = decide (0 ≤ s ∧ s ≤ 1023 ∧ False)) := V.out.trans (by rw [Bool.eq_iff_iff]; simp [inR, hv] <;> omega)
        clear V
        have g2 : ¬ v.toList = (⟨#[]⟩ : ByteArray).toList := fun e => hv ((bytes_inj _ _).1 e)
        have g3 : v.toList.isEmpty = false := by
          rw [Bool.eq_false_iff]
          intro h
          exact g2 (by rw [List.isEmpty_iff.1 h, ByteArray.toList_eq])
        go_enter Tryz.func85, Tryz.ntmps85
        go_wp2
        go_ret
        exact ⟨by rw [V2.out]; first | rfl | (simp; done) | (simp; omega), HB.out⟩
    · by_cases hv : v = noV
      · have V2 : Hid (resB 5 s v = decide (0 ≤ s ∧ s ≤ 1023 ∧ True)) := V.out.trans (by rw [Bool.eq_iff_iff]; simp [inR, hv] <;> omega)
        clear V
        unfold noV at hv
        subst hv
        go_enter Tryz.func85, Tryz.ntmps85
        go_wp2
        go_ret
        exact ⟨by rw [V2.out]; first | rfl | (simp; done) | (simp; omega), HB.out⟩
      · have V2 : Hid (resB 5 s v = decide (0 ≤ s ∧ s ≤ 1023 ∧ False)) := V.out.trans (by rw [Bool.eq_iff_iff]; simp [inR, hv] <;> omega)
        clear V
        have g2 : ¬ v.toList = (⟨#[]⟩ : ByteArray).toList := fun e => hv ((bytes_inj _ _).1 e)
        have g3 : v.toList.isEmpty = false := by
          rw [Bool.eq_false_iff]
          intro h
          exact g2 (by rw [List.isEmpty_iff.1 h, ByteArray.toList_eq])
        go_enter Tryz.func85, Tryz.ntmps85
        go_wp2
        go_ret
        exact ⟨by rw [V2.out]; first | rfl | (simp; done) | (simp; omega), HB.out⟩
  · by_cases hv : v = noV
    · have V2 : Hid (resB 5 s v = decide (0 ≤ s ∧ s ≤ 1023 ∧ True)) := V.out.trans (by rw [Bool.eq_iff_iff]; simp [inR, hv] <;> omega)
      clear V
      unfold noV at hv
      subst hv
      go_enter Tryz.func85, Tryz.ntmps85
      go_wp2
      go_ret
      exact ⟨by rw [V2.out]; first | rfl | (simp; done) | (simp; omega), HB.out⟩
    · have V2 : Hid (resB 5 s v = decide (0 ≤ s ∧ s ≤ 1023 ∧ False)) := V.out.trans (by rw [Bool.eq_iff_iff]; simp [inR, hv] <;> omega)
      clear V
      have g2 : ¬ v.toList = (⟨#[]⟩ : ByteArray).toList := fun e => hv ((bytes_inj _ _).1 e)
      have g3 : v.toList.isEmpty = false := by
        rw [Bool.eq_false_iff]
        intro h
        exact g2 (by rw [List.isEmpty_iff.1 h, ByteArray.toList_eq])
      go_enter Tryz.func85, Tryz.ntmps85
      go_wp2
      go_ret
      exact ⟨by rw [V2.out]; first | rfl | (simp; done) | (simp; omega), HB.out⟩
set_option maxRecDepth 100000 in
set_option maxHeartbeats 1000000 in
theorem refresult_6 (s : Int) (v : ByteArray) (w : World) : Calls Tryz.prog 85 #[.agg #[.int .i64 6, .int .i64 s, .string v]] w fun e w' => e = .returned (.bool (resB 6 s v)) ∧ Below w.heap.size w w' := by
  have HB : Hid (Below w.heap.size w (w.alloc (.cells #[.int .i64 6, .int .i64 s, .string v] 30))) := (Below.refl _ _).alloc (Nat.le_refl _) _
  have V : Hid (resB 6 s v = (inR s 0 1024 && decide (v = noV))) := by simp [Hid, resB]
  by_cases h0 : 0 ≤ s
  · by_cases h1 : s < 1024
    · by_cases hv : v = noV
      · have V2 : Hid (resB 6 s v = decide (0 ≤ s ∧ s ≤ 1024 ∧ True)) := V.out.trans (by rw [Bool.eq_iff_iff]; simp [inR, hv] <;> omega)
        clear V
        unfold noV at hv
        subst hv
        have h4 : s ≤ 1024 := by omega
        go_enter Tryz.func85, Tryz.ntmps85
        go_wp2
        go_ret
        exact ⟨by rw [V2.out]; first | rfl | (simp; done) | (simp; omega), HB.out⟩
      · have V2 : Hid (resB 6 s v = decide (0 ≤ s ∧ s ≤ 1024 ∧ False)) := V.out.trans (by rw [Bool.eq_iff_iff]; simp [inR, hv] <;> omega)
        clear V
        have g2 : ¬ v.toList = (⟨#[]⟩ : ByteArray).toList := fun e => hv ((bytes_inj _ _).1 e)
        have g3 : v.toList.isEmpty = false := by
          rw [Bool.eq_false_iff]
          intro h
          exact g2 (by rw [List.isEmpty_iff.1 h, ByteArray.toList_eq])
        have h4 : s ≤ 1024 := by omega
        go_enter Tryz.func85, Tryz.ntmps85
        go_wp2
        go_ret
        exact ⟨by rw [V2.out]; first | rfl | (simp; done) | (simp; omega), HB.out⟩
    · by_cases hv : v = noV
      · have V2 : Hid (resB 6 s v = decide (0 ≤ s ∧ s ≤ 1024 ∧ True)) := V.out.trans (by rw [Bool.eq_iff_iff]; simp [inR, hv] <;> omega)
        clear V
        unfold noV at hv
        subst hv
        by_cases h4 : s ≤ 1024
        · go_enter Tryz.func85, Tryz.ntmps85
          go_wp2
          go_ret
          exact ⟨by rw [V2.out]; first | rfl | (simp; done) | (simp; omega), HB.out⟩
        · go_enter Tryz.func85, Tryz.ntmps85
          go_wp2
          go_ret
          exact ⟨by rw [V2.out]; first | rfl | (simp; done) | (simp; omega), HB.out⟩
      · have V2 : Hid (resB 6 s v = decide (0 ≤ s ∧ s ≤ 1024 ∧ False)) := V.out.trans (by rw [Bool.eq_iff_iff]; simp [inR, hv] <;> omega)
        clear V
        have g2 : ¬ v.toList = (⟨#[]⟩ : ByteArray).toList := fun e => hv ((bytes_inj _ _).1 e)
        have g3 : v.toList.isEmpty = false := by
          rw [Bool.eq_false_iff]
          intro h
          exact g2 (by rw [List.isEmpty_iff.1 h, ByteArray.toList_eq])
        by_cases h4 : s ≤ 1024
        · go_enter Tryz.func85, Tryz.ntmps85
          go_wp2
          go_ret
          exact ⟨by rw [V2.out]; first | rfl | (simp; done) | (simp; omega), HB.out⟩
        · go_enter Tryz.func85, Tryz.ntmps85
          go_wp2
          go_ret
          exact ⟨by rw [V2.out]; first | rfl | (simp; done) | (simp; omega), HB.out⟩
  · by_cases hv : v = noV
    · have V2 : Hid (resB 6 s v = decide (0 ≤ s ∧ s ≤ 1024 ∧ True)) := V.out.trans (by rw [Bool.eq_iff_iff]; simp [inR, hv] <;> omega)
      clear V
      unfold noV at hv
      subst hv
      go_enter Tryz.func85, Tryz.ntmps85
      go_wp2
      go_ret
      exact ⟨by rw [V2.out]; first | rfl | (simp; done) | (simp; omega), HB.out⟩
    · have V2 : Hid (resB 6 s v = decide (0 ≤ s ∧ s ≤ 1024 ∧ False)) := V.out.trans (by rw [Bool.eq_iff_iff]; simp [inR, hv] <;> omega)
      clear V
      have g2 : ¬ v.toList = (⟨#[]⟩ : ByteArray).toList := fun e => hv ((bytes_inj _ _).1 e)
      have g3 : v.toList.isEmpty = false := by
        rw [Bool.eq_false_iff]
        intro h
        exact g2 (by rw [List.isEmpty_iff.1 h, ByteArray.toList_eq])
      go_enter Tryz.func85, Tryz.ntmps85
      go_wp2
      go_ret
      exact ⟨by rw [V2.out]; first | rfl | (simp; done) | (simp; omega), HB.out⟩
set_option maxRecDepth 100000 in
set_option maxHeartbeats 1000000 in
theorem refresult_3 (s : Int) (v : ByteArray) (w : World) : Calls Tryz.prog 85 #[.agg #[.int .i64 3, .int .i64 s, .string v]] w fun e w' => e = .returned (.bool (resB 3 s v)) ∧ Below w.heap.size w w' := by
  have HB : Hid (Below w.heap.size w (w.alloc (.cells #[.int .i64 3, .int .i64 s, .string v] 30))) := (Below.refl _ _).alloc (Nat.le_refl _) _
  have V : Hid (resB 3 s v = (decide (s = 0) && decide (v = noV))) := by simp [Hid, resB]
  by_cases h0 : 0 ≤ s
  · by_cases h1 : s < 1024
    · by_cases hv : v = noV
      · by_cases hs : s = 0
        · have V2 : Hid (resB 3 s v = true) := V.out.trans (by simp [hv, hs])
          clear V
          unfold noV at hv
          subst hv
          subst hs
          go_enter Tryz.func85, Tryz.ntmps85
          go_wp2
          go_ret
          exact ⟨by rw [V2.out]; first | rfl | (simp; done) | (simp; omega), HB.out⟩
        · have V2 : Hid (resB 3 s v = false) := V.out.trans (by simp [hs])
          have n0 : (s == 0) = false := by simp [hs]
          clear V
          unfold noV at hv
          subst hv
          go_enter Tryz.func85, Tryz.ntmps85
          go_wp2
          go_ret
          exact ⟨by rw [V2.out]; first | rfl | (simp; done) | (simp; omega), HB.out⟩
      · by_cases hs : s = 0
        · have V2 : Hid (resB 3 s v = false) := V.out.trans (by simp [hv, hs])
          clear V
          have g2 : ¬ v.toList = (⟨#[]⟩ : ByteArray).toList := fun e => hv ((bytes_inj _ _).1 e)
          have g3 : v.toList.isEmpty = false := by
            rw [Bool.eq_false_iff]
            intro h
            exact g2 (by rw [List.isEmpty_iff.1 h, ByteArray.toList_eq])
          subst hs
          go_enter Tryz.func85, Tryz.ntmps85
          go_wp2
          go_ret
          exact ⟨by rw [V2.out]; first | rfl | (simp; done) | (simp; omega), HB.out⟩
        · have V2 : Hid (resB 3 s v = false) := V.out.trans (by simp [hs])
          have n0 : (s == 0) = false := by simp [hs]
          clear V
          have g2 : ¬ v.toList = (⟨#[]⟩ : ByteArray).toList := fun e => hv ((bytes_inj _ _).1 e)
          have g3 : v.toList.isEmpty = false := by
            rw [Bool.eq_false_iff]
            intro h
            exact g2 (by rw [List.isEmpty_iff.1 h, ByteArray.toList_eq])
          go_enter Tryz.func85, Tryz.ntmps85
          go_wp2
          go_ret
          exact ⟨by rw [V2.out]; first | rfl | (simp; done) | (simp; omega), HB.out⟩
    · by_cases hv : v = noV
      · have hs : ¬ s = 0 := by omega
        have V2 : Hid (resB 3 s v = false) := V.out.trans (by simp [hs])
        have n0 : (s == 0) = false := by simp [hs]
        clear V
        unfold noV at hv
        subst hv
        go_enter Tryz.func85, Tryz.ntmps85
        go_wp2
        go_ret
        exact ⟨by rw [V2.out]; first | rfl | (simp; done) | (simp; omega), HB.out⟩
      · have hs : ¬ s = 0 := by omega
        have V2 : Hid (resB 3 s v = false) := V.out.trans (by simp [hs])
        have n0 : (s == 0) = false := by simp [hs]
        clear V
        have g2 : ¬ v.toList = (⟨#[]⟩ : ByteArray).toList := fun e => hv ((bytes_inj _ _).1 e)
        have g3 : v.toList.isEmpty = false := by
          rw [Bool.eq_false_iff]
          intro h
          exact g2 (by rw [List.isEmpty_iff.1 h, ByteArray.toList_eq])
        go_enter Tryz.func85, Tryz.ntmps85
        go_wp2
        go_ret
        exact ⟨by rw [V2.out]; first | rfl | (simp; done) | (simp; omega), HB.out⟩
  · by_cases hv : v = noV
    · have hs : ¬ s = 0 := by omega
      have V2 : Hid (resB 3 s v = false) := V.out.trans (by simp [hs])
      have n0 : (s == 0) = false := by simp [hs]
      clear V
      unfold noV at hv
      subst hv
      go_enter Tryz.func85, Tryz.ntmps85
      go_wp2
      go_ret
      exact ⟨by rw [V2.out]; first | rfl | (simp; done) | (simp; omega), HB.out⟩
    · have hs : ¬ s = 0 := by omega
      have V2 : Hid (resB 3 s v = false) := V.out.trans (by simp [hs])
      have n0 : (s == 0) = false := by simp [hs]
      clear V
      have g2 : ¬ v.toList = (⟨#[]⟩ : ByteArray).toList := fun e => hv ((bytes_inj _ _).1 e)
      have g3 : v.toList.isEmpty = false := by
        rw [Bool.eq_false_iff]
        intro h
        exact g2 (by rw [List.isEmpty_iff.1 h, ByteArray.toList_eq])
      go_enter Tryz.func85, Tryz.ntmps85
      go_wp2
      go_ret
      exact ⟨by rw [V2.out]; first | rfl | (simp; done) | (simp; omega), HB.out⟩
set_option maxRecDepth 100000 in
set_option maxHeartbeats 1000000 in
theorem refresult_7 (s : Int) (v : ByteArray) (w : World) : Calls Tryz.prog 85 #[.agg #[.int .i64 7, .int .i64 s, .string v]] w fun e w' => e = .returned (.bool (resB 7 s v)) ∧ Below w.heap.size w w' := by
  have HB : Hid (Below w.heap.size w (w.alloc (.cells #[.int .i64 7, .int .i64 s, .string v] 30))) := (Below.refl _ _).alloc (Nat.le_refl _) _
  have V : Hid (resB 7 s v = (decide (s = 0) && decide (v = noV))) := by simp [Hid, resB]
  by_cases h0 : 0 ≤ s
  · by_cases h1 : s < 1024
    · by_cases hv : v = noV
      · by_cases hs : s = 0
        · have V2 : Hid (resB 7 s v = true) := V.out.trans (by simp [hv, hs])
          clear V
          unfold noV at hv
          subst hv
          subst hs
          go_enter Tryz.func85, Tryz.ntmps85
          go_wp2
          go_ret
          exact ⟨by rw [V2.out]; first | rfl | (simp; done) | (simp; omega), HB.out⟩
        · have V2 : Hid (resB 7 s v = false) := V.out.trans (by simp [hs])
          have n0 : (s == 0) = false := by simp [hs]
          clear V
          unfold noV at hv
          subst hv
          go_enter Tryz.func85, Tryz.ntmps85
          go_wp2
          go_ret
          exact ⟨by rw [V2.out]; first | rfl | (simp; done) | (simp; omega), HB.out⟩
      · by_cases hs : s = 0
        · have V2 : Hid (resB 7 s v = false) := V.out.trans (by simp [hv, hs])
          clear V
          have g2 : ¬ v.toList = (⟨#[]⟩ : ByteArray).toList := fun e => hv ((bytes_inj _ _).1 e)
          have g3 : v.toList.isEmpty = false := by
            rw [Bool.eq_false_iff]
            intro h
            exact g2 (by rw [List.isEmpty_iff.1 h, ByteArray.toList_eq])
          subst hs
          go_enter Tryz.func85, Tryz.ntmps85
          go_wp2
          go_ret
          exact ⟨by rw [V2.out]; first | rfl | (simp; done) | (simp; omega), HB.out⟩
        · have V2 : Hid (resB 7 s v = false) := V.out.trans (by simp [hs])
          have n0 : (s == 0) = false := by simp [hs]
          clear V
          have g2 : ¬ v.toList = (⟨#[]⟩ : ByteArray).toList := fun e => hv ((bytes_inj _ _).1 e)
          have g3 : v.toList.isEmpty = false := by
            rw [Bool.eq_false_iff]
            intro h
            exact g2 (by rw [List.isEmpty_iff.1 h, ByteArray.toList_eq])
          go_enter Tryz.func85, Tryz.ntmps85
          go_wp2
          go_ret
          exact ⟨by rw [V2.out]; first | rfl | (simp; done) | (simp; omega), HB.out⟩
    · by_cases hv : v = noV
      · have hs : ¬ s = 0 := by omega
        have V2 : Hid (resB 7 s v = false) := V.out.trans (by simp [hs])
        have n0 : (s == 0) = false := by simp [hs]
        clear V
        unfold noV at hv
        subst hv
        go_enter Tryz.func85, Tryz.ntmps85
        go_wp2
        go_ret
        exact ⟨by rw [V2.out]; first | rfl | (simp; done) | (simp; omega), HB.out⟩
      · have hs : ¬ s = 0 := by omega
        have V2 : Hid (resB 7 s v = false) := V.out.trans (by simp [hs])
        have n0 : (s == 0) = false := by simp [hs]
        clear V
        have g2 : ¬ v.toList = (⟨#[]⟩ : ByteArray).toList := fun e => hv ((bytes_inj _ _).1 e)
        have g3 : v.toList.isEmpty = false := by
          rw [Bool.eq_false_iff]
          intro h
          exact g2 (by rw [List.isEmpty_iff.1 h, ByteArray.toList_eq])
        go_enter Tryz.func85, Tryz.ntmps85
        go_wp2
        go_ret
        exact ⟨by rw [V2.out]; first | rfl | (simp; done) | (simp; omega), HB.out⟩
  · by_cases hv : v = noV
    · have hs : ¬ s = 0 := by omega
      have V2 : Hid (resB 7 s v = false) := V.out.trans (by simp [hs])
      have n0 : (s == 0) = false := by simp [hs]
      clear V
      unfold noV at hv
      subst hv
      go_enter Tryz.func85, Tryz.ntmps85
      go_wp2
      go_ret
      exact ⟨by rw [V2.out]; first | rfl | (simp; done) | (simp; omega), HB.out⟩
    · have hs : ¬ s = 0 := by omega
      have V2 : Hid (resB 7 s v = false) := V.out.trans (by simp [hs])
      have n0 : (s == 0) = false := by simp [hs]
      clear V
      have g2 : ¬ v.toList = (⟨#[]⟩ : ByteArray).toList := fun e => hv ((bytes_inj _ _).1 e)
      have g3 : v.toList.isEmpty = false := by
        rw [Bool.eq_false_iff]
        intro h
        exact g2 (by rw [List.isEmpty_iff.1 h, ByteArray.toList_eq])
      go_enter Tryz.func85, Tryz.ntmps85
      go_wp2
      go_ret
      exact ⟨by rw [V2.out]; first | rfl | (simp; done) | (simp; omega), HB.out⟩
set_option maxRecDepth 100000 in
set_option maxHeartbeats 1000000 in
theorem refresult_any (c s : Int) (v : ByteArray) (w : World) : Calls Tryz.prog 85 #[.agg #[.int .i64 c, .int .i64 s, .string v]] w fun e w' => e = .returned (.bool (resB c s v)) ∧ Below w.heap.size w w' := by
  by_cases g1 : c = 1
  · subst g1; exact refresult_1 s v w
  by_cases g2 : c = 2
  · subst g2; exact refresult_2 s v w
  by_cases g3 : c = 3
  · subst g3; exact refresult_3 s v w
  by_cases g4 : c = 4
  · subst g4; exact refresult_4 s v w
  by_cases g5 : c = 5
  · subst g5; exact refresult_5 s v w
  by_cases g6 : c = 6
  · subst g6; exact refresult_6 s v w
  by_cases g7 : c = 7
  · subst g7; exact refresult_7 s v w
  have HB : Hid (Below w.heap.size w (w.alloc (.cells #[.int .i64 c, .int .i64 s, .string v] 30))) := (Below.refl _ _).alloc (Nat.le_refl _) _
  have V : Hid (resB c s v = false) := by simp [Hid, resB, g1, g2, g3, g4, g5, g6, g7]
  have n1 : (c == 1) = false := by simp [g1]
  have n2 : (c == 2) = false := by simp [g2]
  have n3 : (c == 3) = false := by simp [g3]
  have n4 : (c == 4) = false := by simp [g4]
  have n5 : (c == 5) = false := by simp [g5]
  have n6 : (c == 6) = false := by simp [g6]
  have n7 : (c == 7) = false := by simp [g7]
  by_cases h0 : 0 ≤ s
  · by_cases h1 : s < 1024
    · go_enter Tryz.func85, Tryz.ntmps85
      go_wp2
      go_ret
      exact ⟨by rw [V.out]; first | rfl | (simp; done) | (simp; omega), HB.out⟩
    · go_enter Tryz.func85, Tryz.ntmps85
      go_wp2
      go_ret
      exact ⟨by rw [V.out]; first | rfl | (simp; done) | (simp; omega), HB.out⟩
  · go_enter Tryz.func85, Tryz.ntmps85
    go_wp2
    go_ret
    exact ⟨by rw [V.out]; first | rfl | (simp; done) | (simp; omega), HB.out⟩
def enK (k : Int) (e : En) : Bool := if k = 2 ∨ k = 14 then decide (0 ≤ e.c) && (decide (e.c < 16) && (decide (1 ≤ e.n) && (decide (e.o.k = 0) && (decide (e.o.s = 0) && decide (e.o.v = ⟨#[]⟩))))) else decide (ckE e = 0) && (!decide (k = 13) || (decide (e.o.k = 3) || decide (e.o.k = 4)))
set_option maxRecDepth 100000 in
set_option maxHeartbeats 2000000 in
theorem refentry7_name (K : Int) (hK : K = 2 ∨ K = 14) (C N k s : Int) (v : ByteArray) (w : World) : Calls Tryz.prog 84 #[.int .i64 K, .agg #[.int .i64 C, .int .i64 N, .int .i64 k, .int .i64 s, .string v]] w fun e w' => e = .returned (.bool (enK K ⟨C, N, ⟨k, s, v⟩⟩)) ∧ Below w.heap.size w w' := by
  have HB : Hid (∀ o, Below w.heap.size w ((w.alloc (.cells #[.int .i64 C, .int .i64 N, .int .i64 k, .int .i64 s, .string v] 28)).alloc o)) := fun o => ((Below.refl _ _).alloc (Nat.le_refl _) _).alloc (by simp) _
  have HB1 : Hid (Below w.heap.size w (w.alloc (.cells #[.int .i64 C, .int .i64 N, .int .i64 k, .int .i64 s, .string v] 28))) := (Below.refl _ _).alloc (Nat.le_refl _) _
  have V : Hid (enK K ⟨C, N, ⟨k, s, v⟩⟩ = (decide (0 ≤ C) && (decide (C < 16) && (decide (1 ≤ N) && (decide (k = 0) && (decide (s = 0) && decide (v = ⟨#[]⟩))))))) := by show _ = _; unfold enK; rw [if_pos hK]
  generalize enK K ⟨C, N, ⟨k, s, v⟩⟩ = b at *
  rcases hK with rfl | rfl
  · by_cases h0 : 0 ≤ C
    rotate_left
    · have V2 : Hid (b = false) := V.out.trans (by simp [*])
      clear V
      go_enter Tryz.func84, Tryz.ntmps84
      go_wp2
      go_ret
      exact ⟨by rw [V2.out]; first | rfl | (simp; done) | (simp; omega), by repeat (first | exact Below.refl _ _ | exact HB1.out | refine Below.alloc ?_ (by simp [World.setCell] <;> omega) _ | refine Below.setCell ?_ (by simp) _)⟩
    by_cases h1 : C < 16
    rotate_left
    · have V2 : Hid (b = false) := V.out.trans (by simp [*])
      clear V
      go_enter Tryz.func84, Tryz.ntmps84
      go_wp2
      go_ret
      exact ⟨by rw [V2.out]; first | rfl | (simp; done) | (simp; omega), by repeat (first | exact Below.refl _ _ | exact HB1.out | refine Below.alloc ?_ (by simp [World.setCell] <;> omega) _ | refine Below.setCell ?_ (by simp) _)⟩
    by_cases h2 : 1 ≤ N
    rotate_left
    · have V2 : Hid (b = false) := V.out.trans (by simp [*])
      clear V
      go_enter Tryz.func84, Tryz.ntmps84
      go_wp2
      go_ret
      exact ⟨by rw [V2.out]; first | rfl | (simp; done) | (simp; omega), by repeat (first | exact Below.refl _ _ | exact HB1.out | refine Below.alloc ?_ (by simp [World.setCell] <;> omega) _ | refine Below.setCell ?_ (by simp) _)⟩
    by_cases g0 : k = 0
    rotate_left
    · have V2 : Hid (b = false) := V.out.trans (by simp [*])
      clear V
      have q0 : (k == 0) = false := by simp [g0]
      go_enter Tryz.func84, Tryz.ntmps84
      go_wp2
      go_ret
      exact ⟨by rw [V2.out]; first | rfl | (simp; done) | (simp; omega), by repeat (first | exact Below.refl _ _ | exact HB1.out | refine Below.alloc ?_ (by simp [World.setCell] <;> omega) _ | refine Below.setCell ?_ (by simp) _)⟩
    by_cases g1 : s = 0
    rotate_left
    · have V2 : Hid (b = false) := V.out.trans (by simp [*])
      clear V
      have q1 : (s == 0) = false := by simp [g1]
      subst g0
      go_enter Tryz.func84, Tryz.ntmps84
      go_wp2
      go_ret
      exact ⟨by rw [V2.out]; first | rfl | (simp; done) | (simp; omega), by repeat (first | exact Below.refl _ _ | exact HB1.out | refine Below.alloc ?_ (by simp [World.setCell] <;> omega) _ | refine Below.setCell ?_ (by simp) _)⟩
    by_cases hv : v = ⟨#[]⟩
    · have V2 : Hid (b = true) := V.out.trans (by simp [*])
      clear V
      subst g0 g1 hv
      go_enter Tryz.func84, Tryz.ntmps84
      go_wp2
      go_ret
      exact ⟨by rw [V2.out]; first | rfl | (simp; done) | (simp; omega), by repeat (first | exact Below.refl _ _ | exact HB1.out | refine Below.alloc ?_ (by simp [World.setCell] <;> omega) _ | refine Below.setCell ?_ (by simp) _)⟩
    · have V2 : Hid (b = false) := V.out.trans (by simp [*])
      clear V
      have s7 : ¬ v.toList = (⟨#[]⟩ : ByteArray).toList := fun e => hv ((bytes_inj _ _).1 e)
      have t7 : v.toList.isEmpty = false := by
        rw [Bool.eq_false_iff]
        intro h
        exact s7 (by rw [List.isEmpty_iff.1 h, ByteArray.toList_eq])
      subst g0 g1
      go_enter Tryz.func84, Tryz.ntmps84
      go_wp2
      go_ret
      exact ⟨by rw [V2.out]; first | rfl | (simp; done) | (simp; omega), by repeat (first | exact Below.refl _ _ | exact HB1.out | refine Below.alloc ?_ (by simp [World.setCell] <;> omega) _ | refine Below.setCell ?_ (by simp) _)⟩
  · by_cases h0 : 0 ≤ C
    rotate_left
    · have V2 : Hid (b = false) := V.out.trans (by simp [*])
      clear V
      go_enter Tryz.func84, Tryz.ntmps84
      go_wp2
      go_ret
      exact ⟨by rw [V2.out]; first | rfl | (simp; done) | (simp; omega), by repeat (first | exact Below.refl _ _ | exact HB1.out | refine Below.alloc ?_ (by simp [World.setCell] <;> omega) _ | refine Below.setCell ?_ (by simp) _)⟩
    by_cases h1 : C < 16
    rotate_left
    · have V2 : Hid (b = false) := V.out.trans (by simp [*])
      clear V
      go_enter Tryz.func84, Tryz.ntmps84
      go_wp2
      go_ret
      exact ⟨by rw [V2.out]; first | rfl | (simp; done) | (simp; omega), by repeat (first | exact Below.refl _ _ | exact HB1.out | refine Below.alloc ?_ (by simp [World.setCell] <;> omega) _ | refine Below.setCell ?_ (by simp) _)⟩
    by_cases h2 : 1 ≤ N
    rotate_left
    · have V2 : Hid (b = false) := V.out.trans (by simp [*])
      clear V
      go_enter Tryz.func84, Tryz.ntmps84
      go_wp2
      go_ret
      exact ⟨by rw [V2.out]; first | rfl | (simp; done) | (simp; omega), by repeat (first | exact Below.refl _ _ | exact HB1.out | refine Below.alloc ?_ (by simp [World.setCell] <;> omega) _ | refine Below.setCell ?_ (by simp) _)⟩
    by_cases g0 : k = 0
    rotate_left
    · have V2 : Hid (b = false) := V.out.trans (by simp [*])
      clear V
      have q0 : (k == 0) = false := by simp [g0]
      go_enter Tryz.func84, Tryz.ntmps84
      go_wp2
      go_ret
      exact ⟨by rw [V2.out]; first | rfl | (simp; done) | (simp; omega), by repeat (first | exact Below.refl _ _ | exact HB1.out | refine Below.alloc ?_ (by simp [World.setCell] <;> omega) _ | refine Below.setCell ?_ (by simp) _)⟩
    by_cases g1 : s = 0
    rotate_left
    · have V2 : Hid (b = false) := V.out.trans (by simp [*])
      clear V
      have q1 : (s == 0) = false := by simp [g1]
      subst g0
      go_enter Tryz.func84, Tryz.ntmps84
      go_wp2
      go_ret
      exact ⟨by rw [V2.out]; first | rfl | (simp; done) | (simp; omega), by repeat (first | exact Below.refl _ _ | exact HB1.out | refine Below.alloc ?_ (by simp [World.setCell] <;> omega) _ | refine Below.setCell ?_ (by simp) _)⟩
    by_cases hv : v = ⟨#[]⟩
    · have V2 : Hid (b = true) := V.out.trans (by simp [*])
      clear V
      subst g0 g1 hv
      go_enter Tryz.func84, Tryz.ntmps84
      go_wp2
      go_ret
      exact ⟨by rw [V2.out]; first | rfl | (simp; done) | (simp; omega), by repeat (first | exact Below.refl _ _ | exact HB1.out | refine Below.alloc ?_ (by simp [World.setCell] <;> omega) _ | refine Below.setCell ?_ (by simp) _)⟩
    · have V2 : Hid (b = false) := V.out.trans (by simp [*])
      clear V
      have s7 : ¬ v.toList = (⟨#[]⟩ : ByteArray).toList := fun e => hv ((bytes_inj _ _).1 e)
      have t7 : v.toList.isEmpty = false := by
        rw [Bool.eq_false_iff]
        intro h
        exact s7 (by rw [List.isEmpty_iff.1 h, ByteArray.toList_eq])
      subst g0 g1
      go_enter Tryz.func84, Tryz.ntmps84
      go_wp2
      go_ret
      exact ⟨by rw [V2.out]; first | rfl | (simp; done) | (simp; omega), by repeat (first | exact Below.refl _ _ | exact HB1.out | refine Below.alloc ?_ (by simp [World.setCell] <;> omega) _ | refine Below.setCell ?_ (by simp) _)⟩
set_option maxRecDepth 100000 in
set_option maxHeartbeats 2000000 in
theorem refentry7_whole (K : Int) (hK : ¬ (K = 2 ∨ K = 14)) (C N k s : Int) (v : ByteArray) (hf : (⟨k, s, v⟩ : Opn).fits) (w : World) : Calls Tryz.prog 84 #[.int .i64 K, .agg #[.int .i64 C, .int .i64 N, .int .i64 k, .int .i64 s, .string v]] w fun e w' => e = .returned (.bool (enK K ⟨C, N, ⟨k, s, v⟩⟩)) ∧ Below w.heap.size w w' := by
  have HE := hide (fun W => refentry_any C N k s v hf W)
  have HB1 : Hid (Below w.heap.size w (w.alloc (.cells #[.int .i64 C, .int .i64 N, .int .i64 k, .int .i64 s, .string v] 28))) := (Below.refl _ _).alloc (Nat.le_refl _) _
  have V : Hid (enK K ⟨C, N, ⟨k, s, v⟩⟩ = (decide (ckE ⟨C, N, ⟨k, s, v⟩⟩ = 0) && (!decide (K = 13) || (decide (k = 3) || decide (k = 4))))) := by show _ = _; unfold enK; rw [if_neg hK]
  generalize enK K ⟨C, N, ⟨k, s, v⟩⟩ = b at *
  generalize ckE ⟨C, N, ⟨k, s, v⟩⟩ = x at *
  have k2 : (K == 2) = false := by simp; omega
  have k14 : (K == 14) = false := by simp; omega
  clear hK hf
  by_cases hx : x = 0
  rotate_left
  · have V2 : Hid (b = false) := V.out.trans (by simp [hx])
    have qx : (x == 0) = false := by simp [hx]
    clear V
    go_enter Tryz.func84, Tryz.ntmps84
    go_wp2_with fail
    refine (HE.out _).mono ?_
    rintro e w1 ⟨rfl, b1⟩
    have e2 := (b1.cell (p := ⟨w.heap.size, 2, none⟩) (by simp)).trans (show _ = some (.int .i64 k) by simp)
    have B1 := hide (HB1.out.trans (b1.mono (by simp)))
    clear b1
    go_wp2
    go_ret
    exact ⟨by rw [V2.out]; first | rfl | (simp; done) | (simp; omega), B1.out⟩
  subst hx
  by_cases h13 : K = 13
  rotate_left
  · have V2 : Hid (b = true) := V.out.trans (by simp [h13])
    have q13 : (K == 13) = false := by simp [h13]
    clear V
    go_enter Tryz.func84, Tryz.ntmps84
    go_wp2_with fail
    refine (HE.out _).mono ?_
    rintro e w1 ⟨rfl, b1⟩
    have e2 := (b1.cell (p := ⟨w.heap.size, 2, none⟩) (by simp)).trans (show _ = some (.int .i64 k) by simp)
    have B1 := hide (HB1.out.trans (b1.mono (by simp)))
    clear b1
    go_wp2
    go_ret
    exact ⟨by rw [V2.out]; first | rfl | (simp; done) | (simp; omega), B1.out⟩
  subst h13
  by_cases g3 : k = 3
  · have V2 : Hid (b = true) := V.out.trans (by simp [g3])
    subst g3
    clear V
    go_enter Tryz.func84, Tryz.ntmps84
    go_wp2_with fail
    refine (HE.out _).mono ?_
    rintro e w1 ⟨rfl, b1⟩
    have e2 := (b1.cell (p := ⟨w.heap.size, 2, none⟩) (by simp)).trans (show _ = some (.int .i64 3) by simp)
    have B1 := hide (HB1.out.trans (b1.mono (by simp)))
    clear b1
    go_wp2
    go_ret
    exact ⟨by rw [V2.out]; first | rfl | (simp; done) | (simp; omega), B1.out⟩
  have q3 : (k == 3) = false := by simp [g3]
  by_cases g4 : k = 4
  · have V2 : Hid (b = true) := V.out.trans (by simp [g4])
    subst g4
    clear V
    go_enter Tryz.func84, Tryz.ntmps84
    go_wp2_with fail
    refine (HE.out _).mono ?_
    rintro e w1 ⟨rfl, b1⟩
    have e2 := (b1.cell (p := ⟨w.heap.size, 2, none⟩) (by simp)).trans (show _ = some (.int .i64 4) by simp)
    have B1 := hide (HB1.out.trans (b1.mono (by simp)))
    clear b1
    go_wp2
    go_ret
    exact ⟨by rw [V2.out]; first | rfl | (simp; done) | (simp; omega), B1.out⟩
  have q4 : (k == 4) = false := by simp [g4]
  have V2 : Hid (b = false) := V.out.trans (by simp [g3, g4])
  clear V
  go_enter Tryz.func84, Tryz.ntmps84
  go_wp2_with fail
  refine (HE.out _).mono ?_
  rintro e w1 ⟨rfl, b1⟩
  have e2 := (b1.cell (p := ⟨w.heap.size, 2, none⟩) (by simp)).trans (show _ = some (.int .i64 k) by simp)
  have B1 := hide (HB1.out.trans (b1.mono (by simp)))
  clear b1
  go_wp2
  go_ret
  exact ⟨by rw [V2.out]; first | rfl | (simp; done) | (simp; omega), B1.out⟩
theorem refentry7 (K : Int) (e : En) (hf : e.o.fits) (w : World) : Calls Tryz.prog 84 #[.int .i64 K, .agg #[.int .i64 e.c, .int .i64 e.n, .int .i64 e.o.k, .int .i64 e.o.s, .string e.o.v]] w fun r w' => r = .returned (.bool (enK K e)) ∧ Below w.heap.size w w' := by
  by_cases hK : K = 2 ∨ K = 14
  · exact refentry7_name K hK e.c e.n e.o.k e.o.s e.o.v w
  · exact refentry7_whole K hK e.c e.n e.o.k e.o.s e.o.v hf w
set_option maxHeartbeats 1000000 in
theorem resultMayBe_any (c s : Int) (v : ByteArray) (w : World) : Calls Tryz.prog 80 #[.agg #[.int .i64 c, .int .i64 s, .string v]] w fun e w' => e = .returned (.bool (resB c s v)) ∧ Below w.heap.size w w' := by
  have hB : Below w.heap.size w (w.alloc (.cells #[.int .i64 c, .int .i64 s, .string v] 30)) := (Below.refl _ _).alloc (Nat.le_refl _) _
  have HB := hide hB
  clear hB
  by_cases h1 : c = 1
  · subst h1
    have V : Hid (resB 1 s v = (inR s 0 1023 && decide (v.size ≤ 64))) := by simp [Hid, resB]
    have H := hide (fun W => withinM_any s 0 1023 W)
    generalize inR s 0 1023 = x at *
    cases x with
    | false =>
      go_enter Tryz.func80, Tryz.ntmps80
      go_wp2_with fail
      refine (H.out _).mono ?_
      rintro e w1 ⟨rfl, rfl⟩
      go_wp2
      go_ret
      exact ⟨by rw [V.out]; rfl, HB.out⟩
    | true =>
      by_cases hv : (v.size : Int) ≤ 64
      · have hv' : decide (v.size ≤ 64) = true := decide_eq_true (by omega)
        go_enter Tryz.func80, Tryz.ntmps80
        go_wp2_with fail
        refine (H.out _).mono ?_
        rintro e w1 ⟨rfl, rfl⟩
        go_wp2
        go_ret
        exact ⟨by rw [V.out, hv']; first | rfl | (simp; omega), HB.out⟩
      · have hv' : decide (v.size ≤ 64) = false := decide_eq_false (by omega)
        go_enter Tryz.func80, Tryz.ntmps80
        go_wp2_with fail
        refine (H.out _).mono ?_
        rintro e w1 ⟨rfl, rfl⟩
        go_wp2
        go_ret
        exact ⟨by rw [V.out, hv']; first | rfl | (simp; omega), HB.out⟩
  · skip
    by_cases h2 : c = 2
    · subst h2
      have V : Hid (resB 2 s v = (inR s 0 1023 && decide (v.size ≤ 64))) := by simp [Hid, resB]
      have H := hide (fun W => withinM_any s 0 1023 W)
      generalize inR s 0 1023 = x at *
      cases x with
      | false =>
        go_enter Tryz.func80, Tryz.ntmps80
        go_wp2_with fail
        refine (H.out _).mono ?_
        rintro e w1 ⟨rfl, rfl⟩
        go_wp2
        go_ret
        exact ⟨by rw [V.out]; rfl, HB.out⟩
      | true =>
        by_cases hv : (v.size : Int) ≤ 64
        · have hv' : decide (v.size ≤ 64) = true := decide_eq_true (by omega)
          go_enter Tryz.func80, Tryz.ntmps80
          go_wp2_with fail
          refine (H.out _).mono ?_
          rintro e w1 ⟨rfl, rfl⟩
          go_wp2
          go_ret
          exact ⟨by rw [V.out, hv']; first | rfl | (simp; omega), HB.out⟩
        · have hv' : decide (v.size ≤ 64) = false := decide_eq_false (by omega)
          go_enter Tryz.func80, Tryz.ntmps80
          go_wp2_with fail
          refine (H.out _).mono ?_
          rintro e w1 ⟨rfl, rfl⟩
          go_wp2
          go_ret
          exact ⟨by rw [V.out, hv']; first | rfl | (simp; omega), HB.out⟩
    · skip
      by_cases h4 : c = 4
      · subst h4
        have V : Hid (resB 4 s v = (inR s 0 1023 && decide (v.size ≤ 64))) := by simp [Hid, resB]
        have H := hide (fun W => withinM_any s 0 1023 W)
        generalize inR s 0 1023 = x at *
        cases x with
        | false =>
          go_enter Tryz.func80, Tryz.ntmps80
          go_wp2_with fail
          refine (H.out _).mono ?_
          rintro e w1 ⟨rfl, rfl⟩
          go_wp2
          go_ret
          exact ⟨by rw [V.out]; rfl, HB.out⟩
        | true =>
          by_cases hv : (v.size : Int) ≤ 64
          · have hv' : decide (v.size ≤ 64) = true := decide_eq_true (by omega)
            go_enter Tryz.func80, Tryz.ntmps80
            go_wp2_with fail
            refine (H.out _).mono ?_
            rintro e w1 ⟨rfl, rfl⟩
            go_wp2
            go_ret
            exact ⟨by rw [V.out, hv']; first | rfl | (simp; omega), HB.out⟩
          · have hv' : decide (v.size ≤ 64) = false := decide_eq_false (by omega)
            go_enter Tryz.func80, Tryz.ntmps80
            go_wp2_with fail
            refine (H.out _).mono ?_
            rintro e w1 ⟨rfl, rfl⟩
            go_wp2
            go_ret
            exact ⟨by rw [V.out, hv']; first | rfl | (simp; omega), HB.out⟩
      · skip
        by_cases h5 : c = 5
        · subst h5
          have V : Hid (resB 5 s v = (inR s 0 1023 && decide (v = noV))) := by simp [Hid, resB]
          have H := hide (fun W => withinM_any s 0 1023 W)
          generalize inR s 0 1023 = x at *
          cases x with
          | false =>
            go_enter Tryz.func80, Tryz.ntmps80
            go_wp2_with fail
            refine (H.out _).mono ?_
            rintro e w1 ⟨rfl, rfl⟩
            go_wp2
            go_ret
            exact ⟨by rw [V.out]; rfl, HB.out⟩
          | true =>
            by_cases hv : v = noV
            · have hv' : decide (v = noV) = true := decide_eq_true hv
              have V2 : Hid (resB 5 s v = true) := V.out.trans (by rw [hv']; rfl)
              clear V hv'
              unfold noV at hv
              subst hv
              go_enter Tryz.func80, Tryz.ntmps80
              go_wp2_with fail
              refine (H.out _).mono ?_
              rintro e w1 ⟨rfl, rfl⟩
              go_wp2
              go_ret
              exact ⟨by rw [V2.out]; rfl, HB.out⟩
            · have hv' : decide (v = noV) = false := decide_eq_false hv
              have g2 : ¬ v.toList = (⟨#[]⟩ : ByteArray).toList := fun e => hv ((bytes_inj _ _).1 e)
              have g3 : v.toList.isEmpty = false := by
                rw [Bool.eq_false_iff]
                intro h
                exact g2 (by rw [List.isEmpty_iff.1 h, ByteArray.toList_eq])
              go_enter Tryz.func80, Tryz.ntmps80
              go_wp2_with fail
              refine (H.out _).mono ?_
              rintro e w1 ⟨rfl, rfl⟩
              go_wp2
              go_ret
              exact ⟨by rw [V.out, hv']; first | rfl | (simp; omega), HB.out⟩
        · skip
          by_cases h6 : c = 6
          · subst h6
            have V : Hid (resB 6 s v = (inR s 0 1024 && decide (v = noV))) := by simp [Hid, resB]
            have H := hide (fun W => withinM_any s 0 1024 W)
            generalize inR s 0 1024 = x at *
            cases x with
            | false =>
              go_enter Tryz.func80, Tryz.ntmps80
              go_wp2_with fail
              refine (H.out _).mono ?_
              rintro e w1 ⟨rfl, rfl⟩
              go_wp2
              go_ret
              exact ⟨by rw [V.out]; rfl, HB.out⟩
            | true =>
              by_cases hv : v = noV
              · have hv' : decide (v = noV) = true := decide_eq_true hv
                have V2 : Hid (resB 6 s v = true) := V.out.trans (by rw [hv']; rfl)
                clear V hv'
                unfold noV at hv
                subst hv
                go_enter Tryz.func80, Tryz.ntmps80
                go_wp2_with fail
                refine (H.out _).mono ?_
                rintro e w1 ⟨rfl, rfl⟩
                go_wp2
                go_ret
                exact ⟨by rw [V2.out]; rfl, HB.out⟩
              · have hv' : decide (v = noV) = false := decide_eq_false hv
                have g2 : ¬ v.toList = (⟨#[]⟩ : ByteArray).toList := fun e => hv ((bytes_inj _ _).1 e)
                have g3 : v.toList.isEmpty = false := by
                  rw [Bool.eq_false_iff]
                  intro h
                  exact g2 (by rw [List.isEmpty_iff.1 h, ByteArray.toList_eq])
                go_enter Tryz.func80, Tryz.ntmps80
                go_wp2_with fail
                refine (H.out _).mono ?_
                rintro e w1 ⟨rfl, rfl⟩
                go_wp2
                go_ret
                exact ⟨by rw [V.out, hv']; first | rfl | (simp; omega), HB.out⟩
          · skip
            by_cases h3 : c = 3
            · subst h3
              have V : Hid (resB 3 s v = (decide (s = 0) && decide (v = noV))) := by simp [Hid, resB]
              by_cases hs : s = 0
              · by_cases hv : v = noV
                · have V2 : Hid (resB 3 s v = true) := V.out.trans (by simp [hs, hv])
                  clear V
                  unfold noV at hv
                  subst hv hs
                  go_enter Tryz.func80, Tryz.ntmps80
                  go_wp2
                  go_ret
                  exact ⟨by rw [V2.out]; rfl, HB.out⟩
                · have g2 : ¬ v.toList = (⟨#[]⟩ : ByteArray).toList := fun e => hv ((bytes_inj _ _).1 e)
                  have g3 : v.toList.isEmpty = false := by
                    rw [Bool.eq_false_iff]
                    intro h
                    exact g2 (by rw [List.isEmpty_iff.1 h, ByteArray.toList_eq])
                  have V2 : Hid (resB 3 s v = false) := V.out.trans (by simp [hv])
                  clear V
                  subst hs
                  go_enter Tryz.func80, Tryz.ntmps80
                  go_wp2
                  go_ret
                  exact ⟨by rw [V2.out]; rfl, HB.out⟩
              · have V2 : Hid (resB 3 s v = false) := V.out.trans (by simp [hs])
                clear V
                go_enter Tryz.func80, Tryz.ntmps80
                go_wp2
                go_ret
                exact ⟨by rw [V2.out]; rfl, HB.out⟩
            · skip
              by_cases h7 : c = 7
              · subst h7
                have V : Hid (resB 7 s v = (decide (s = 0) && decide (v = noV))) := by simp [Hid, resB]
                by_cases hs : s = 0
                · by_cases hv : v = noV
                  · have V2 : Hid (resB 7 s v = true) := V.out.trans (by simp [hs, hv])
                    clear V
                    unfold noV at hv
                    subst hv hs
                    go_enter Tryz.func80, Tryz.ntmps80
                    go_wp2
                    go_ret
                    exact ⟨by rw [V2.out]; rfl, HB.out⟩
                  · have g2 : ¬ v.toList = (⟨#[]⟩ : ByteArray).toList := fun e => hv ((bytes_inj _ _).1 e)
                    have g3 : v.toList.isEmpty = false := by
                      rw [Bool.eq_false_iff]
                      intro h
                      exact g2 (by rw [List.isEmpty_iff.1 h, ByteArray.toList_eq])
                    have V2 : Hid (resB 7 s v = false) := V.out.trans (by simp [hv])
                    clear V
                    subst hs
                    go_enter Tryz.func80, Tryz.ntmps80
                    go_wp2
                    go_ret
                    exact ⟨by rw [V2.out]; rfl, HB.out⟩
                · have V2 : Hid (resB 7 s v = false) := V.out.trans (by simp [hs])
                  clear V
                  go_enter Tryz.func80, Tryz.ntmps80
                  go_wp2
                  go_ret
                  exact ⟨by rw [V2.out]; rfl, HB.out⟩
              · skip
                have V : Hid (resB c s v = false) := by simp [Hid, resB, h1, h2, h3, h4, h5, h6, h7]
                have n1 : (c == 1) = false := by simp [h1]
                have n2 : (c == 2) = false := by simp [h2]
                have n3 : (c == 3) = false := by simp [h3]
                have n4 : (c == 4) = false := by simp [h4]
                have n5 : (c == 5) = false := by simp [h5]
                have n6 : (c == 6) = false := by simp [h6]
                have n7 : (c == 7) = false := by simp [h7]
                go_enter Tryz.func80, Tryz.ntmps80
                go_wp2
                go_ret
                exact ⟨by rw [V.out]; rfl, HB.out⟩
def zEn : En := ⟨0, 0, ⟨0, 0, ⟨#[]⟩⟩⟩
def blB (m : Mg) (nl nv : Nat) (at_ : Nat) : Bool :=
  if at_ = 0 then decide (m.nd = 0) else if at_ = 1 then decide (m.vw = 0) else if at_ = 2 then decide (m.ls = 0) else if at_ = 3 then decide (m.p = 0) else if at_ = 4 then decide (m.cm = 0) else if at_ = 5 then decide (m.d = (0, 0)) else if at_ = 6 then enb m.e zEn else if at_ = 7 then decide (m.r = (0, 0, ⟨#[]⟩)) else if at_ = 8 then decide (nl = 0) else decide (nv = 0)
set_option maxRecDepth 100000 in
set_option maxHeartbeats 1000000 in
theorem isBlank_0 (m : Mg) (a1 a2 : Option Addr) (nl cl nv cv : Nat) (w : World) : Calls Tryz.prog 76 #[m.val (.slice a1 nl cl) (.slice a2 nv cv), .int .i64 0] w fun e w' => e = .returned (.bool (blB m nl nv 0)) ∧ Below w.heap.size w w' := by
  by_cases h : m.nd = 0
  · have V : Hid (blB m nl nv 0 = true) := by simp [Hid, blB, h]
    go_enter Tryz.func76, Tryz.ntmps76
    go_upto_region 1 with (refine boxMk rfl (.tmp 0) rfl m _ _ rfl ?_; intro q1 w1 hq1 M1 b1 z1; subst hq1)
    have HB := hide b1
    have x1 := M1.cell 1 _ rfl
    rw [h] at x1
    clear M1 b1 z1
    go_wp2
    go_ret
    exact ⟨by rw [V.out]; rfl, HB.out⟩
  · have V : Hid (blB m nl nv 0 = false) := by simp [Hid, blB, h]
    have hq : (m.nd == 0) = false := by simp [h]
    go_enter Tryz.func76, Tryz.ntmps76
    go_upto_region 1 with (refine boxMk rfl (.tmp 0) rfl m _ _ rfl ?_; intro q1 w1 hq1 M1 b1 z1; subst hq1)
    have HB := hide b1
    have x1 := M1.cell 1 _ rfl
    clear M1 b1 z1
    go_wp2
    go_ret
    exact ⟨by rw [V.out]; rfl, HB.out⟩
set_option maxRecDepth 100000 in
set_option maxHeartbeats 1000000 in
theorem isBlank_1 (m : Mg) (a1 a2 : Option Addr) (nl cl nv cv : Nat) (w : World) : Calls Tryz.prog 76 #[m.val (.slice a1 nl cl) (.slice a2 nv cv), .int .i64 1] w fun e w' => e = .returned (.bool (blB m nl nv 1)) ∧ Below w.heap.size w w' := by
  by_cases h : m.vw = 0
  · have V : Hid (blB m nl nv 1 = true) := by simp [Hid, blB, h]
    go_enter Tryz.func76, Tryz.ntmps76
    go_upto_region 1 with (refine boxMk rfl (.tmp 0) rfl m _ _ rfl ?_; intro q1 w1 hq1 M1 b1 z1; subst hq1)
    have HB := hide b1
    have x2 := M1.cell 2 _ rfl
    rw [h] at x2
    clear M1 b1 z1
    go_wp2
    go_ret
    exact ⟨by rw [V.out]; rfl, HB.out⟩
  · have V : Hid (blB m nl nv 1 = false) := by simp [Hid, blB, h]
    have hq : (m.vw == 0) = false := by simp [h]
    go_enter Tryz.func76, Tryz.ntmps76
    go_upto_region 1 with (refine boxMk rfl (.tmp 0) rfl m _ _ rfl ?_; intro q1 w1 hq1 M1 b1 z1; subst hq1)
    have HB := hide b1
    have x2 := M1.cell 2 _ rfl
    clear M1 b1 z1
    go_wp2
    go_ret
    exact ⟨by rw [V.out]; rfl, HB.out⟩
set_option maxRecDepth 100000 in
set_option maxHeartbeats 1000000 in
theorem isBlank_2 (m : Mg) (a1 a2 : Option Addr) (nl cl nv cv : Nat) (w : World) : Calls Tryz.prog 76 #[m.val (.slice a1 nl cl) (.slice a2 nv cv), .int .i64 2] w fun e w' => e = .returned (.bool (blB m nl nv 2)) ∧ Below w.heap.size w w' := by
  by_cases h : m.ls = 0
  · have V : Hid (blB m nl nv 2 = true) := by simp [Hid, blB, h]
    go_enter Tryz.func76, Tryz.ntmps76
    go_upto_region 1 with (refine boxMk rfl (.tmp 0) rfl m _ _ rfl ?_; intro q1 w1 hq1 M1 b1 z1; subst hq1)
    have HB := hide b1
    have x13 := M1.cell 13 _ rfl
    rw [h] at x13
    clear M1 b1 z1
    go_wp2
    go_ret
    exact ⟨by rw [V.out]; rfl, HB.out⟩
  · have V : Hid (blB m nl nv 2 = false) := by simp [Hid, blB, h]
    have hq : (m.ls == 0) = false := by simp [h]
    go_enter Tryz.func76, Tryz.ntmps76
    go_upto_region 1 with (refine boxMk rfl (.tmp 0) rfl m _ _ rfl ?_; intro q1 w1 hq1 M1 b1 z1; subst hq1)
    have HB := hide b1
    have x13 := M1.cell 13 _ rfl
    clear M1 b1 z1
    go_wp2
    go_ret
    exact ⟨by rw [V.out]; rfl, HB.out⟩
set_option maxRecDepth 100000 in
set_option maxHeartbeats 1000000 in
theorem isBlank_3 (m : Mg) (a1 a2 : Option Addr) (nl cl nv cv : Nat) (w : World) : Calls Tryz.prog 76 #[m.val (.slice a1 nl cl) (.slice a2 nv cv), .int .i64 3] w fun e w' => e = .returned (.bool (blB m nl nv 3)) ∧ Below w.heap.size w w' := by
  by_cases h : m.p = 0
  · have V : Hid (blB m nl nv 3 = true) := by simp [Hid, blB, h]
    go_enter Tryz.func76, Tryz.ntmps76
    go_upto_region 1 with (refine boxMk rfl (.tmp 0) rfl m _ _ rfl ?_; intro q1 w1 hq1 M1 b1 z1; subst hq1)
    have HB := hide b1
    have x11 := M1.cell 11 _ rfl
    rw [h] at x11
    clear M1 b1 z1
    go_wp2
    go_ret
    exact ⟨by rw [V.out]; rfl, HB.out⟩
  · have V : Hid (blB m nl nv 3 = false) := by simp [Hid, blB, h]
    have hq : (m.p == 0) = false := by simp [h]
    go_enter Tryz.func76, Tryz.ntmps76
    go_upto_region 1 with (refine boxMk rfl (.tmp 0) rfl m _ _ rfl ?_; intro q1 w1 hq1 M1 b1 z1; subst hq1)
    have HB := hide b1
    have x11 := M1.cell 11 _ rfl
    clear M1 b1 z1
    go_wp2
    go_ret
    exact ⟨by rw [V.out]; rfl, HB.out⟩
set_option maxRecDepth 100000 in
set_option maxHeartbeats 1000000 in
theorem isBlank_4 (m : Mg) (a1 a2 : Option Addr) (nl cl nv cv : Nat) (w : World) : Calls Tryz.prog 76 #[m.val (.slice a1 nl cl) (.slice a2 nv cv), .int .i64 4] w fun e w' => e = .returned (.bool (blB m nl nv 4)) ∧ Below w.heap.size w w' := by
  by_cases h : m.cm = 0
  · have V : Hid (blB m nl nv 4 = true) := by simp [Hid, blB, h]
    go_enter Tryz.func76, Tryz.ntmps76
    go_upto_region 1 with (refine boxMk rfl (.tmp 0) rfl m _ _ rfl ?_; intro q1 w1 hq1 M1 b1 z1; subst hq1)
    have HB := hide b1
    have x12 := M1.cell 12 _ rfl
    rw [h] at x12
    clear M1 b1 z1
    go_wp2
    go_ret
    exact ⟨by rw [V.out]; rfl, HB.out⟩
  · have V : Hid (blB m nl nv 4 = false) := by simp [Hid, blB, h]
    have hq : (m.cm == 0) = false := by simp [h]
    go_enter Tryz.func76, Tryz.ntmps76
    go_upto_region 1 with (refine boxMk rfl (.tmp 0) rfl m _ _ rfl ?_; intro q1 w1 hq1 M1 b1 z1; subst hq1)
    have HB := hide b1
    have x12 := M1.cell 12 _ rfl
    clear M1 b1 z1
    go_wp2
    go_ret
    exact ⟨by rw [V.out]; rfl, HB.out⟩
set_option maxRecDepth 100000 in
set_option maxHeartbeats 1000000 in
theorem isBlank_8 (m : Mg) (a1 a2 : Option Addr) (nl cl nv cv : Nat) (w : World) : Calls Tryz.prog 76 #[m.val (.slice a1 nl cl) (.slice a2 nv cv), .int .i64 8] w fun e w' => e = .returned (.bool (blB m nl nv 8)) ∧ Below w.heap.size w w' := by
  by_cases h : nl = 0
  · have V : Hid (blB m nl nv 8 = true) := by simp [Hid, blB, h]
    subst h
    go_enter Tryz.func76, Tryz.ntmps76
    go_upto_region 1 with (refine boxMk rfl (.tmp 0) rfl m _ _ rfl ?_; intro q1 w1 hq1 M1 b1 z1; subst hq1)
    have HB := hide b1
    have x16 := M1.cell 16 _ rfl
    clear M1 b1 z1
    go_wp2
    go_ret
    exact ⟨by rw [V.out]; rfl, HB.out⟩
  · have V : Hid (blB m nl nv 8 = false) := by simp [Hid, blB, h]
    have h' : ¬ (nl : Int) = 0 := by omega
    have hq : ((nl : Int) == 0) = false := by simp [h]
    go_enter Tryz.func76, Tryz.ntmps76
    go_upto_region 1 with (refine boxMk rfl (.tmp 0) rfl m _ _ rfl ?_; intro q1 w1 hq1 M1 b1 z1; subst hq1)
    have HB := hide b1
    have x16 := M1.cell 16 _ rfl
    clear M1 b1 z1
    go_wp2
    go_ret
    exact ⟨by rw [V.out]; rfl, HB.out⟩
set_option maxRecDepth 100000 in
set_option maxHeartbeats 1000000 in
theorem isBlank_9 (m : Mg) (a1 a2 : Option Addr) (nl cl nv cv : Nat) (w : World) : Calls Tryz.prog 76 #[m.val (.slice a1 nl cl) (.slice a2 nv cv), .int .i64 9] w fun e w' => e = .returned (.bool (blB m nl nv 9)) ∧ Below w.heap.size w w' := by
  by_cases h : nv = 0
  · have V : Hid (blB m nl nv 9 = true) := by simp [Hid, blB, h]
    subst h
    go_enter Tryz.func76, Tryz.ntmps76
    go_upto_region 1 with (refine boxMk rfl (.tmp 0) rfl m _ _ rfl ?_; intro q1 w1 hq1 M1 b1 z1; subst hq1)
    have HB := hide b1
    have x17 := M1.cell 17 _ rfl
    clear M1 b1 z1
    go_wp2
    go_ret
    exact ⟨by rw [V.out]; rfl, HB.out⟩
  · have V : Hid (blB m nl nv 9 = false) := by simp [Hid, blB, h]
    have h' : ¬ (nv : Int) = 0 := by omega
    have hq : ((nv : Int) == 0) = false := by simp [h]
    go_enter Tryz.func76, Tryz.ntmps76
    go_upto_region 1 with (refine boxMk rfl (.tmp 0) rfl m _ _ rfl ?_; intro q1 w1 hq1 M1 b1 z1; subst hq1)
    have HB := hide b1
    have x17 := M1.cell 17 _ rfl
    clear M1 b1 z1
    go_wp2
    go_ret
    exact ⟨by rw [V.out]; rfl, HB.out⟩
theorem TRUE5 (m : Mg) (nl nv : Nat) (h1 : m.d.1 = 0) (h2 : m.d.2 = 0) : Hid (blB m nl nv 5 = true) := by
  obtain ⟨k, nd, vw, e, r, p, cm, ls, d1, d2⟩ := m
  dsimp only at h1 h2
  subst h1 h2
  rfl
theorem FALSE5 (m : Mg) (nl nv : Nat) (h : m.d ≠ (0, 0)) : Hid (blB m nl nv 5 = false) := by
  show _ = _
  simp [blB, h]
theorem TRUE6 (m : Mg) (nl nv : Nat) (h1 : m.e.c = 0) (h2 : m.e.n = 0) (h3 : m.e.o.k = 0) (h4 : m.e.o.s = 0) (h5 : m.e.o.v = ⟨#[]⟩) : Hid (blB m nl nv 6 = true) := by
  obtain ⟨k, nd, vw, ⟨c, n, ⟨ok, os, ov⟩⟩, r, p, cm, ls, d1, d2⟩ := m
  dsimp only at h1 h2 h3 h4 h5
  subst h1 h2 h3 h4 h5
  show _ = _
  simp [blB, (enb_iff _ _).2, zEn]
theorem FALSE6 (m : Mg) (nl nv : Nat) (h : m.e ≠ zEn) : Hid (blB m nl nv 6 = false) := by
  have e : enb m.e zEn = false := Bool.eq_false_iff.2 (fun e => h ((enb_iff _ _).1 e))
  show _ = _
  simp [blB, e]
theorem TRUE7 (m : Mg) (nl nv : Nat) (h1 : m.r.1 = 0) (h2 : m.r.2.1 = 0) (h3 : m.r.2.2 = ⟨#[]⟩) : Hid (blB m nl nv 7 = true) := by
  obtain ⟨k, nd, vw, e, ⟨r1, r2, r3⟩, p, cm, ls, d1, d2⟩ := m
  dsimp only at h1 h2 h3
  subst h1 h2 h3
  show _ = _
  simp [blB, zEn]
theorem FALSE7 (m : Mg) (nl nv : Nat) (h : m.r ≠ (0, 0, ⟨#[]⟩)) : Hid (blB m nl nv 7 = false) := by
  show _ = _
  simp [blB, h]
set_option maxRecDepth 100000 in
set_option maxHeartbeats 1000000 in
theorem isBlank_5 (m : Mg) (a1 a2 : Option Addr) (nl cl nv cv : Nat) (w : World) : Calls Tryz.prog 76 #[m.val (.slice a1 nl cl) (.slice a2 nv cv), .int .i64 5] w fun e w' => e = .returned (.bool (blB m nl nv 5)) ∧ Below w.heap.size w w' := by
  by_cases g14 : m.d.1 = 0
  · by_cases g15 : m.d.2 = 0
    · have V : Hid (blB m nl nv 5 = true) := TRUE5 m nl nv g14 g15
      go_enter Tryz.func76, Tryz.ntmps76
      go_upto_region 1 with (refine boxMk rfl (.tmp 0) rfl m _ _ rfl ?_; intro q1 w1 hq1 M1 b1 z1; subst hq1)
      have HB := hide b1
      have x14 := M1.cell 14 _ rfl
      rw [g14] at x14
      have x15 := M1.cell 15 _ rfl
      rw [g15] at x15
      clear M1 b1 z1
      go_wp2
      go_ret
      exact ⟨by rw [V.out]; rfl, HB.out⟩
    · have V : Hid (blB m nl nv 5 = false) := FALSE5 m nl nv (by intro h; exact g15 (by rw [h] <;> rfl))
      have hq : (m.d.2 == 0) = false := by simp [g15]
      go_enter Tryz.func76, Tryz.ntmps76
      go_upto_region 1 with (refine boxMk rfl (.tmp 0) rfl m _ _ rfl ?_; intro q1 w1 hq1 M1 b1 z1; subst hq1)
      have HB := hide b1
      have x14 := M1.cell 14 _ rfl
      rw [g14] at x14
      have x15 := M1.cell 15 _ rfl
      clear M1 b1 z1
      go_wp2
      go_ret
      exact ⟨by rw [V.out]; rfl, HB.out⟩
  · have V : Hid (blB m nl nv 5 = false) := FALSE5 m nl nv (by intro h; exact g14 (by rw [h] <;> rfl))
    have hq : (m.d.1 == 0) = false := by simp [g14]
    go_enter Tryz.func76, Tryz.ntmps76
    go_upto_region 1 with (refine boxMk rfl (.tmp 0) rfl m _ _ rfl ?_; intro q1 w1 hq1 M1 b1 z1; subst hq1)
    have HB := hide b1
    have x14 := M1.cell 14 _ rfl
    have x15 := M1.cell 15 _ rfl
    clear M1 b1 z1
    go_wp2
    go_ret
    exact ⟨by rw [V.out]; rfl, HB.out⟩
set_option maxRecDepth 100000 in
set_option maxHeartbeats 1000000 in
theorem isBlank_6 (m : Mg) (a1 a2 : Option Addr) (nl cl nv cv : Nat) (w : World) : Calls Tryz.prog 76 #[m.val (.slice a1 nl cl) (.slice a2 nv cv), .int .i64 6] w fun e w' => e = .returned (.bool (blB m nl nv 6)) ∧ Below w.heap.size w w' := by
  by_cases g3 : m.e.c = 0
  · by_cases g4 : m.e.n = 0
    · by_cases g5 : m.e.o.k = 0
      · by_cases g6 : m.e.o.s = 0
        · by_cases g7 : m.e.o.v = ⟨#[]⟩
          · have V : Hid (blB m nl nv 6 = true) := TRUE6 m nl nv g3 g4 g5 g6 g7
            go_enter Tryz.func76, Tryz.ntmps76
            go_upto_region 1 with (refine boxMk rfl (.tmp 0) rfl m _ _ rfl ?_; intro q1 w1 hq1 M1 b1 z1; subst hq1)
            have HB := hide b1
            have x3 := M1.cell 3 _ rfl
            rw [g3] at x3
            have x4 := M1.cell 4 _ rfl
            rw [g4] at x4
            have x5 := M1.cell 5 _ rfl
            rw [g5] at x5
            have x6 := M1.cell 6 _ rfl
            rw [g6] at x6
            have x7 := M1.cell 7 _ rfl
            rw [g7] at x7
            clear M1 b1 z1
            go_wp2
            go_ret
            exact ⟨by rw [V.out]; rfl, HB.out⟩
          · have V : Hid (blB m nl nv 6 = false) := FALSE6 m nl nv (by intro h; exact g7 (by rw [h] <;> rfl))
            have s7 : ¬ (m.e.o.v).toList = (⟨#[]⟩ : ByteArray).toList := fun e => g7 ((bytes_inj _ _).1 e)
            have t7 : (m.e.o.v).toList.isEmpty = false := by
              rw [Bool.eq_false_iff]
              intro h
              exact s7 (by rw [List.isEmpty_iff.1 h, ByteArray.toList_eq])
            go_enter Tryz.func76, Tryz.ntmps76
            go_upto_region 1 with (refine boxMk rfl (.tmp 0) rfl m _ _ rfl ?_; intro q1 w1 hq1 M1 b1 z1; subst hq1)
            have HB := hide b1
            have x3 := M1.cell 3 _ rfl
            rw [g3] at x3
            have x4 := M1.cell 4 _ rfl
            rw [g4] at x4
            have x5 := M1.cell 5 _ rfl
            rw [g5] at x5
            have x6 := M1.cell 6 _ rfl
            rw [g6] at x6
            have x7 := M1.cell 7 _ rfl
            clear M1 b1 z1
            go_wp2
            go_ret
            exact ⟨by rw [V.out]; rfl, HB.out⟩
        · have V : Hid (blB m nl nv 6 = false) := FALSE6 m nl nv (by intro h; exact g6 (by rw [h] <;> rfl))
          have hq : (m.e.o.s == 0) = false := by simp [g6]
          go_enter Tryz.func76, Tryz.ntmps76
          go_upto_region 1 with (refine boxMk rfl (.tmp 0) rfl m _ _ rfl ?_; intro q1 w1 hq1 M1 b1 z1; subst hq1)
          have HB := hide b1
          have x3 := M1.cell 3 _ rfl
          rw [g3] at x3
          have x4 := M1.cell 4 _ rfl
          rw [g4] at x4
          have x5 := M1.cell 5 _ rfl
          rw [g5] at x5
          have x6 := M1.cell 6 _ rfl
          have x7 := M1.cell 7 _ rfl
          clear M1 b1 z1
          go_wp2
          go_ret
          exact ⟨by rw [V.out]; rfl, HB.out⟩
      · have V : Hid (blB m nl nv 6 = false) := FALSE6 m nl nv (by intro h; exact g5 (by rw [h] <;> rfl))
        have hq : (m.e.o.k == 0) = false := by simp [g5]
        go_enter Tryz.func76, Tryz.ntmps76
        go_upto_region 1 with (refine boxMk rfl (.tmp 0) rfl m _ _ rfl ?_; intro q1 w1 hq1 M1 b1 z1; subst hq1)
        have HB := hide b1
        have x3 := M1.cell 3 _ rfl
        rw [g3] at x3
        have x4 := M1.cell 4 _ rfl
        rw [g4] at x4
        have x5 := M1.cell 5 _ rfl
        have x6 := M1.cell 6 _ rfl
        have x7 := M1.cell 7 _ rfl
        clear M1 b1 z1
        go_wp2
        go_ret
        exact ⟨by rw [V.out]; rfl, HB.out⟩
    · have V : Hid (blB m nl nv 6 = false) := FALSE6 m nl nv (by intro h; exact g4 (by rw [h] <;> rfl))
      have hq : (m.e.n == 0) = false := by simp [g4]
      go_enter Tryz.func76, Tryz.ntmps76
      go_upto_region 1 with (refine boxMk rfl (.tmp 0) rfl m _ _ rfl ?_; intro q1 w1 hq1 M1 b1 z1; subst hq1)
      have HB := hide b1
      have x3 := M1.cell 3 _ rfl
      rw [g3] at x3
      have x4 := M1.cell 4 _ rfl
      have x5 := M1.cell 5 _ rfl
      have x6 := M1.cell 6 _ rfl
      have x7 := M1.cell 7 _ rfl
      clear M1 b1 z1
      go_wp2
      go_ret
      exact ⟨by rw [V.out]; rfl, HB.out⟩
  · have V : Hid (blB m nl nv 6 = false) := FALSE6 m nl nv (by intro h; exact g3 (by rw [h] <;> rfl))
    have hq : (m.e.c == 0) = false := by simp [g3]
    go_enter Tryz.func76, Tryz.ntmps76
    go_upto_region 1 with (refine boxMk rfl (.tmp 0) rfl m _ _ rfl ?_; intro q1 w1 hq1 M1 b1 z1; subst hq1)
    have HB := hide b1
    have x3 := M1.cell 3 _ rfl
    have x4 := M1.cell 4 _ rfl
    have x5 := M1.cell 5 _ rfl
    have x6 := M1.cell 6 _ rfl
    have x7 := M1.cell 7 _ rfl
    clear M1 b1 z1
    go_wp2
    go_ret
    exact ⟨by rw [V.out]; rfl, HB.out⟩
set_option maxRecDepth 100000 in
set_option maxHeartbeats 1000000 in
theorem isBlank_7 (m : Mg) (a1 a2 : Option Addr) (nl cl nv cv : Nat) (w : World) : Calls Tryz.prog 76 #[m.val (.slice a1 nl cl) (.slice a2 nv cv), .int .i64 7] w fun e w' => e = .returned (.bool (blB m nl nv 7)) ∧ Below w.heap.size w w' := by
  by_cases g8 : m.r.1 = 0
  · by_cases g9 : m.r.2.1 = 0
    · by_cases g10 : m.r.2.2 = ⟨#[]⟩
      · have V : Hid (blB m nl nv 7 = true) := TRUE7 m nl nv g8 g9 g10
        go_enter Tryz.func76, Tryz.ntmps76
        go_upto_region 1 with (refine boxMk rfl (.tmp 0) rfl m _ _ rfl ?_; intro q1 w1 hq1 M1 b1 z1; subst hq1)
        have HB := hide b1
        have x8 := M1.cell 8 _ rfl
        rw [g8] at x8
        have x9 := M1.cell 9 _ rfl
        rw [g9] at x9
        have x10 := M1.cell 10 _ rfl
        rw [g10] at x10
        clear M1 b1 z1
        go_wp2
        go_ret
        exact ⟨by rw [V.out]; rfl, HB.out⟩
      · have V : Hid (blB m nl nv 7 = false) := FALSE7 m nl nv (by intro h; exact g10 (by rw [h] <;> rfl))
        have s10 : ¬ (m.r.2.2).toList = (⟨#[]⟩ : ByteArray).toList := fun e => g10 ((bytes_inj _ _).1 e)
        have t10 : (m.r.2.2).toList.isEmpty = false := by
          rw [Bool.eq_false_iff]
          intro h
          exact s10 (by rw [List.isEmpty_iff.1 h, ByteArray.toList_eq])
        go_enter Tryz.func76, Tryz.ntmps76
        go_upto_region 1 with (refine boxMk rfl (.tmp 0) rfl m _ _ rfl ?_; intro q1 w1 hq1 M1 b1 z1; subst hq1)
        have HB := hide b1
        have x8 := M1.cell 8 _ rfl
        rw [g8] at x8
        have x9 := M1.cell 9 _ rfl
        rw [g9] at x9
        have x10 := M1.cell 10 _ rfl
        clear M1 b1 z1
        go_wp2
        go_ret
        exact ⟨by rw [V.out]; rfl, HB.out⟩
    · have V : Hid (blB m nl nv 7 = false) := FALSE7 m nl nv (by intro h; exact g9 (by rw [h] <;> rfl))
      have hq : (m.r.2.1 == 0) = false := by simp [g9]
      go_enter Tryz.func76, Tryz.ntmps76
      go_upto_region 1 with (refine boxMk rfl (.tmp 0) rfl m _ _ rfl ?_; intro q1 w1 hq1 M1 b1 z1; subst hq1)
      have HB := hide b1
      have x8 := M1.cell 8 _ rfl
      rw [g8] at x8
      have x9 := M1.cell 9 _ rfl
      have x10 := M1.cell 10 _ rfl
      clear M1 b1 z1
      go_wp2
      go_ret
      exact ⟨by rw [V.out]; rfl, HB.out⟩
  · have V : Hid (blB m nl nv 7 = false) := FALSE7 m nl nv (by intro h; exact g8 (by rw [h] <;> rfl))
    have hq : (m.r.1 == 0) = false := by simp [g8]
    go_enter Tryz.func76, Tryz.ntmps76
    go_upto_region 1 with (refine boxMk rfl (.tmp 0) rfl m _ _ rfl ?_; intro q1 w1 hq1 M1 b1 z1; subst hq1)
    have HB := hide b1
    have x8 := M1.cell 8 _ rfl
    have x9 := M1.cell 9 _ rfl
    have x10 := M1.cell 10 _ rfl
    clear M1 b1 z1
    go_wp2
    go_ret
    exact ⟨by rw [V.out]; rfl, HB.out⟩
theorem eqlEnb (x y : Operand) (e e' : En) (w : World) : (do eqGuard .eql 28 x y (.agg #[.int .i64 e.c, .int .i64 e.n, .int .i64 e.o.k, .int .i64 e.o.s, .string e.o.v]) (.agg #[.int .i64 e'.c, .int .i64 e'.n, .int .i64 e'.o.k, .int .i64 e'.o.s, .string e'.o.v]); binOp .eql 28 (.agg #[.int .i64 e.c, .int .i64 e.n, .int .i64 e.o.k, .int .i64 e.o.s, .string e.o.v]) (.agg #[.int .i64 e'.c, .int .i64 e'.n, .int .i64 e'.o.k, .int .i64 e'.o.s, .string e'.o.v]) : Sem Value).run Tryz.prog w = .ok (.bool (enb e e')) w := by
  have h : enb e e' = decide (e = e') := by rw [Bool.eq_iff_iff, enb_iff, decide_eq_true_eq]
  rw [h]
  exact eqlEn x y e e' w
def unG (m : Mg) (nl nv : Nat) (u0 u1 u2 u3 u4 u5 u6 u7 u8 u9 : Bool) : Bool := ((((((((((u0 || (decide (m.nd = 0))) && (u1 || (decide (m.vw = 0)))) && (u2 || (decide (m.ls = 0)))) && (u3 || (decide (m.p = 0)))) && (u4 || (decide (m.cm = 0)))) && (u5 || (decide (m.d = (0, 0))))) && (u6 || (enb m.e zEn))) && (u7 || (decide (m.r = (0, 0, ⟨#[]⟩))))) && (u8 || (decide (((nl : Nat) : Int) = 0)))) && (u9 || (decide (((nv : Nat) : Int) = 0))))
set_option maxRecDepth 100000 in
set_option maxHeartbeats 8000000 in
theorem unused_any (m : Mg) (a1 a2 : Option Addr) (nl cl nv cv g cu : Nat) (u0 u1 u2 u3 u4 u5 u6 u7 u8 u9 : Bool) (w : World) (hg : g < w.heap.size) (hu : ∀ (j : Nat) (b : Bool), ([u0, u1, u2, u3, u4, u5, u6, u7, u8, u9] : List Bool)[j]? = some b → w.cell? ⟨g, j, none⟩ = some (.bool b)) : Calls Tryz.prog 36 #[m.val (.slice a1 nl cl) (.slice a2 nv cv), .slice (some ⟨g, 0, none⟩) 10 cu] w fun e w' => e = .returned (.bool (unG m nl nv u0 u1 u2 u3 u4 u5 u6 u7 u8 u9)) ∧ Below w.heap.size w w' := by
  go_enter Tryz.func36, Tryz.ntmps36
  go_upto_region 1 with (refine boxMk rfl (.tmp 0) rfl m _ _ rfl ?_; intro q1 w1 hq1 M1 b1 z1; subst hq1)
  have HM : Hid (∀ v, Below w1.heap.size w1 v → MBox v w.heap.size m (.slice a1 nl cl) (.slice a2 nv cv)) := fun v hv => M1.bel hv
  have HU : Hid (∀ v, Below w1.heap.size w1 v → ∀ (j : Nat) (b : Bool), ([u0, u1, u2, u3, u4, u5, u6, u7, u8, u9] : List Bool)[j]? = some b → v.cell? ⟨g, j, none⟩ = some (.bool b)) := fun v hv j b hj => ((b1.trans (hv.mono b1.size)).cell (p := ⟨g, j, none⟩) hg).trans (hu j b hj)
  have HB : Hid (∀ v, Below w1.heap.size w1 v → Below w.heap.size w v) := fun v hv => b1.trans (hv.mono b1.size)
  clear M1 b1 z1 hu
  refine vq_start (C := fun v => Below w1.heap.size w1 v) (by kernel_rfl) (by kernel_rfl) (belN (Below.refl _ _) 1) ?_
  refine vq_gen (fun T => T.size = 118 ∧ T[1]? = some (gw true (.slice (some ⟨g, 0, none⟩) 10 cu)) ∧ T[2]? = some (gw true (.pointer (some ⟨w.heap.size, 0, none⟩)))) ⟨rfl, rfl, rfl⟩ (fun T0 ⟨hz, s1, s2⟩ => ?_)
  refine vq true (.pointer (some ⟨w.heap.size, 1, none⟩)) (want_none rfl) (fun hc v hv => ex_fa rfl (ev s2 rfl) (MBox.faNode _ _)) rfl hz (by decide) (fun T1 zz kk s10x => ?_)
  replace s1 := kt kk s1
  replace s2 := kt kk s2
  clear kk hz
  have hz := zz
  have s10 := s10x
  clear zz s10x
  refine vq true (.int .i64 m.nd) (want_none rfl) (fun hc v hv => ex_ld rfl (ev s10 rfl) ((HM.out v hv).ldNode)) rfl hz (by decide) (fun T2 zz kk s11x => ?_)
  replace s1 := kt kk s1
  replace s2 := kt kk s2
  clear kk hz s10
  have hz := zz
  have s11 := s11x
  clear zz s11x T1
  refine vq true (.bool (decide (m.nd = 0))) (want_none rfl) (fun hc v hv => ex_bin rfl (ev s11 rfl) rfl (eqlC _ _ _ _ _)) rfl hz (by decide) (fun T3 zz kk s12x => ?_)
  replace s1 := kt kk s1
  replace s2 := kt kk s2
  clear kk hz s11
  have hz := zz
  have s12 := s12x
  clear zz s12x T2
  refine vq true (.pointer (some ⟨w.heap.size, 2, none⟩)) (want_none rfl) (fun hc v hv => ex_fa rfl (ev s2 rfl) (MBox.faView _ _)) rfl hz (by decide) (fun T4 zz kk s13x => ?_)
  replace s1 := kt kk s1
  replace s2 := kt kk s2
  replace s12 := kt kk s12
  clear kk hz
  have hz := zz
  have s13 := s13x
  clear zz s13x T3
  refine vq true (.int .i64 m.vw) (want_none rfl) (fun hc v hv => ex_ld rfl (ev s13 rfl) ((HM.out v hv).ldView)) rfl hz (by decide) (fun T5 zz kk s14x => ?_)
  replace s1 := kt kk s1
  replace s2 := kt kk s2
  replace s12 := kt kk s12
  clear kk hz s13
  have hz := zz
  have s14 := s14x
  clear zz s14x T4
  refine vq true (.bool (decide (m.vw = 0))) (want_none rfl) (fun hc v hv => ex_bin rfl (ev s14 rfl) rfl (eqlC _ _ _ _ _)) rfl hz (by decide) (fun T6 zz kk s15x => ?_)
  replace s1 := kt kk s1
  replace s2 := kt kk s2
  replace s12 := kt kk s12
  clear kk hz s14
  have hz := zz
  have s15 := s15x
  clear zz s15x T5
  refine vq true (.pointer (some ⟨w.heap.size, 13, none⟩)) (want_none rfl) (fun hc v hv => ex_fa rfl (ev s2 rfl) (MBox.faLast _ _)) rfl hz (by decide) (fun T7 zz kk s16x => ?_)
  replace s1 := kt kk s1
  replace s2 := kt kk s2
  replace s12 := kt kk s12
  replace s15 := kt kk s15
  clear kk hz
  have hz := zz
  have s16 := s16x
  clear zz s16x T6
  refine vq true (.int .i64 m.ls) (want_none rfl) (fun hc v hv => ex_ld rfl (ev s16 rfl) ((HM.out v hv).ldLast)) rfl hz (by decide) (fun T8 zz kk s17x => ?_)
  replace s1 := kt kk s1
  replace s2 := kt kk s2
  replace s12 := kt kk s12
  replace s15 := kt kk s15
  clear kk hz s16
  have hz := zz
  have s17 := s17x
  clear zz s17x T7
  refine vq true (.bool (decide (m.ls = 0))) (want_none rfl) (fun hc v hv => ex_bin rfl (ev s17 rfl) rfl (eqlC _ _ _ _ _)) rfl hz (by decide) (fun T9 zz kk s18x => ?_)
  replace s1 := kt kk s1
  replace s2 := kt kk s2
  replace s12 := kt kk s12
  replace s15 := kt kk s15
  clear kk hz s17
  have hz := zz
  have s18 := s18x
  clear zz s18x T8
  refine vq true (.pointer (some ⟨w.heap.size, 11, none⟩)) (want_none rfl) (fun hc v hv => ex_fa rfl (ev s2 rfl) (MBox.faPlace _ _)) rfl hz (by decide) (fun T10 zz kk s19x => ?_)
  replace s1 := kt kk s1
  replace s2 := kt kk s2
  replace s12 := kt kk s12
  replace s15 := kt kk s15
  replace s18 := kt kk s18
  clear kk hz
  have hz := zz
  have s19 := s19x
  clear zz s19x T9
  refine vq true (.int .i64 m.p) (want_none rfl) (fun hc v hv => ex_ld rfl (ev s19 rfl) ((HM.out v hv).ldPlace)) rfl hz (by decide) (fun T11 zz kk s20x => ?_)
  replace s1 := kt kk s1
  replace s2 := kt kk s2
  replace s12 := kt kk s12
  replace s15 := kt kk s15
  replace s18 := kt kk s18
  clear kk hz s19
  have hz := zz
  have s20 := s20x
  clear zz s20x T10
  refine vq true (.bool (decide (m.p = 0))) (want_none rfl) (fun hc v hv => ex_bin rfl (ev s20 rfl) rfl (eqlC _ _ _ _ _)) rfl hz (by decide) (fun T12 zz kk s21x => ?_)
  replace s1 := kt kk s1
  replace s2 := kt kk s2
  replace s12 := kt kk s12
  replace s15 := kt kk s15
  replace s18 := kt kk s18
  clear kk hz s20
  have hz := zz
  have s21 := s21x
  clear zz s21x T11
  refine vq true (.pointer (some ⟨w.heap.size, 12, none⟩)) (want_none rfl) (fun hc v hv => ex_fa rfl (ev s2 rfl) (MBox.faCommit _ _)) rfl hz (by decide) (fun T13 zz kk s22x => ?_)
  replace s1 := kt kk s1
  replace s2 := kt kk s2
  replace s12 := kt kk s12
  replace s15 := kt kk s15
  replace s18 := kt kk s18
  replace s21 := kt kk s21
  clear kk hz
  have hz := zz
  have s22 := s22x
  clear zz s22x T12
  refine vq true (.int .i64 m.cm) (want_none rfl) (fun hc v hv => ex_ld rfl (ev s22 rfl) ((HM.out v hv).ldCommit)) rfl hz (by decide) (fun T14 zz kk s23x => ?_)
  replace s1 := kt kk s1
  replace s2 := kt kk s2
  replace s12 := kt kk s12
  replace s15 := kt kk s15
  replace s18 := kt kk s18
  replace s21 := kt kk s21
  clear kk hz s22
  have hz := zz
  have s23 := s23x
  clear zz s23x T13
  refine vq true (.bool (decide (m.cm = 0))) (want_none rfl) (fun hc v hv => ex_bin rfl (ev s23 rfl) rfl (eqlC _ _ _ _ _)) rfl hz (by decide) (fun T15 zz kk s24x => ?_)
  replace s1 := kt kk s1
  replace s2 := kt kk s2
  replace s12 := kt kk s12
  replace s15 := kt kk s15
  replace s18 := kt kk s18
  replace s21 := kt kk s21
  clear kk hz s23
  have hz := zz
  have s24 := s24x
  clear zz s24x T14
  refine vq true _ (want_none rfl) (fun hc v hv => ex_assign rfl (ev s12 rfl)) rfl hz (by decide) (fun T16 zz kk s5x => ?_)
  replace s1 := kt kk s1
  replace s2 := kt kk s2
  replace s15 := kt kk s15
  replace s18 := kt kk s18
  replace s21 := kt kk s21
  replace s24 := kt kk s24
  clear kk hz s12
  have hz := zz
  have s5 := s5x
  clear zz s5x T15
  refine vq true _ (want_none rfl) (fun hc v hv => ex_assign rfl (ev s15 rfl)) rfl hz (by decide) (fun T17 zz kk s6x => ?_)
  replace s1 := kt kk s1
  replace s2 := kt kk s2
  replace s5 := kt kk s5
  replace s18 := kt kk s18
  replace s21 := kt kk s21
  replace s24 := kt kk s24
  clear kk hz s15
  have hz := zz
  have s6 := s6x
  clear zz s6x T16
  refine vq true _ (want_none rfl) (fun hc v hv => ex_assign rfl (ev s18 rfl)) rfl hz (by decide) (fun T18 zz kk s7x => ?_)
  replace s1 := kt kk s1
  replace s2 := kt kk s2
  replace s5 := kt kk s5
  replace s6 := kt kk s6
  replace s21 := kt kk s21
  replace s24 := kt kk s24
  clear kk hz s18
  have hz := zz
  have s7 := s7x
  clear zz s7x T17
  refine vq true _ (want_none rfl) (fun hc v hv => ex_assign rfl (ev s21 rfl)) rfl hz (by decide) (fun T19 zz kk s8x => ?_)
  replace s1 := kt kk s1
  replace s2 := kt kk s2
  replace s5 := kt kk s5
  replace s6 := kt kk s6
  replace s7 := kt kk s7
  replace s24 := kt kk s24
  clear kk hz s21
  have hz := zz
  have s8 := s8x
  clear zz s8x T18
  refine vq true _ (want_none rfl) (fun hc v hv => ex_assign rfl (ev s24 rfl)) rfl hz (by decide) (fun T20 zz kk s9x => ?_)
  replace s1 := kt kk s1
  replace s2 := kt kk s2
  replace s5 := kt kk s5
  replace s6 := kt kk s6
  replace s7 := kt kk s7
  replace s8 := kt kk s8
  clear kk hz s24
  have hz := zz
  have s9 := s9x
  clear zz s9x T19
  refine vq_nil (fun v hv => ?_)
  go_upto_region 2 with fail
  refine wp_region_lit ?_
  refine vt _ (ex_move rfl (ev s1 rfl)) hz (fun R1 zz kk s25x => ?_)
  replace s1 := kt kk s1
  replace s2 := kt kk s2
  replace s5 := kt kk s5
  replace s6 := kt kk s6
  replace s7 := kt kk s7
  replace s8 := kt kk s8
  replace s9 := kt kk s9
  clear kk hz
  have hz := zz
  have s25 := s25x
  clear zz s25x
  refine vt (.pointer (some ⟨g, 0, none⟩)) (ex_ix rfl (ev s25 rfl) rfl (ixBool g 0 10 cu (by decide) _)) hz (fun R2 zz kk s26x => ?_)
  replace s1 := kt kk s1
  replace s2 := kt kk s2
  replace s5 := kt kk s5
  replace s6 := kt kk s6
  replace s7 := kt kk s7
  replace s8 := kt kk s8
  replace s9 := kt kk s9
  clear kk hz s25
  have hz := zz
  have s26 := s26x
  clear zz s26x R1
  refine vt (.bool u0) (ex_ld rfl (ev s26 rfl) (ldBool (HU.out v hv 0 _ rfl))) hz (fun R3 zz kk s27x => ?_)
  replace s1 := kt kk s1
  replace s2 := kt kk s2
  replace s5 := kt kk s5
  replace s6 := kt kk s6
  replace s7 := kt kk s7
  replace s8 := kt kk s8
  replace s9 := kt kk s9
  clear kk hz s26
  have hz := zz
  have s27 := s27x
  clear zz s27x R2
  refine vt _ (ex_move rfl (ev s27 rfl)) hz (fun R4 zz kk s28x => ?_)
  replace s1 := kt kk s1
  replace s2 := kt kk s2
  replace s5 := kt kk s5
  replace s6 := kt kk s6
  replace s7 := kt kk s7
  replace s8 := kt kk s8
  replace s9 := kt kk s9
  clear kk hz s27
  have hz := zz
  have s28 := s28x
  clear zz s28x R3
  refine vl _ _ (want_g rfl rfl s28) (fun hc => ex_move rfl (ev s5 rfl)) rfl hz (by decide) (fun R5 zz kk s29x => ?_)
  replace s1 := kt kk s1
  replace s2 := kt kk s2
  replace s6 := kt kk s6
  replace s7 := kt kk s7
  replace s8 := kt kk s8
  replace s9 := kt kk s9
  replace s28 := kt kk s28
  clear kk hz s5
  have hz := zz
  have s29 := s29x
  clear zz s29x R4
  refine vt (.bool (u0 || (decide (m.nd = 0)))) (ex_or rfl s28 s29 rfl) hz (fun R6 zz kk s30x => ?_)
  replace s1 := kt kk s1
  replace s2 := kt kk s2
  replace s6 := kt kk s6
  replace s7 := kt kk s7
  replace s8 := kt kk s8
  replace s9 := kt kk s9
  clear kk hz s28 s29
  have hz := zz
  have s30 := s30x
  clear zz s30x R5
  refine vt _ (ex_move rfl (ev s30 rfl)) hz (fun R7 zz kk s31x => ?_)
  replace s1 := kt kk s1
  replace s2 := kt kk s2
  replace s6 := kt kk s6
  replace s7 := kt kk s7
  replace s8 := kt kk s8
  replace s9 := kt kk s9
  clear kk hz s30
  have hz := zz
  have s31 := s31x
  clear zz s31x R6
  refine vl _ _ (want_g rfl rfl s31) (fun hc => ex_move rfl (ev s1 rfl)) rfl hz (by decide) (fun R8 zz kk s32x => ?_)
  replace s1 := kt kk s1
  replace s2 := kt kk s2
  replace s6 := kt kk s6
  replace s7 := kt kk s7
  replace s8 := kt kk s8
  replace s9 := kt kk s9
  replace s31 := kt kk s31
  clear kk hz
  have hz := zz
  have s32 := s32x
  clear zz s32x R7
  refine vl _ (.pointer (some ⟨g, 1, none⟩)) (want_g rfl rfl s31) (fun hc => ex_ix rfl (ev s32 hc) rfl (ixBool g 1 10 cu (by decide) _)) rfl hz (by decide) (fun R9 zz kk s33x => ?_)
  replace s1 := kt kk s1
  replace s2 := kt kk s2
  replace s6 := kt kk s6
  replace s7 := kt kk s7
  replace s8 := kt kk s8
  replace s9 := kt kk s9
  replace s31 := kt kk s31
  clear kk hz s32
  have hz := zz
  have s33 := s33x
  clear zz s33x R8
  refine vl _ (.bool u1) (want_g rfl rfl s31) (fun hc => ex_ld rfl (ev s33 hc) (ldBool (HU.out v hv 1 _ rfl))) rfl hz (by decide) (fun R10 zz kk s34x => ?_)
  replace s1 := kt kk s1
  replace s2 := kt kk s2
  replace s6 := kt kk s6
  replace s7 := kt kk s7
  replace s8 := kt kk s8
  replace s9 := kt kk s9
  replace s31 := kt kk s31
  clear kk hz s33
  have hz := zz
  have s34 := s34x
  clear zz s34x R9
  refine vl _ _ (want_g rfl rfl s31) (fun hc => ex_move rfl (ev s34 hc)) rfl hz (by decide) (fun R11 zz kk s35x => ?_)
  replace s1 := kt kk s1
  replace s2 := kt kk s2
  replace s6 := kt kk s6
  replace s7 := kt kk s7
  replace s8 := kt kk s8
  replace s9 := kt kk s9
  replace s31 := kt kk s31
  clear kk hz s34
  have hz := zz
  have s35 := s35x
  clear zz s35x R10
  refine vl ((true && ((u0 || (decide (m.nd = 0))) == true)) && (u1 == false)) (.bool (decide (m.vw = 0))) (want_g rfl rfl s35) (fun hc => ex_move rfl (ev s6 rfl)) rfl hz (by decide) (fun R12 zz kk s36x => ?_)
  replace s1 := kt kk s1
  replace s2 := kt kk s2
  replace s7 := kt kk s7
  replace s8 := kt kk s8
  replace s9 := kt kk s9
  replace s31 := kt kk s31
  replace s35 := kt kk s35
  clear kk hz s6
  have hz := zz
  have s36 := s36x
  clear zz s36x R11
  refine vl _ (.bool (u1 || (decide (m.vw = 0)))) (want_g rfl rfl s31) (fun hc => ex_or rfl s35 s36 hc) rfl hz (by decide) (fun R13 zz kk s37x => ?_)
  replace s1 := kt kk s1
  replace s2 := kt kk s2
  replace s7 := kt kk s7
  replace s8 := kt kk s8
  replace s9 := kt kk s9
  replace s31 := kt kk s31
  clear kk hz s35 s36
  have hz := zz
  have s37 := s37x
  clear zz s37x R12
  refine vt (.bool ((u0 || (decide (m.nd = 0))) && (u1 || (decide (m.vw = 0))))) (ex_and rfl s31 s37 rfl) hz (fun R14 zz kk s38x => ?_)
  replace s1 := kt kk s1
  replace s2 := kt kk s2
  replace s7 := kt kk s7
  replace s8 := kt kk s8
  replace s9 := kt kk s9
  clear kk hz s31 s37
  have hz := zz
  have s38 := s38x
  clear zz s38x R13
  refine vt _ (ex_move rfl (ev s38 rfl)) hz (fun R15 zz kk s39x => ?_)
  replace s1 := kt kk s1
  replace s2 := kt kk s2
  replace s7 := kt kk s7
  replace s8 := kt kk s8
  replace s9 := kt kk s9
  clear kk hz s38
  have hz := zz
  have s39 := s39x
  clear zz s39x R14
  refine vl _ _ (want_g rfl rfl s39) (fun hc => ex_move rfl (ev s1 rfl)) rfl hz (by decide) (fun R16 zz kk s40x => ?_)
  replace s1 := kt kk s1
  replace s2 := kt kk s2
  replace s7 := kt kk s7
  replace s8 := kt kk s8
  replace s9 := kt kk s9
  replace s39 := kt kk s39
  clear kk hz
  have hz := zz
  have s40 := s40x
  clear zz s40x R15
  refine vl _ (.pointer (some ⟨g, 2, none⟩)) (want_g rfl rfl s39) (fun hc => ex_ix rfl (ev s40 hc) rfl (ixBool g 2 10 cu (by decide) _)) rfl hz (by decide) (fun R17 zz kk s41x => ?_)
  replace s1 := kt kk s1
  replace s2 := kt kk s2
  replace s7 := kt kk s7
  replace s8 := kt kk s8
  replace s9 := kt kk s9
  replace s39 := kt kk s39
  clear kk hz s40
  have hz := zz
  have s41 := s41x
  clear zz s41x R16
  refine vl _ (.bool u2) (want_g rfl rfl s39) (fun hc => ex_ld rfl (ev s41 hc) (ldBool (HU.out v hv 2 _ rfl))) rfl hz (by decide) (fun R18 zz kk s42x => ?_)
  replace s1 := kt kk s1
  replace s2 := kt kk s2
  replace s7 := kt kk s7
  replace s8 := kt kk s8
  replace s9 := kt kk s9
  replace s39 := kt kk s39
  clear kk hz s41
  have hz := zz
  have s42 := s42x
  clear zz s42x R17
  refine vl _ _ (want_g rfl rfl s39) (fun hc => ex_move rfl (ev s42 hc)) rfl hz (by decide) (fun R19 zz kk s43x => ?_)
  replace s1 := kt kk s1
  replace s2 := kt kk s2
  replace s7 := kt kk s7
  replace s8 := kt kk s8
  replace s9 := kt kk s9
  replace s39 := kt kk s39
  clear kk hz s42
  have hz := zz
  have s43 := s43x
  clear zz s43x R18
  refine vl ((true && (((u0 || (decide (m.nd = 0))) && (u1 || (decide (m.vw = 0)))) == true)) && (u2 == false)) (.bool (decide (m.ls = 0))) (want_g rfl rfl s43) (fun hc => ex_move rfl (ev s7 rfl)) rfl hz (by decide) (fun R20 zz kk s44x => ?_)
  replace s1 := kt kk s1
  replace s2 := kt kk s2
  replace s8 := kt kk s8
  replace s9 := kt kk s9
  replace s39 := kt kk s39
  replace s43 := kt kk s43
  clear kk hz s7
  have hz := zz
  have s44 := s44x
  clear zz s44x R19
  refine vl _ (.bool (u2 || (decide (m.ls = 0)))) (want_g rfl rfl s39) (fun hc => ex_or rfl s43 s44 hc) rfl hz (by decide) (fun R21 zz kk s45x => ?_)
  replace s1 := kt kk s1
  replace s2 := kt kk s2
  replace s8 := kt kk s8
  replace s9 := kt kk s9
  replace s39 := kt kk s39
  clear kk hz s43 s44
  have hz := zz
  have s45 := s45x
  clear zz s45x R20
  refine vt (.bool (((u0 || (decide (m.nd = 0))) && (u1 || (decide (m.vw = 0)))) && (u2 || (decide (m.ls = 0))))) (ex_and rfl s39 s45 rfl) hz (fun R22 zz kk s46x => ?_)
  replace s1 := kt kk s1
  replace s2 := kt kk s2
  replace s8 := kt kk s8
  replace s9 := kt kk s9
  clear kk hz s39 s45
  have hz := zz
  have s46 := s46x
  clear zz s46x R21
  refine vt _ (ex_move rfl (ev s46 rfl)) hz (fun R23 zz kk s47x => ?_)
  replace s1 := kt kk s1
  replace s2 := kt kk s2
  replace s8 := kt kk s8
  replace s9 := kt kk s9
  clear kk hz s46
  have hz := zz
  have s47 := s47x
  clear zz s47x R22
  refine vl _ _ (want_g rfl rfl s47) (fun hc => ex_move rfl (ev s1 rfl)) rfl hz (by decide) (fun R24 zz kk s48x => ?_)
  replace s1 := kt kk s1
  replace s2 := kt kk s2
  replace s8 := kt kk s8
  replace s9 := kt kk s9
  replace s47 := kt kk s47
  clear kk hz
  have hz := zz
  have s48 := s48x
  clear zz s48x R23
  refine vl _ (.pointer (some ⟨g, 3, none⟩)) (want_g rfl rfl s47) (fun hc => ex_ix rfl (ev s48 hc) rfl (ixBool g 3 10 cu (by decide) _)) rfl hz (by decide) (fun R25 zz kk s49x => ?_)
  replace s1 := kt kk s1
  replace s2 := kt kk s2
  replace s8 := kt kk s8
  replace s9 := kt kk s9
  replace s47 := kt kk s47
  clear kk hz s48
  have hz := zz
  have s49 := s49x
  clear zz s49x R24
  refine vl _ (.bool u3) (want_g rfl rfl s47) (fun hc => ex_ld rfl (ev s49 hc) (ldBool (HU.out v hv 3 _ rfl))) rfl hz (by decide) (fun R26 zz kk s50x => ?_)
  replace s1 := kt kk s1
  replace s2 := kt kk s2
  replace s8 := kt kk s8
  replace s9 := kt kk s9
  replace s47 := kt kk s47
  clear kk hz s49
  have hz := zz
  have s50 := s50x
  clear zz s50x R25
  refine vl _ _ (want_g rfl rfl s47) (fun hc => ex_move rfl (ev s50 hc)) rfl hz (by decide) (fun R27 zz kk s51x => ?_)
  replace s1 := kt kk s1
  replace s2 := kt kk s2
  replace s8 := kt kk s8
  replace s9 := kt kk s9
  replace s47 := kt kk s47
  clear kk hz s50
  have hz := zz
  have s51 := s51x
  clear zz s51x R26
  refine vl ((true && ((((u0 || (decide (m.nd = 0))) && (u1 || (decide (m.vw = 0)))) && (u2 || (decide (m.ls = 0)))) == true)) && (u3 == false)) (.bool (decide (m.p = 0))) (want_g rfl rfl s51) (fun hc => ex_move rfl (ev s8 rfl)) rfl hz (by decide) (fun R28 zz kk s52x => ?_)
  replace s1 := kt kk s1
  replace s2 := kt kk s2
  replace s9 := kt kk s9
  replace s47 := kt kk s47
  replace s51 := kt kk s51
  clear kk hz s8
  have hz := zz
  have s52 := s52x
  clear zz s52x R27
  refine vl _ (.bool (u3 || (decide (m.p = 0)))) (want_g rfl rfl s47) (fun hc => ex_or rfl s51 s52 hc) rfl hz (by decide) (fun R29 zz kk s53x => ?_)
  replace s1 := kt kk s1
  replace s2 := kt kk s2
  replace s9 := kt kk s9
  replace s47 := kt kk s47
  clear kk hz s51 s52
  have hz := zz
  have s53 := s53x
  clear zz s53x R28
  refine vt (.bool ((((u0 || (decide (m.nd = 0))) && (u1 || (decide (m.vw = 0)))) && (u2 || (decide (m.ls = 0)))) && (u3 || (decide (m.p = 0))))) (ex_and rfl s47 s53 rfl) hz (fun R30 zz kk s54x => ?_)
  replace s1 := kt kk s1
  replace s2 := kt kk s2
  replace s9 := kt kk s9
  clear kk hz s47 s53
  have hz := zz
  have s54 := s54x
  clear zz s54x R29
  refine vt _ (ex_move rfl (ev s54 rfl)) hz (fun R31 zz kk s55x => ?_)
  replace s1 := kt kk s1
  replace s2 := kt kk s2
  replace s9 := kt kk s9
  clear kk hz s54
  have hz := zz
  have s55 := s55x
  clear zz s55x R30
  refine vl _ _ (want_g rfl rfl s55) (fun hc => ex_move rfl (ev s1 rfl)) rfl hz (by decide) (fun R32 zz kk s56x => ?_)
  replace s1 := kt kk s1
  replace s2 := kt kk s2
  replace s9 := kt kk s9
  replace s55 := kt kk s55
  clear kk hz
  have hz := zz
  have s56 := s56x
  clear zz s56x R31
  refine vl _ (.pointer (some ⟨g, 4, none⟩)) (want_g rfl rfl s55) (fun hc => ex_ix rfl (ev s56 hc) rfl (ixBool g 4 10 cu (by decide) _)) rfl hz (by decide) (fun R33 zz kk s57x => ?_)
  replace s1 := kt kk s1
  replace s2 := kt kk s2
  replace s9 := kt kk s9
  replace s55 := kt kk s55
  clear kk hz s56
  have hz := zz
  have s57 := s57x
  clear zz s57x R32
  refine vl _ (.bool u4) (want_g rfl rfl s55) (fun hc => ex_ld rfl (ev s57 hc) (ldBool (HU.out v hv 4 _ rfl))) rfl hz (by decide) (fun R34 zz kk s58x => ?_)
  replace s1 := kt kk s1
  replace s2 := kt kk s2
  replace s9 := kt kk s9
  replace s55 := kt kk s55
  clear kk hz s57
  have hz := zz
  have s58 := s58x
  clear zz s58x R33
  refine vl _ _ (want_g rfl rfl s55) (fun hc => ex_move rfl (ev s58 hc)) rfl hz (by decide) (fun R35 zz kk s59x => ?_)
  replace s1 := kt kk s1
  replace s2 := kt kk s2
  replace s9 := kt kk s9
  replace s55 := kt kk s55
  clear kk hz s58
  have hz := zz
  have s59 := s59x
  clear zz s59x R34
  refine vl ((true && (((((u0 || (decide (m.nd = 0))) && (u1 || (decide (m.vw = 0)))) && (u2 || (decide (m.ls = 0)))) && (u3 || (decide (m.p = 0)))) == true)) && (u4 == false)) (.bool (decide (m.cm = 0))) (want_g rfl rfl s59) (fun hc => ex_move rfl (ev s9 rfl)) rfl hz (by decide) (fun R36 zz kk s60x => ?_)
  replace s1 := kt kk s1
  replace s2 := kt kk s2
  replace s55 := kt kk s55
  replace s59 := kt kk s59
  clear kk hz s9
  have hz := zz
  have s60 := s60x
  clear zz s60x R35
  refine vl _ (.bool (u4 || (decide (m.cm = 0)))) (want_g rfl rfl s55) (fun hc => ex_or rfl s59 s60 hc) rfl hz (by decide) (fun R37 zz kk s61x => ?_)
  replace s1 := kt kk s1
  replace s2 := kt kk s2
  replace s55 := kt kk s55
  clear kk hz s59 s60
  have hz := zz
  have s61 := s61x
  clear zz s61x R36
  refine vt (.bool (((((u0 || (decide (m.nd = 0))) && (u1 || (decide (m.vw = 0)))) && (u2 || (decide (m.ls = 0)))) && (u3 || (decide (m.p = 0)))) && (u4 || (decide (m.cm = 0))))) (ex_and rfl s55 s61 rfl) hz (fun R38 zz kk s62x => ?_)
  replace s1 := kt kk s1
  replace s2 := kt kk s2
  clear kk hz s55 s61
  have hz := zz
  have s62 := s62x
  clear zz s62x R37
  refine vt _ (ex_move rfl (ev s62 rfl)) hz (fun R39 zz kk s63x => ?_)
  replace s1 := kt kk s1
  replace s2 := kt kk s2
  clear kk hz s62
  have hz := zz
  have s63 := s63x
  clear zz s63x R38
  refine vl _ _ (want_g rfl rfl s63) (fun hc => ex_move rfl (ev s1 rfl)) rfl hz (by decide) (fun R40 zz kk s64x => ?_)
  replace s1 := kt kk s1
  replace s2 := kt kk s2
  replace s63 := kt kk s63
  clear kk hz
  have hz := zz
  have s64 := s64x
  clear zz s64x R39
  refine vl _ (.pointer (some ⟨g, 5, none⟩)) (want_g rfl rfl s63) (fun hc => ex_ix rfl (ev s64 hc) rfl (ixBool g 5 10 cu (by decide) _)) rfl hz (by decide) (fun R41 zz kk s65x => ?_)
  replace s1 := kt kk s1
  replace s2 := kt kk s2
  replace s63 := kt kk s63
  clear kk hz s64
  have hz := zz
  have s65 := s65x
  clear zz s65x R40
  refine vl _ (.bool u5) (want_g rfl rfl s63) (fun hc => ex_ld rfl (ev s65 hc) (ldBool (HU.out v hv 5 _ rfl))) rfl hz (by decide) (fun R42 zz kk s66x => ?_)
  replace s1 := kt kk s1
  replace s2 := kt kk s2
  replace s63 := kt kk s63
  clear kk hz s65
  have hz := zz
  have s66 := s66x
  clear zz s66x R41
  refine vl _ _ (want_g rfl rfl s63) (fun hc => ex_move rfl (ev s66 hc)) rfl hz (by decide) (fun R43 zz kk s67x => ?_)
  replace s1 := kt kk s1
  replace s2 := kt kk s2
  replace s63 := kt kk s63
  clear kk hz s66
  have hz := zz
  have s67 := s67x
  clear zz s67x R42
  refine vl ((true && ((((((u0 || (decide (m.nd = 0))) && (u1 || (decide (m.vw = 0)))) && (u2 || (decide (m.ls = 0)))) && (u3 || (decide (m.p = 0)))) && (u4 || (decide (m.cm = 0)))) == true)) && (u5 == false)) (.pointer (some ⟨w.heap.size, 14, none⟩)) (want_g rfl rfl s67) (fun hc => ex_fa rfl (ev s2 rfl) (MBox.faDraw _ _)) rfl hz (by decide) (fun R44 zz kk s68x => ?_)
  replace s1 := kt kk s1
  replace s2 := kt kk s2
  replace s63 := kt kk s63
  replace s67 := kt kk s67
  clear kk hz
  have hz := zz
  have s68 := s68x
  clear zz s68x R43
  refine vl ((true && ((((((u0 || (decide (m.nd = 0))) && (u1 || (decide (m.vw = 0)))) && (u2 || (decide (m.ls = 0)))) && (u3 || (decide (m.p = 0)))) && (u4 || (decide (m.cm = 0)))) == true)) && (u5 == false)) (.agg #[.int .u64 m.d.1, .int .u64 m.d.2]) (want_g rfl rfl s67) (fun hc => ex_ld rfl (ev s68 hc) ((HM.out v hv).ldDraw)) rfl hz (by decide) (fun R45 zz kk s69x => ?_)
  replace s1 := kt kk s1
  replace s2 := kt kk s2
  replace s63 := kt kk s63
  replace s67 := kt kk s67
  clear kk hz s68
  have hz := zz
  have s69 := s69x
  clear zz s69x R44
  refine vl ((true && ((((((u0 || (decide (m.nd = 0))) && (u1 || (decide (m.vw = 0)))) && (u2 || (decide (m.ls = 0)))) && (u3 || (decide (m.p = 0)))) && (u4 || (decide (m.cm = 0)))) == true)) && (u5 == false)) (.agg #[.int .u64 0, .int .u64 0]) (want_g rfl rfl s67) (fun hc => ex_build rfl (buildDr _)) rfl hz (by decide) (fun R46 zz kk s70x => ?_)
  replace s1 := kt kk s1
  replace s2 := kt kk s2
  replace s63 := kt kk s63
  replace s67 := kt kk s67
  replace s69 := kt kk s69
  clear kk hz
  have hz := zz
  have s70 := s70x
  clear zz s70x R45
  refine vl ((true && ((((((u0 || (decide (m.nd = 0))) && (u1 || (decide (m.vw = 0)))) && (u2 || (decide (m.ls = 0)))) && (u3 || (decide (m.p = 0)))) && (u4 || (decide (m.cm = 0)))) == true)) && (u5 == false)) (.bool (decide (m.d = (0, 0)))) (want_g rfl rfl s67) (fun hc => ex_bin rfl (ev s69 hc) (ev s70 hc) (eqlDr _ _ m.d (0, 0) _)) rfl hz (by decide) (fun R47 zz kk s71x => ?_)
  replace s1 := kt kk s1
  replace s2 := kt kk s2
  replace s63 := kt kk s63
  replace s67 := kt kk s67
  clear kk hz s69 s70
  have hz := zz
  have s71 := s71x
  clear zz s71x R46
  refine vl _ (.bool (u5 || (decide (m.d = (0, 0))))) (want_g rfl rfl s63) (fun hc => ex_or rfl s67 s71 hc) rfl hz (by decide) (fun R48 zz kk s72x => ?_)
  replace s1 := kt kk s1
  replace s2 := kt kk s2
  replace s63 := kt kk s63
  clear kk hz s67 s71
  have hz := zz
  have s72 := s72x
  clear zz s72x R47
  refine vt (.bool ((((((u0 || (decide (m.nd = 0))) && (u1 || (decide (m.vw = 0)))) && (u2 || (decide (m.ls = 0)))) && (u3 || (decide (m.p = 0)))) && (u4 || (decide (m.cm = 0)))) && (u5 || (decide (m.d = (0, 0)))))) (ex_and rfl s63 s72 rfl) hz (fun R49 zz kk s73x => ?_)
  replace s1 := kt kk s1
  replace s2 := kt kk s2
  clear kk hz s63 s72
  have hz := zz
  have s73 := s73x
  clear zz s73x R48
  refine vt _ (ex_move rfl (ev s73 rfl)) hz (fun R50 zz kk s74x => ?_)
  replace s1 := kt kk s1
  replace s2 := kt kk s2
  clear kk hz s73
  have hz := zz
  have s74 := s74x
  clear zz s74x R49
  refine vl _ _ (want_g rfl rfl s74) (fun hc => ex_move rfl (ev s1 rfl)) rfl hz (by decide) (fun R51 zz kk s75x => ?_)
  replace s1 := kt kk s1
  replace s2 := kt kk s2
  replace s74 := kt kk s74
  clear kk hz
  have hz := zz
  have s75 := s75x
  clear zz s75x R50
  refine vl _ (.pointer (some ⟨g, 6, none⟩)) (want_g rfl rfl s74) (fun hc => ex_ix rfl (ev s75 hc) rfl (ixBool g 6 10 cu (by decide) _)) rfl hz (by decide) (fun R52 zz kk s76x => ?_)
  replace s1 := kt kk s1
  replace s2 := kt kk s2
  replace s74 := kt kk s74
  clear kk hz s75
  have hz := zz
  have s76 := s76x
  clear zz s76x R51
  refine vl _ (.bool u6) (want_g rfl rfl s74) (fun hc => ex_ld rfl (ev s76 hc) (ldBool (HU.out v hv 6 _ rfl))) rfl hz (by decide) (fun R53 zz kk s77x => ?_)
  replace s1 := kt kk s1
  replace s2 := kt kk s2
  replace s74 := kt kk s74
  clear kk hz s76
  have hz := zz
  have s77 := s77x
  clear zz s77x R52
  refine vl _ _ (want_g rfl rfl s74) (fun hc => ex_move rfl (ev s77 hc)) rfl hz (by decide) (fun R54 zz kk s78x => ?_)
  replace s1 := kt kk s1
  replace s2 := kt kk s2
  replace s74 := kt kk s74
  clear kk hz s77
  have hz := zz
  have s78 := s78x
  clear zz s78x R53
  refine vl ((true && (((((((u0 || (decide (m.nd = 0))) && (u1 || (decide (m.vw = 0)))) && (u2 || (decide (m.ls = 0)))) && (u3 || (decide (m.p = 0)))) && (u4 || (decide (m.cm = 0)))) && (u5 || (decide (m.d = (0, 0))))) == true)) && (u6 == false)) (.pointer (some ⟨w.heap.size, 3, none⟩)) (want_g rfl rfl s78) (fun hc => ex_fa rfl (ev s2 rfl) (MBox.faEntry _ _)) rfl hz (by decide) (fun R55 zz kk s79x => ?_)
  replace s1 := kt kk s1
  replace s2 := kt kk s2
  replace s74 := kt kk s74
  replace s78 := kt kk s78
  clear kk hz
  have hz := zz
  have s79 := s79x
  clear zz s79x R54
  refine vl ((true && (((((((u0 || (decide (m.nd = 0))) && (u1 || (decide (m.vw = 0)))) && (u2 || (decide (m.ls = 0)))) && (u3 || (decide (m.p = 0)))) && (u4 || (decide (m.cm = 0)))) && (u5 || (decide (m.d = (0, 0))))) == true)) && (u6 == false)) (.agg #[.int .i64 m.e.c, .int .i64 m.e.n, .int .i64 m.e.o.k, .int .i64 m.e.o.s, .string m.e.o.v]) (want_g rfl rfl s78) (fun hc => ex_ld rfl (ev s79 hc) ((HM.out v hv).ldEntry)) rfl hz (by decide) (fun R56 zz kk s80x => ?_)
  replace s1 := kt kk s1
  replace s2 := kt kk s2
  replace s74 := kt kk s74
  replace s78 := kt kk s78
  clear kk hz s79
  have hz := zz
  have s80 := s80x
  clear zz s80x R55
  refine vl ((true && (((((((u0 || (decide (m.nd = 0))) && (u1 || (decide (m.vw = 0)))) && (u2 || (decide (m.ls = 0)))) && (u3 || (decide (m.p = 0)))) && (u4 || (decide (m.cm = 0)))) && (u5 || (decide (m.d = (0, 0))))) == true)) && (u6 == false)) (.agg #[.int .i64 0, .int .i64 0, .int .i64 0, .int .i64 0, .string ⟨#[]⟩]) (want_g rfl rfl s78) (fun hc => ex_build rfl (buildEn _)) rfl hz (by decide) (fun R57 zz kk s81x => ?_)
  replace s1 := kt kk s1
  replace s2 := kt kk s2
  replace s74 := kt kk s74
  replace s78 := kt kk s78
  replace s80 := kt kk s80
  clear kk hz
  have hz := zz
  have s81 := s81x
  clear zz s81x R56
  refine vl ((true && (((((((u0 || (decide (m.nd = 0))) && (u1 || (decide (m.vw = 0)))) && (u2 || (decide (m.ls = 0)))) && (u3 || (decide (m.p = 0)))) && (u4 || (decide (m.cm = 0)))) && (u5 || (decide (m.d = (0, 0))))) == true)) && (u6 == false)) (.bool (enb m.e zEn)) (want_g rfl rfl s78) (fun hc => ex_bin rfl (ev s80 hc) (ev s81 hc) (eqlEnb _ _ m.e zEn _)) rfl hz (by decide) (fun R58 zz kk s82x => ?_)
  replace s1 := kt kk s1
  replace s2 := kt kk s2
  replace s74 := kt kk s74
  replace s78 := kt kk s78
  clear kk hz s80 s81
  have hz := zz
  have s82 := s82x
  clear zz s82x R57
  refine vl _ (.bool (u6 || (enb m.e zEn))) (want_g rfl rfl s74) (fun hc => ex_or rfl s78 s82 hc) rfl hz (by decide) (fun R59 zz kk s83x => ?_)
  replace s1 := kt kk s1
  replace s2 := kt kk s2
  replace s74 := kt kk s74
  clear kk hz s78 s82
  have hz := zz
  have s83 := s83x
  clear zz s83x R58
  refine vt (.bool (((((((u0 || (decide (m.nd = 0))) && (u1 || (decide (m.vw = 0)))) && (u2 || (decide (m.ls = 0)))) && (u3 || (decide (m.p = 0)))) && (u4 || (decide (m.cm = 0)))) && (u5 || (decide (m.d = (0, 0))))) && (u6 || (enb m.e zEn)))) (ex_and rfl s74 s83 rfl) hz (fun R60 zz kk s84x => ?_)
  replace s1 := kt kk s1
  replace s2 := kt kk s2
  clear kk hz s74 s83
  have hz := zz
  have s84 := s84x
  clear zz s84x R59
  refine vt _ (ex_move rfl (ev s84 rfl)) hz (fun R61 zz kk s85x => ?_)
  replace s1 := kt kk s1
  replace s2 := kt kk s2
  clear kk hz s84
  have hz := zz
  have s85 := s85x
  clear zz s85x R60
  refine vl _ _ (want_g rfl rfl s85) (fun hc => ex_move rfl (ev s1 rfl)) rfl hz (by decide) (fun R62 zz kk s86x => ?_)
  replace s1 := kt kk s1
  replace s2 := kt kk s2
  replace s85 := kt kk s85
  clear kk hz
  have hz := zz
  have s86 := s86x
  clear zz s86x R61
  refine vl _ (.pointer (some ⟨g, 7, none⟩)) (want_g rfl rfl s85) (fun hc => ex_ix rfl (ev s86 hc) rfl (ixBool g 7 10 cu (by decide) _)) rfl hz (by decide) (fun R63 zz kk s87x => ?_)
  replace s1 := kt kk s1
  replace s2 := kt kk s2
  replace s85 := kt kk s85
  clear kk hz s86
  have hz := zz
  have s87 := s87x
  clear zz s87x R62
  refine vl _ (.bool u7) (want_g rfl rfl s85) (fun hc => ex_ld rfl (ev s87 hc) (ldBool (HU.out v hv 7 _ rfl))) rfl hz (by decide) (fun R64 zz kk s88x => ?_)
  replace s1 := kt kk s1
  replace s2 := kt kk s2
  replace s85 := kt kk s85
  clear kk hz s87
  have hz := zz
  have s88 := s88x
  clear zz s88x R63
  refine vl _ _ (want_g rfl rfl s85) (fun hc => ex_move rfl (ev s88 hc)) rfl hz (by decide) (fun R65 zz kk s89x => ?_)
  replace s1 := kt kk s1
  replace s2 := kt kk s2
  replace s85 := kt kk s85
  clear kk hz s88
  have hz := zz
  have s89 := s89x
  clear zz s89x R64
  refine vl ((true && ((((((((u0 || (decide (m.nd = 0))) && (u1 || (decide (m.vw = 0)))) && (u2 || (decide (m.ls = 0)))) && (u3 || (decide (m.p = 0)))) && (u4 || (decide (m.cm = 0)))) && (u5 || (decide (m.d = (0, 0))))) && (u6 || (enb m.e zEn))) == true)) && (u7 == false)) (.pointer (some ⟨w.heap.size, 8, none⟩)) (want_g rfl rfl s89) (fun hc => ex_fa rfl (ev s2 rfl) (MBox.faResult _ _)) rfl hz (by decide) (fun R66 zz kk s90x => ?_)
  replace s1 := kt kk s1
  replace s2 := kt kk s2
  replace s85 := kt kk s85
  replace s89 := kt kk s89
  clear kk hz
  have hz := zz
  have s90 := s90x
  clear zz s90x R65
  refine vl ((true && ((((((((u0 || (decide (m.nd = 0))) && (u1 || (decide (m.vw = 0)))) && (u2 || (decide (m.ls = 0)))) && (u3 || (decide (m.p = 0)))) && (u4 || (decide (m.cm = 0)))) && (u5 || (decide (m.d = (0, 0))))) && (u6 || (enb m.e zEn))) == true)) && (u7 == false)) (.agg #[.int .i64 m.r.1, .int .i64 m.r.2.1, .string m.r.2.2]) (want_g rfl rfl s89) (fun hc => ex_ld rfl (ev s90 hc) ((HM.out v hv).ldResult)) rfl hz (by decide) (fun R67 zz kk s91x => ?_)
  replace s1 := kt kk s1
  replace s2 := kt kk s2
  replace s85 := kt kk s85
  replace s89 := kt kk s89
  clear kk hz s90
  have hz := zz
  have s91 := s91x
  clear zz s91x R66
  refine vl ((true && ((((((((u0 || (decide (m.nd = 0))) && (u1 || (decide (m.vw = 0)))) && (u2 || (decide (m.ls = 0)))) && (u3 || (decide (m.p = 0)))) && (u4 || (decide (m.cm = 0)))) && (u5 || (decide (m.d = (0, 0))))) && (u6 || (enb m.e zEn))) == true)) && (u7 == false)) (.agg #[.int .i64 0, .int .i64 0, .string ⟨#[]⟩]) (want_g rfl rfl s89) (fun hc => ex_build rfl (buildRs _)) rfl hz (by decide) (fun R68 zz kk s92x => ?_)
  replace s1 := kt kk s1
  replace s2 := kt kk s2
  replace s85 := kt kk s85
  replace s89 := kt kk s89
  replace s91 := kt kk s91
  clear kk hz
  have hz := zz
  have s92 := s92x
  clear zz s92x R67
  refine vl ((true && ((((((((u0 || (decide (m.nd = 0))) && (u1 || (decide (m.vw = 0)))) && (u2 || (decide (m.ls = 0)))) && (u3 || (decide (m.p = 0)))) && (u4 || (decide (m.cm = 0)))) && (u5 || (decide (m.d = (0, 0))))) && (u6 || (enb m.e zEn))) == true)) && (u7 == false)) (.bool (decide (m.r = (0, 0, ⟨#[]⟩)))) (want_g rfl rfl s89) (fun hc => ex_bin rfl (ev s91 hc) (ev s92 hc) (eqlRs _ _ m.r (0, 0, ⟨#[]⟩) _)) rfl hz (by decide) (fun R69 zz kk s93x => ?_)
  replace s1 := kt kk s1
  replace s2 := kt kk s2
  replace s85 := kt kk s85
  replace s89 := kt kk s89
  clear kk hz s91 s92
  have hz := zz
  have s93 := s93x
  clear zz s93x R68
  refine vl _ (.bool (u7 || (decide (m.r = (0, 0, ⟨#[]⟩))))) (want_g rfl rfl s85) (fun hc => ex_or rfl s89 s93 hc) rfl hz (by decide) (fun R70 zz kk s94x => ?_)
  replace s1 := kt kk s1
  replace s2 := kt kk s2
  replace s85 := kt kk s85
  clear kk hz s89 s93
  have hz := zz
  have s94 := s94x
  clear zz s94x R69
  refine vt (.bool ((((((((u0 || (decide (m.nd = 0))) && (u1 || (decide (m.vw = 0)))) && (u2 || (decide (m.ls = 0)))) && (u3 || (decide (m.p = 0)))) && (u4 || (decide (m.cm = 0)))) && (u5 || (decide (m.d = (0, 0))))) && (u6 || (enb m.e zEn))) && (u7 || (decide (m.r = (0, 0, ⟨#[]⟩)))))) (ex_and rfl s85 s94 rfl) hz (fun R71 zz kk s95x => ?_)
  replace s1 := kt kk s1
  replace s2 := kt kk s2
  clear kk hz s85 s94
  have hz := zz
  have s95 := s95x
  clear zz s95x R70
  refine vt _ (ex_move rfl (ev s95 rfl)) hz (fun R72 zz kk s96x => ?_)
  replace s1 := kt kk s1
  replace s2 := kt kk s2
  clear kk hz s95
  have hz := zz
  have s96 := s96x
  clear zz s96x R71
  refine vl _ _ (want_g rfl rfl s96) (fun hc => ex_move rfl (ev s1 rfl)) rfl hz (by decide) (fun R73 zz kk s97x => ?_)
  replace s1 := kt kk s1
  replace s2 := kt kk s2
  replace s96 := kt kk s96
  clear kk hz
  have hz := zz
  have s97 := s97x
  clear zz s97x R72
  refine vl _ (.pointer (some ⟨g, 8, none⟩)) (want_g rfl rfl s96) (fun hc => ex_ix rfl (ev s97 hc) rfl (ixBool g 8 10 cu (by decide) _)) rfl hz (by decide) (fun R74 zz kk s98x => ?_)
  replace s1 := kt kk s1
  replace s2 := kt kk s2
  replace s96 := kt kk s96
  clear kk hz s97
  have hz := zz
  have s98 := s98x
  clear zz s98x R73
  refine vl _ (.bool u8) (want_g rfl rfl s96) (fun hc => ex_ld rfl (ev s98 hc) (ldBool (HU.out v hv 8 _ rfl))) rfl hz (by decide) (fun R75 zz kk s99x => ?_)
  replace s1 := kt kk s1
  replace s2 := kt kk s2
  replace s96 := kt kk s96
  clear kk hz s98
  have hz := zz
  have s99 := s99x
  clear zz s99x R74
  refine vl _ _ (want_g rfl rfl s96) (fun hc => ex_move rfl (ev s99 hc)) rfl hz (by decide) (fun R76 zz kk s100x => ?_)
  replace s1 := kt kk s1
  replace s2 := kt kk s2
  replace s96 := kt kk s96
  clear kk hz s99
  have hz := zz
  have s100 := s100x
  clear zz s100x R75
  refine vl ((true && (((((((((u0 || (decide (m.nd = 0))) && (u1 || (decide (m.vw = 0)))) && (u2 || (decide (m.ls = 0)))) && (u3 || (decide (m.p = 0)))) && (u4 || (decide (m.cm = 0)))) && (u5 || (decide (m.d = (0, 0))))) && (u6 || (enb m.e zEn))) && (u7 || (decide (m.r = (0, 0, ⟨#[]⟩))))) == true)) && (u8 == false)) (.pointer (some ⟨w.heap.size, 16, none⟩)) (want_g rfl rfl s100) (fun hc => ex_fa rfl (ev s2 rfl) (MBox.faLog _ _)) rfl hz (by decide) (fun R77 zz kk s101x => ?_)
  replace s1 := kt kk s1
  replace s2 := kt kk s2
  replace s96 := kt kk s96
  replace s100 := kt kk s100
  clear kk hz
  have hz := zz
  have s101 := s101x
  clear zz s101x R76
  refine vl ((true && (((((((((u0 || (decide (m.nd = 0))) && (u1 || (decide (m.vw = 0)))) && (u2 || (decide (m.ls = 0)))) && (u3 || (decide (m.p = 0)))) && (u4 || (decide (m.cm = 0)))) && (u5 || (decide (m.d = (0, 0))))) && (u6 || (enb m.e zEn))) && (u7 || (decide (m.r = (0, 0, ⟨#[]⟩))))) == true)) && (u8 == false)) (.slice a1 nl cl) (want_g rfl rfl s100) (fun hc => ex_ld rfl (ev s101 hc) ((HM.out v hv).ldLog)) rfl hz (by decide) (fun R78 zz kk s102x => ?_)
  replace s1 := kt kk s1
  replace s2 := kt kk s2
  replace s96 := kt kk s96
  replace s100 := kt kk s100
  clear kk hz s101
  have hz := zz
  have s102 := s102x
  clear zz s102x R77
  refine vl ((true && (((((((((u0 || (decide (m.nd = 0))) && (u1 || (decide (m.vw = 0)))) && (u2 || (decide (m.ls = 0)))) && (u3 || (decide (m.p = 0)))) && (u4 || (decide (m.cm = 0)))) && (u5 || (decide (m.d = (0, 0))))) && (u6 || (enb m.e zEn))) && (u7 || (decide (m.r = (0, 0, ⟨#[]⟩))))) == true)) && (u8 == false)) (.int .i64 ((nl : Nat) : Int)) (want_g rfl rfl s100) (fun hc => ex_lenE rfl rfl (ev s102 hc)) rfl hz (by decide) (fun R79 zz kk s103x => ?_)
  replace s1 := kt kk s1
  replace s2 := kt kk s2
  replace s96 := kt kk s96
  replace s100 := kt kk s100
  clear kk hz s102
  have hz := zz
  have s103 := s103x
  clear zz s103x R78
  refine vl ((true && (((((((((u0 || (decide (m.nd = 0))) && (u1 || (decide (m.vw = 0)))) && (u2 || (decide (m.ls = 0)))) && (u3 || (decide (m.p = 0)))) && (u4 || (decide (m.cm = 0)))) && (u5 || (decide (m.d = (0, 0))))) && (u6 || (enb m.e zEn))) && (u7 || (decide (m.r = (0, 0, ⟨#[]⟩))))) == true)) && (u8 == false)) (.bool (decide (((nl : Nat) : Int) = 0))) (want_g rfl rfl s100) (fun hc => ex_bin rfl (ev s103 hc) rfl (eqlC _ _ _ _ _)) rfl hz (by decide) (fun R80 zz kk s104x => ?_)
  replace s1 := kt kk s1
  replace s2 := kt kk s2
  replace s96 := kt kk s96
  replace s100 := kt kk s100
  clear kk hz s103
  have hz := zz
  have s104 := s104x
  clear zz s104x R79
  refine vl _ (.bool (u8 || (decide (((nl : Nat) : Int) = 0)))) (want_g rfl rfl s96) (fun hc => ex_or rfl s100 s104 hc) rfl hz (by decide) (fun R81 zz kk s105x => ?_)
  replace s1 := kt kk s1
  replace s2 := kt kk s2
  replace s96 := kt kk s96
  clear kk hz s100 s104
  have hz := zz
  have s105 := s105x
  clear zz s105x R80
  refine vt (.bool (((((((((u0 || (decide (m.nd = 0))) && (u1 || (decide (m.vw = 0)))) && (u2 || (decide (m.ls = 0)))) && (u3 || (decide (m.p = 0)))) && (u4 || (decide (m.cm = 0)))) && (u5 || (decide (m.d = (0, 0))))) && (u6 || (enb m.e zEn))) && (u7 || (decide (m.r = (0, 0, ⟨#[]⟩))))) && (u8 || (decide (((nl : Nat) : Int) = 0))))) (ex_and rfl s96 s105 rfl) hz (fun R82 zz kk s106x => ?_)
  replace s1 := kt kk s1
  replace s2 := kt kk s2
  clear kk hz s96 s105
  have hz := zz
  have s106 := s106x
  clear zz s106x R81
  refine vt _ (ex_move rfl (ev s106 rfl)) hz (fun R83 zz kk s107x => ?_)
  replace s1 := kt kk s1
  replace s2 := kt kk s2
  clear kk hz s106
  have hz := zz
  have s107 := s107x
  clear zz s107x R82
  refine vl _ _ (want_g rfl rfl s107) (fun hc => ex_move rfl (ev s1 rfl)) rfl hz (by decide) (fun R84 zz kk s108x => ?_)
  replace s2 := kt kk s2
  replace s107 := kt kk s107
  clear kk hz s1
  have hz := zz
  have s108 := s108x
  clear zz s108x R83
  refine vl _ (.pointer (some ⟨g, 9, none⟩)) (want_g rfl rfl s107) (fun hc => ex_ix rfl (ev s108 hc) rfl (ixBool g 9 10 cu (by decide) _)) rfl hz (by decide) (fun R85 zz kk s109x => ?_)
  replace s2 := kt kk s2
  replace s107 := kt kk s107
  clear kk hz s108
  have hz := zz
  have s109 := s109x
  clear zz s109x R84
  refine vl _ (.bool u9) (want_g rfl rfl s107) (fun hc => ex_ld rfl (ev s109 hc) (ldBool (HU.out v hv 9 _ rfl))) rfl hz (by decide) (fun R86 zz kk s110x => ?_)
  replace s2 := kt kk s2
  replace s107 := kt kk s107
  clear kk hz s109
  have hz := zz
  have s110 := s110x
  clear zz s110x R85
  refine vl _ _ (want_g rfl rfl s107) (fun hc => ex_move rfl (ev s110 hc)) rfl hz (by decide) (fun R87 zz kk s111x => ?_)
  replace s2 := kt kk s2
  replace s107 := kt kk s107
  clear kk hz s110
  have hz := zz
  have s111 := s111x
  clear zz s111x R86
  refine vl ((true && ((((((((((u0 || (decide (m.nd = 0))) && (u1 || (decide (m.vw = 0)))) && (u2 || (decide (m.ls = 0)))) && (u3 || (decide (m.p = 0)))) && (u4 || (decide (m.cm = 0)))) && (u5 || (decide (m.d = (0, 0))))) && (u6 || (enb m.e zEn))) && (u7 || (decide (m.r = (0, 0, ⟨#[]⟩))))) && (u8 || (decide (((nl : Nat) : Int) = 0)))) == true)) && (u9 == false)) (.pointer (some ⟨w.heap.size, 17, none⟩)) (want_g rfl rfl s111) (fun hc => ex_fa rfl (ev s2 rfl) (MBox.faVector _ _)) rfl hz (by decide) (fun R88 zz kk s112x => ?_)
  replace s107 := kt kk s107
  replace s111 := kt kk s111
  clear kk hz s2
  have hz := zz
  have s112 := s112x
  clear zz s112x R87
  refine vl ((true && ((((((((((u0 || (decide (m.nd = 0))) && (u1 || (decide (m.vw = 0)))) && (u2 || (decide (m.ls = 0)))) && (u3 || (decide (m.p = 0)))) && (u4 || (decide (m.cm = 0)))) && (u5 || (decide (m.d = (0, 0))))) && (u6 || (enb m.e zEn))) && (u7 || (decide (m.r = (0, 0, ⟨#[]⟩))))) && (u8 || (decide (((nl : Nat) : Int) = 0)))) == true)) && (u9 == false)) (.slice a2 nv cv) (want_g rfl rfl s111) (fun hc => ex_ld rfl (ev s112 hc) ((HM.out v hv).ldVector)) rfl hz (by decide) (fun R89 zz kk s113x => ?_)
  replace s107 := kt kk s107
  replace s111 := kt kk s111
  clear kk hz s112
  have hz := zz
  have s113 := s113x
  clear zz s113x R88
  refine vl ((true && ((((((((((u0 || (decide (m.nd = 0))) && (u1 || (decide (m.vw = 0)))) && (u2 || (decide (m.ls = 0)))) && (u3 || (decide (m.p = 0)))) && (u4 || (decide (m.cm = 0)))) && (u5 || (decide (m.d = (0, 0))))) && (u6 || (enb m.e zEn))) && (u7 || (decide (m.r = (0, 0, ⟨#[]⟩))))) && (u8 || (decide (((nl : Nat) : Int) = 0)))) == true)) && (u9 == false)) (.int .i64 ((nv : Nat) : Int)) (want_g rfl rfl s111) (fun hc => ex_lenV rfl rfl (ev s113 hc)) rfl hz (by decide) (fun R90 zz kk s114x => ?_)
  replace s107 := kt kk s107
  replace s111 := kt kk s111
  clear kk hz s113
  have hz := zz
  have s114 := s114x
  clear zz s114x R89
  refine vl ((true && ((((((((((u0 || (decide (m.nd = 0))) && (u1 || (decide (m.vw = 0)))) && (u2 || (decide (m.ls = 0)))) && (u3 || (decide (m.p = 0)))) && (u4 || (decide (m.cm = 0)))) && (u5 || (decide (m.d = (0, 0))))) && (u6 || (enb m.e zEn))) && (u7 || (decide (m.r = (0, 0, ⟨#[]⟩))))) && (u8 || (decide (((nl : Nat) : Int) = 0)))) == true)) && (u9 == false)) (.bool (decide (((nv : Nat) : Int) = 0))) (want_g rfl rfl s111) (fun hc => ex_bin rfl (ev s114 hc) rfl (eqlC _ _ _ _ _)) rfl hz (by decide) (fun R91 zz kk s115x => ?_)
  replace s107 := kt kk s107
  replace s111 := kt kk s111
  clear kk hz s114
  have hz := zz
  have s115 := s115x
  clear zz s115x R90
  refine vl _ (.bool (u9 || (decide (((nv : Nat) : Int) = 0)))) (want_g rfl rfl s107) (fun hc => ex_or rfl s111 s115 hc) rfl hz (by decide) (fun R92 zz kk s116x => ?_)
  replace s107 := kt kk s107
  clear kk hz s111 s115
  have hz := zz
  have s116 := s116x
  clear zz s116x R91
  refine vt (.bool ((((((((((u0 || (decide (m.nd = 0))) && (u1 || (decide (m.vw = 0)))) && (u2 || (decide (m.ls = 0)))) && (u3 || (decide (m.p = 0)))) && (u4 || (decide (m.cm = 0)))) && (u5 || (decide (m.d = (0, 0))))) && (u6 || (enb m.e zEn))) && (u7 || (decide (m.r = (0, 0, ⟨#[]⟩))))) && (u8 || (decide (((nl : Nat) : Int) = 0)))) && (u9 || (decide (((nv : Nat) : Int) = 0))))) (ex_and rfl s107 s116 rfl) hz (fun R93 zz kk s117x => ?_)
  clear kk hz s107 s116
  have hz := zz
  have s117 := s117x
  clear zz s117x R92
  refine vt _ (ex_assign rfl (ev s117 rfl)) hz (fun R94 zz kk s4x => ?_)
  clear kk hz s117
  have hz := zz
  have s4 := s4x
  clear zz s4x R93
  refine wpList_nil ?_
  have s4' : R94.getD 4 undef = .bool (unG m nl nv u0 u1 u2 u3 u4 u5 u6 u7 u8 u9) := by unfold unG; exact getD_of s4
  have HV := hide (HB.out v hv)
  clear HM HU HB hv
  go_wp2
  refine bodyPost_ret (results_tmp rfl _ _ _) rfl ⟨?_, HV.out⟩
  show Ending.returned (R94.getD 4 undef) = _
  rw [s4']
theorem isBlank_all (m : Mg) (a1 a2 : Option Addr) (nl cl nv cv : Nat) (j : Nat) (hj : j < 10) (w : World) : Calls Tryz.prog 76 #[m.val (.slice a1 nl cl) (.slice a2 nv cv), .int .i64 (j : Int)] w fun e w' => e = .returned (.bool (blB m nl nv j)) ∧ Below w.heap.size w w' := by
  match j, hj with
  | 0, _ => exact isBlank_0 m a1 a2 nl cl nv cv w
  | 1, _ => exact isBlank_1 m a1 a2 nl cl nv cv w
  | 2, _ => exact isBlank_2 m a1 a2 nl cl nv cv w
  | 3, _ => exact isBlank_3 m a1 a2 nl cl nv cv w
  | 4, _ => exact isBlank_4 m a1 a2 nl cl nv cv w
  | 5, _ => exact isBlank_5 m a1 a2 nl cl nv cv w
  | 6, _ => exact isBlank_6 m a1 a2 nl cl nv cv w
  | 7, _ => exact isBlank_7 m a1 a2 nl cl nv cv w
  | 8, _ => exact isBlank_8 m a1 a2 nl cl nv cv w
  | 9, _ => exact isBlank_9 m a1 a2 nl cl nv cv w
set_option maxRecDepth 100000 in
set_option maxHeartbeats 1000000 in
theorem keeps_0 (f r p : Int) (u : Bool) (m : Mg) (a1 a2 : Option Addr) (nl cl nv cv : Nat) (j : Nat) (w : World) (hf1 : 1 ≤ f) (hf2 : f ≤ 3) (hj : j < 10) : Calls Tryz.prog 31 #[.agg #[.int .i64 f, .int .i64 r, .int .i64 p, .bool u], m.val (.slice a1 nl cl) (.slice a2 nv cv), .int .i64 (j : Int), .int .u8 0] w fun e w' => e = .returned (.bool (blB m nl nv j)) ∧ Below w.heap.size w w' := by
  go_enter Tryz.func31, Tryz.ntmps31
  go_upto_region 1 with (refine boxMk rfl (.tmp 1) rfl m _ _ rfl ?_; intro q1 w1 hq1 M1 b1 z1)
  have hB : Below w.heap.size w w1 := ((Below.refl _ _).alloc (Nat.le_refl _) _).trans (b1.mono (by simp))
  have HB := hide hB
  have c0 : w1.cell? ⟨w.heap.size, 0, none⟩ = some (.int .i64 f) := (b1.cell (p := ⟨w.heap.size, 0, none⟩) (by simp)).trans (by simp)
  have c1 : w1.cell? ⟨w.heap.size, 1, none⟩ = some (.int .i64 r) := (b1.cell (p := ⟨w.heap.size, 1, none⟩) (by simp)).trans (by simp)
  have hq2 : q1 = w.heap.size + 1 := by first | exact hq1 | simpa using hq1
  subst hq2
  have MH := hide M1
  clear M1 b1 z1 hB hq1
  go_wp2_with (refine loadM rfl (.tmp 5) rfl (w.heap.size + 1) m _ _ rfl MH.out ?_)
  refine (isBlank_all m a1 a2 nl cl nv cv j hj _).mono ?_
  rintro e w2 ⟨rfl, b2⟩
  have B2 := hide (HB.out.trans (b2.mono HB.out.size))
  clear b2
  go_wp2
  go_ret
  exact ⟨rfl, B2.out⟩
set_option maxRecDepth 100000 in
set_option maxHeartbeats 1000000 in
theorem keeps_1 (f r p : Int) (u : Bool) (m : Mg) (a1 a2 : Option Addr) (nl cl nv cv : Nat) (at_ : Int) (w : World) (hf1 : 1 ≤ f) (hf2 : f ≤ 3) : Calls Tryz.prog 31 #[.agg #[.int .i64 f, .int .i64 r, .int .i64 p, .bool u], m.val (.slice a1 nl cl) (.slice a2 nv cv), .int .i64 at_, .int .u8 1] w fun e w' => e = .returned (.bool (inR m.nd 0 (2 * f))) ∧ Below w.heap.size w w' := by
  go_enter Tryz.func31, Tryz.ntmps31
  go_upto_region 1 with (refine boxMk rfl (.tmp 1) rfl m _ _ rfl ?_; intro q1 w1 hq1 M1 b1 z1)
  have hB : Below w.heap.size w w1 := ((Below.refl _ _).alloc (Nat.le_refl _) _).trans (b1.mono (by simp))
  have HB := hide hB
  have c0 : w1.cell? ⟨w.heap.size, 0, none⟩ = some (.int .i64 f) := (b1.cell (p := ⟨w.heap.size, 0, none⟩) (by simp)).trans (by simp)
  have c1 : w1.cell? ⟨w.heap.size, 1, none⟩ = some (.int .i64 r) := (b1.cell (p := ⟨w.heap.size, 1, none⟩) (by simp)).trans (by simp)
  have hq2 : q1 = w.heap.size + 1 := by first | exact hq1 | simpa using hq1
  subst hq2
  have x1 := M1.cell 1 _ rfl
  clear M1 b1 z1 hB hq1
  go_wp2_with fail
  refine (withinM_any _ _ _ _).mono ?_
  rintro e w2 ⟨rfl, rfl⟩
  go_wp2
  go_ret
  exact ⟨rfl, HB.out⟩
set_option maxRecDepth 100000 in
set_option maxHeartbeats 1000000 in
theorem keeps_3 (f r p : Int) (u : Bool) (m : Mg) (a1 a2 : Option Addr) (nl cl nv cv : Nat) (at_ : Int) (w : World) (hf1 : 1 ≤ f) (hf2 : f ≤ 3) : Calls Tryz.prog 31 #[.agg #[.int .i64 f, .int .i64 r, .int .i64 p, .bool u], m.val (.slice a1 nl cl) (.slice a2 nv cv), .int .i64 at_, .int .u8 3] w fun e w' => e = .returned (.bool (inR m.vw 0 4294967296)) ∧ Below w.heap.size w w' := by
  go_enter Tryz.func31, Tryz.ntmps31
  go_upto_region 1 with (refine boxMk rfl (.tmp 1) rfl m _ _ rfl ?_; intro q1 w1 hq1 M1 b1 z1)
  have hB : Below w.heap.size w w1 := ((Below.refl _ _).alloc (Nat.le_refl _) _).trans (b1.mono (by simp))
  have HB := hide hB
  have c0 : w1.cell? ⟨w.heap.size, 0, none⟩ = some (.int .i64 f) := (b1.cell (p := ⟨w.heap.size, 0, none⟩) (by simp)).trans (by simp)
  have c1 : w1.cell? ⟨w.heap.size, 1, none⟩ = some (.int .i64 r) := (b1.cell (p := ⟨w.heap.size, 1, none⟩) (by simp)).trans (by simp)
  have hq2 : q1 = w.heap.size + 1 := by first | exact hq1 | simpa using hq1
  subst hq2
  have x2 := M1.cell 2 _ rfl
  clear M1 b1 z1 hB hq1
  go_wp2_with fail
  refine (withinM_any _ _ _ _).mono ?_
  rintro e w2 ⟨rfl, rfl⟩
  go_wp2
  go_ret
  exact ⟨rfl, HB.out⟩
set_option maxRecDepth 100000 in
set_option maxHeartbeats 1000000 in
theorem keeps_4 (f r p : Int) (u : Bool) (m : Mg) (a1 a2 : Option Addr) (nl cl nv cv : Nat) (at_ : Int) (w : World) (hf1 : 1 ≤ f) (hf2 : f ≤ 3) : Calls Tryz.prog 31 #[.agg #[.int .i64 f, .int .i64 r, .int .i64 p, .bool u], m.val (.slice a1 nl cl) (.slice a2 nv cv), .int .i64 at_, .int .u8 4] w fun e w' => e = .returned (.bool (inR m.vw 1 4294967296)) ∧ Below w.heap.size w w' := by
  go_enter Tryz.func31, Tryz.ntmps31
  go_upto_region 1 with (refine boxMk rfl (.tmp 1) rfl m _ _ rfl ?_; intro q1 w1 hq1 M1 b1 z1)
  have hB : Below w.heap.size w w1 := ((Below.refl _ _).alloc (Nat.le_refl _) _).trans (b1.mono (by simp))
  have HB := hide hB
  have c0 : w1.cell? ⟨w.heap.size, 0, none⟩ = some (.int .i64 f) := (b1.cell (p := ⟨w.heap.size, 0, none⟩) (by simp)).trans (by simp)
  have c1 : w1.cell? ⟨w.heap.size, 1, none⟩ = some (.int .i64 r) := (b1.cell (p := ⟨w.heap.size, 1, none⟩) (by simp)).trans (by simp)
  have hq2 : q1 = w.heap.size + 1 := by first | exact hq1 | simpa using hq1
  subst hq2
  have x2 := M1.cell 2 _ rfl
  clear M1 b1 z1 hB hq1
  go_wp2_with fail
  refine (withinM_any _ _ _ _).mono ?_
  rintro e w2 ⟨rfl, rfl⟩
  go_wp2
  go_ret
  exact ⟨rfl, HB.out⟩
set_option maxRecDepth 100000 in
set_option maxHeartbeats 1000000 in
theorem keeps_6 (f r p : Int) (u : Bool) (m : Mg) (a1 a2 : Option Addr) (nl cl nv cv : Nat) (at_ : Int) (w : World) (hf1 : 1 ≤ f) (hf2 : f ≤ 3) : Calls Tryz.prog 31 #[.agg #[.int .i64 f, .int .i64 r, .int .i64 p, .bool u], m.val (.slice a1 nl cl) (.slice a2 nv cv), .int .i64 at_, .int .u8 6] w fun e w' => e = .returned (.bool (inR m.p 0 r)) ∧ Below w.heap.size w w' := by
  go_enter Tryz.func31, Tryz.ntmps31
  go_upto_region 1 with (refine boxMk rfl (.tmp 1) rfl m _ _ rfl ?_; intro q1 w1 hq1 M1 b1 z1)
  have hB : Below w.heap.size w w1 := ((Below.refl _ _).alloc (Nat.le_refl _) _).trans (b1.mono (by simp))
  have HB := hide hB
  have c0 : w1.cell? ⟨w.heap.size, 0, none⟩ = some (.int .i64 f) := (b1.cell (p := ⟨w.heap.size, 0, none⟩) (by simp)).trans (by simp)
  have c1 : w1.cell? ⟨w.heap.size, 1, none⟩ = some (.int .i64 r) := (b1.cell (p := ⟨w.heap.size, 1, none⟩) (by simp)).trans (by simp)
  have hq2 : q1 = w.heap.size + 1 := by first | exact hq1 | simpa using hq1
  subst hq2
  have x11 := M1.cell 11 _ rfl
  clear M1 b1 z1 hB hq1
  go_wp2_with fail
  refine (withinM_any _ _ _ _).mono ?_
  rintro e w2 ⟨rfl, rfl⟩
  go_wp2
  go_ret
  exact ⟨rfl, HB.out⟩
set_option maxRecDepth 100000 in
set_option maxHeartbeats 1000000 in
theorem keeps_7 (f r p : Int) (u : Bool) (m : Mg) (a1 a2 : Option Addr) (nl cl nv cv : Nat) (at_ : Int) (w : World) (hf1 : 1 ≤ f) (hf2 : f ≤ 3) : Calls Tryz.prog 31 #[.agg #[.int .i64 f, .int .i64 r, .int .i64 p, .bool u], m.val (.slice a1 nl cl) (.slice a2 nv cv), .int .i64 at_, .int .u8 7] w fun e w' => e = .returned (.bool (inR m.p 1 r)) ∧ Below w.heap.size w w' := by
  go_enter Tryz.func31, Tryz.ntmps31
  go_upto_region 1 with (refine boxMk rfl (.tmp 1) rfl m _ _ rfl ?_; intro q1 w1 hq1 M1 b1 z1)
  have hB : Below w.heap.size w w1 := ((Below.refl _ _).alloc (Nat.le_refl _) _).trans (b1.mono (by simp))
  have HB := hide hB
  have c0 : w1.cell? ⟨w.heap.size, 0, none⟩ = some (.int .i64 f) := (b1.cell (p := ⟨w.heap.size, 0, none⟩) (by simp)).trans (by simp)
  have c1 : w1.cell? ⟨w.heap.size, 1, none⟩ = some (.int .i64 r) := (b1.cell (p := ⟨w.heap.size, 1, none⟩) (by simp)).trans (by simp)
  have hq2 : q1 = w.heap.size + 1 := by first | exact hq1 | simpa using hq1
  subst hq2
  have x11 := M1.cell 11 _ rfl
  clear M1 b1 z1 hB hq1
  go_wp2_with fail
  refine (withinM_any _ _ _ _).mono ?_
  rintro e w2 ⟨rfl, rfl⟩
  go_wp2
  go_ret
  exact ⟨rfl, HB.out⟩
set_option maxRecDepth 100000 in
set_option maxHeartbeats 1000000 in
theorem keeps_8 (f r p : Int) (u : Bool) (m : Mg) (a1 a2 : Option Addr) (nl cl nv cv : Nat) (at_ : Int) (w : World) (hf1 : 1 ≤ f) (hf2 : f ≤ 3) : Calls Tryz.prog 31 #[.agg #[.int .i64 f, .int .i64 r, .int .i64 p, .bool u], m.val (.slice a1 nl cl) (.slice a2 nv cv), .int .i64 at_, .int .u8 8] w fun e w' => e = .returned (.bool (apB m.p m.r.1 r)) ∧ Below w.heap.size w w' := by
  go_enter Tryz.func31, Tryz.ntmps31
  go_upto_region 1 with (refine boxMk rfl (.tmp 1) rfl m _ _ rfl ?_; intro q1 w1 hq1 M1 b1 z1)
  have hB : Below w.heap.size w w1 := ((Below.refl _ _).alloc (Nat.le_refl _) _).trans (b1.mono (by simp))
  have HB := hide hB
  have c0 : w1.cell? ⟨w.heap.size, 0, none⟩ = some (.int .i64 f) := (b1.cell (p := ⟨w.heap.size, 0, none⟩) (by simp)).trans (by simp)
  have c1 : w1.cell? ⟨w.heap.size, 1, none⟩ = some (.int .i64 r) := (b1.cell (p := ⟨w.heap.size, 1, none⟩) (by simp)).trans (by simp)
  have hq2 : q1 = w.heap.size + 1 := by first | exact hq1 | simpa using hq1
  subst hq2
  have x11 := M1.cell 11 _ rfl
  have x8 := M1.cell 8 _ rfl
  clear M1 b1 z1 hB hq1
  go_wp2_with fail
  refine (answerPlace_any _ _ _ _).mono ?_
  rintro e w2 ⟨rfl, rfl⟩
  go_wp2
  go_ret
  exact ⟨rfl, HB.out⟩
set_option maxRecDepth 100000 in
set_option maxHeartbeats 1000000 in
theorem keeps_9 (f r p : Int) (u : Bool) (m : Mg) (a1 a2 : Option Addr) (nl cl nv cv : Nat) (at_ : Int) (w : World) (hf1 : 1 ≤ f) (hf2 : f ≤ 3) : Calls Tryz.prog 31 #[.agg #[.int .i64 f, .int .i64 r, .int .i64 p, .bool u], m.val (.slice a1 nl cl) (.slice a2 nv cv), .int .i64 at_, .int .u8 9] w fun e w' => e = .returned (.bool (inR m.cm 0 r)) ∧ Below w.heap.size w w' := by
  go_enter Tryz.func31, Tryz.ntmps31
  go_upto_region 1 with (refine boxMk rfl (.tmp 1) rfl m _ _ rfl ?_; intro q1 w1 hq1 M1 b1 z1)
  have hB : Below w.heap.size w w1 := ((Below.refl _ _).alloc (Nat.le_refl _) _).trans (b1.mono (by simp))
  have HB := hide hB
  have c0 : w1.cell? ⟨w.heap.size, 0, none⟩ = some (.int .i64 f) := (b1.cell (p := ⟨w.heap.size, 0, none⟩) (by simp)).trans (by simp)
  have c1 : w1.cell? ⟨w.heap.size, 1, none⟩ = some (.int .i64 r) := (b1.cell (p := ⟨w.heap.size, 1, none⟩) (by simp)).trans (by simp)
  have hq2 : q1 = w.heap.size + 1 := by first | exact hq1 | simpa using hq1
  subst hq2
  have x12 := M1.cell 12 _ rfl
  clear M1 b1 z1 hB hq1
  go_wp2_with fail
  refine (withinM_any _ _ _ _).mono ?_
  rintro e w2 ⟨rfl, rfl⟩
  go_wp2
  go_ret
  exact ⟨rfl, HB.out⟩
set_option maxRecDepth 100000 in
set_option maxHeartbeats 1000000 in
theorem keeps_10 (f r p : Int) (u : Bool) (m : Mg) (a1 a2 : Option Addr) (nl cl nv cv : Nat) (at_ : Int) (w : World) (hf1 : 1 ≤ f) (hf2 : f ≤ 3) : Calls Tryz.prog 31 #[.agg #[.int .i64 f, .int .i64 r, .int .i64 p, .bool u], m.val (.slice a1 nl cl) (.slice a2 nv cv), .int .i64 at_, .int .u8 10] w fun e w' => e = .returned (.bool (inR m.cm 0 (nl : Int))) ∧ Below w.heap.size w w' := by
  go_enter Tryz.func31, Tryz.ntmps31
  go_upto_region 1 with (refine boxMk rfl (.tmp 1) rfl m _ _ rfl ?_; intro q1 w1 hq1 M1 b1 z1)
  have hB : Below w.heap.size w w1 := ((Below.refl _ _).alloc (Nat.le_refl _) _).trans (b1.mono (by simp))
  have HB := hide hB
  have c0 : w1.cell? ⟨w.heap.size, 0, none⟩ = some (.int .i64 f) := (b1.cell (p := ⟨w.heap.size, 0, none⟩) (by simp)).trans (by simp)
  have c1 : w1.cell? ⟨w.heap.size, 1, none⟩ = some (.int .i64 r) := (b1.cell (p := ⟨w.heap.size, 1, none⟩) (by simp)).trans (by simp)
  have hq2 : q1 = w.heap.size + 1 := by first | exact hq1 | simpa using hq1
  subst hq2
  have x12 := M1.cell 12 _ rfl
  have x16 := M1.cell 16 _ rfl
  clear M1 b1 z1 hB hq1
  go_wp2_with fail
  refine (withinM_any _ _ _ _).mono ?_
  rintro e w2 ⟨rfl, rfl⟩
  go_wp2
  go_ret
  exact ⟨rfl, HB.out⟩
set_option maxRecDepth 100000 in
set_option maxHeartbeats 1000000 in
theorem keeps_16 (f r p : Int) (u : Bool) (m : Mg) (a1 a2 : Option Addr) (nl cl nv cv : Nat) (at_ : Int) (w : World) (hf1 : 1 ≤ f) (hf2 : f ≤ 3) : Calls Tryz.prog 31 #[.agg #[.int .i64 f, .int .i64 r, .int .i64 p, .bool u], m.val (.slice a1 nl cl) (.slice a2 nv cv), .int .i64 at_, .int .u8 16] w fun e w' => e = .returned (.bool (resB m.r.1 m.r.2.1 m.r.2.2)) ∧ Below w.heap.size w w' := by
  go_enter Tryz.func31, Tryz.ntmps31
  go_upto_region 1 with (refine boxMk rfl (.tmp 1) rfl m _ _ rfl ?_; intro q1 w1 hq1 M1 b1 z1)
  have hB : Below w.heap.size w w1 := ((Below.refl _ _).alloc (Nat.le_refl _) _).trans (b1.mono (by simp))
  have HB := hide hB
  have c0 : w1.cell? ⟨w.heap.size, 0, none⟩ = some (.int .i64 f) := (b1.cell (p := ⟨w.heap.size, 0, none⟩) (by simp)).trans (by simp)
  have c1 : w1.cell? ⟨w.heap.size, 1, none⟩ = some (.int .i64 r) := (b1.cell (p := ⟨w.heap.size, 1, none⟩) (by simp)).trans (by simp)
  have hq2 : q1 = w.heap.size + 1 := by first | exact hq1 | simpa using hq1
  subst hq2
  have x8 := M1.cell 8 _ rfl
  have x9 := M1.cell 9 _ rfl
  have x10 := M1.cell 10 _ rfl
  clear M1 b1 z1 hB hq1
  go_wp2_with fail
  refine (resultMayBe_any _ _ _ _).mono ?_
  rintro e w2 ⟨rfl, b2⟩
  have B2 := hide (HB.out.trans (b2.mono HB.out.size))
  clear b2
  go_wp2
  go_ret
  exact ⟨rfl, B2.out⟩
set_option maxRecDepth 100000 in
set_option maxHeartbeats 1000000 in
theorem keeps_5 (f r p : Int) (u : Bool) (m : Mg) (a1 a2 : Option Addr) (nl cl nv cv : Nat) (at_ : Int) (w : World) (hf1 : 1 ≤ f) (hf2 : f ≤ 3) : Calls Tryz.prog 31 #[.agg #[.int .i64 f, .int .i64 r, .int .i64 p, .bool u], m.val (.slice a1 nl cl) (.slice a2 nv cv), .int .i64 at_, .int .u8 5] w fun e w' => e = .returned (.bool (decide (0 ≤ m.ls) && decide (m.ls < m.vw))) ∧ Below w.heap.size w w' := by
  by_cases h1 : 0 ≤ m.ls
  · by_cases h2 : m.ls < m.vw
    · have V : Hid ((decide (0 ≤ m.ls) && decide (m.ls < m.vw)) = true) := by simp [Hid, h1, h2]
      go_enter Tryz.func31, Tryz.ntmps31
      go_upto_region 1 with (refine boxMk rfl (.tmp 1) rfl m _ _ rfl ?_; intro q1 w1 hq1 M1 b1 z1)
      have hB : Below w.heap.size w w1 := ((Below.refl _ _).alloc (Nat.le_refl _) _).trans (b1.mono (by simp))
      have HB := hide hB
      have c0 : w1.cell? ⟨w.heap.size, 0, none⟩ = some (.int .i64 f) := (b1.cell (p := ⟨w.heap.size, 0, none⟩) (by simp)).trans (by simp)
      have c1 : w1.cell? ⟨w.heap.size, 1, none⟩ = some (.int .i64 r) := (b1.cell (p := ⟨w.heap.size, 1, none⟩) (by simp)).trans (by simp)
      have hq2 : q1 = w.heap.size + 1 := by first | exact hq1 | simpa using hq1
      subst hq2
      have x13 := M1.cell 13 _ rfl
      have x2 := M1.cell 2 _ rfl
      clear M1 b1 z1 hB hq1
      go_wp2
      go_ret
      exact ⟨by first | rfl | (rw [V.out]; first | rfl | simp), HB.out⟩
    · have V : Hid ((decide (0 ≤ m.ls) && decide (m.ls < m.vw)) = false) := by simp [Hid, h1, h2]
      have hq : decide (m.ls < m.vw) = false := by simp [h2]
      go_enter Tryz.func31, Tryz.ntmps31
      go_upto_region 1 with (refine boxMk rfl (.tmp 1) rfl m _ _ rfl ?_; intro q1 w1 hq1 M1 b1 z1)
      have hB : Below w.heap.size w w1 := ((Below.refl _ _).alloc (Nat.le_refl _) _).trans (b1.mono (by simp))
      have HB := hide hB
      have c0 : w1.cell? ⟨w.heap.size, 0, none⟩ = some (.int .i64 f) := (b1.cell (p := ⟨w.heap.size, 0, none⟩) (by simp)).trans (by simp)
      have c1 : w1.cell? ⟨w.heap.size, 1, none⟩ = some (.int .i64 r) := (b1.cell (p := ⟨w.heap.size, 1, none⟩) (by simp)).trans (by simp)
      have hq2 : q1 = w.heap.size + 1 := by first | exact hq1 | simpa using hq1
      subst hq2
      have x13 := M1.cell 13 _ rfl
      have x2 := M1.cell 2 _ rfl
      clear M1 b1 z1 hB hq1
      go_wp2
      go_ret
      exact ⟨by first | rfl | (rw [V.out]; first | rfl | simp), HB.out⟩
  · have V : Hid ((decide (0 ≤ m.ls) && decide (m.ls < m.vw)) = false) := by simp [Hid, h1]
    have hq : decide (0 ≤ m.ls) = false := by simp [h1]
    go_enter Tryz.func31, Tryz.ntmps31
    go_upto_region 1 with (refine boxMk rfl (.tmp 1) rfl m _ _ rfl ?_; intro q1 w1 hq1 M1 b1 z1)
    have hB : Below w.heap.size w w1 := ((Below.refl _ _).alloc (Nat.le_refl _) _).trans (b1.mono (by simp))
    have HB := hide hB
    have c0 : w1.cell? ⟨w.heap.size, 0, none⟩ = some (.int .i64 f) := (b1.cell (p := ⟨w.heap.size, 0, none⟩) (by simp)).trans (by simp)
    have c1 : w1.cell? ⟨w.heap.size, 1, none⟩ = some (.int .i64 r) := (b1.cell (p := ⟨w.heap.size, 1, none⟩) (by simp)).trans (by simp)
    have hq2 : q1 = w.heap.size + 1 := by first | exact hq1 | simpa using hq1
    subst hq2
    have x13 := M1.cell 13 _ rfl
    have x2 := M1.cell 2 _ rfl
    clear M1 b1 z1 hB hq1
    go_wp2
    go_ret
    exact ⟨by first | rfl | (rw [V.out]; first | rfl | simp), HB.out⟩
set_option maxHeartbeats 1000000 in
theorem vcheck_any (f : Int) (a : Option Addr) (n c : Nat) (w : World) (hf1 : 1 ≤ f) (hf2 : f ≤ 3) : Calls Tryz.prog 82 #[.slice a n c, .int .i64 (2 * f + 1)] w fun e w' => e = .returned (.int .i64 (if (n : Int) = 2 * f + 1 then 0 else 30)) ∧ Below w.heap.size w w' := by
  have h3 : f = 1 ∨ f = 2 ∨ f = 3 := by omega
  by_cases h : (n : Int) = 2 * f + 1
  · rw [if_pos h]
    rcases h3 with rfl | rfl | rfl
    · have hq : ((n : Int) != 3) = false := by simp; omega
      clear h
      go_enter Tryz.func82, Tryz.ntmps82
      go_wp2_with (go_at_call 115; go_in)
      go_ret
      exact ⟨rfl, Below.refl _ _⟩
    · have hq : ((n : Int) != 5) = false := by simp; omega
      clear h
      go_enter Tryz.func82, Tryz.ntmps82
      go_wp2_with (go_at_call 115; go_in)
      go_ret
      exact ⟨rfl, Below.refl _ _⟩
    · have hq : ((n : Int) != 7) = false := by simp; omega
      clear h
      go_enter Tryz.func82, Tryz.ntmps82
      go_wp2_with (go_at_call 115; go_in)
      go_ret
      exact ⟨rfl, Below.refl _ _⟩
  · rw [if_neg h]
    rcases h3 with rfl | rfl | rfl
    · have hq : ((n : Int) != 3) = true := by simp; omega
      clear h
      go_enter Tryz.func82, Tryz.ntmps82
      go_wp2_with (go_at_call 115; go_in)
      go_ret
      exact ⟨rfl, Below.refl _ _⟩
    · have hq : ((n : Int) != 5) = true := by simp; omega
      clear h
      go_enter Tryz.func82, Tryz.ntmps82
      go_wp2_with (go_at_call 115; go_in)
      go_ret
      exact ⟨rfl, Below.refl _ _⟩
    · have hq : ((n : Int) != 7) = true := by simp; omega
      clear h
      go_enter Tryz.func82, Tryz.ntmps82
      go_wp2_with (go_at_call 115; go_in)
      go_ret
      exact ⟨rfl, Below.refl _ _⟩
set_option maxRecDepth 100000 in
set_option maxHeartbeats 1000000 in
theorem keeps_20 (f r p : Int) (u : Bool) (m : Mg) (a1 a2 : Option Addr) (nl cl nv cv : Nat) (at_ : Int) (w : World) (hf1 : 1 ≤ f) (hf2 : f ≤ 3) : Calls Tryz.prog 31 #[.agg #[.int .i64 f, .int .i64 r, .int .i64 p, .bool u], m.val (.slice a1 nl cl) (.slice a2 nv cv), .int .i64 at_, .int .u8 20] w fun e w' => e = .returned (.bool (decide ((nv : Int) = 2 * f + 1))) ∧ Below w.heap.size w w' := by
  have H := hide (fun W => vcheck_any f a2 nv cv W hf1 hf2)
  by_cases hn : (nv : Int) = 2 * f + 1
  · have V : Hid (decide ((nv : Int) = 2 * f + 1) = true) := decide_eq_true hn
    rw [if_pos hn] at H
    clear hn
    go_enter Tryz.func31, Tryz.ntmps31
    go_upto_region 1 with (refine boxMk rfl (.tmp 1) rfl m _ _ rfl ?_; intro q1 w1 hq1 M1 b1 z1)
    have hB : Below w.heap.size w w1 := ((Below.refl _ _).alloc (Nat.le_refl _) _).trans (b1.mono (by simp))
    have HB := hide hB
    have c0 : w1.cell? ⟨w.heap.size, 0, none⟩ = some (.int .i64 f) := (b1.cell (p := ⟨w.heap.size, 0, none⟩) (by simp)).trans (by simp)
    have c1 : w1.cell? ⟨w.heap.size, 1, none⟩ = some (.int .i64 r) := (b1.cell (p := ⟨w.heap.size, 1, none⟩) (by simp)).trans (by simp)
    have hq2 : q1 = w.heap.size + 1 := by first | exact hq1 | simpa using hq1
    subst hq2
    have x17 := M1.cell 17 _ rfl
    clear M1 b1 z1 hB hq1
    go_wp2_with fail
    refine (H.out _).mono ?_
    rintro e w2 ⟨rfl, b2⟩
    have B2 := hide (HB.out.trans (b2.mono HB.out.size))
    clear b2
    go_wp2
    go_ret
    exact ⟨by rw [V.out]; rfl, B2.out⟩
  · have V : Hid (decide ((nv : Int) = 2 * f + 1) = false) := decide_eq_false hn
    rw [if_neg hn] at H
    clear hn
    go_enter Tryz.func31, Tryz.ntmps31
    go_upto_region 1 with (refine boxMk rfl (.tmp 1) rfl m _ _ rfl ?_; intro q1 w1 hq1 M1 b1 z1)
    have hB : Below w.heap.size w w1 := ((Below.refl _ _).alloc (Nat.le_refl _) _).trans (b1.mono (by simp))
    have HB := hide hB
    have c0 : w1.cell? ⟨w.heap.size, 0, none⟩ = some (.int .i64 f) := (b1.cell (p := ⟨w.heap.size, 0, none⟩) (by simp)).trans (by simp)
    have c1 : w1.cell? ⟨w.heap.size, 1, none⟩ = some (.int .i64 r) := (b1.cell (p := ⟨w.heap.size, 1, none⟩) (by simp)).trans (by simp)
    have hq2 : q1 = w.heap.size + 1 := by first | exact hq1 | simpa using hq1
    subst hq2
    have x17 := M1.cell 17 _ rfl
    clear M1 b1 z1 hB hq1
    go_wp2_with fail
    refine (H.out _).mono ?_
    rintro e w2 ⟨rfl, b2⟩
    have B2 := hide (HB.out.trans (b2.mono HB.out.size))
    clear b2
    go_wp2
    go_ret
    exact ⟨by rw [V.out]; rfl, B2.out⟩
set_option maxRecDepth 100000 in
set_option maxHeartbeats 1000000 in
theorem keeps_17 (f r p : Int) (u : Bool) (m : Mg) (a1 a2 : Option Addr) (nl cl nv cv : Nat) (at_ : Int) (w : World) (hf1 : 1 ≤ f) (hf2 : f ≤ 3) : Calls Tryz.prog 31 #[.agg #[.int .i64 f, .int .i64 r, .int .i64 p, .bool u], m.val (.slice a1 nl cl) (.slice a2 nv cv), .int .i64 at_, .int .u8 17] w fun e w' => e = .returned (.bool (resB m.r.1 m.r.2.1 m.r.2.2 && rdB m.r.1)) ∧ Below w.heap.size w w' := by
  have H := hide (fun W => resultMayBe_any m.r.1 m.r.2.1 m.r.2.2 W)
  have HR := hide (fun W => isReading_any m.r.1 W)
  generalize resB m.r.1 m.r.2.1 m.r.2.2 = x at *
  generalize rdB m.r.1 = y at *
  cases x with
  | false =>
    go_enter Tryz.func31, Tryz.ntmps31
    go_upto_region 1 with (refine boxMk rfl (.tmp 1) rfl m _ _ rfl ?_; intro q1 w1 hq1 M1 b1 z1)
    have hB : Below w.heap.size w w1 := ((Below.refl _ _).alloc (Nat.le_refl _) _).trans (b1.mono (by simp))
    have HB := hide hB
    have c0 : w1.cell? ⟨w.heap.size, 0, none⟩ = some (.int .i64 f) := (b1.cell (p := ⟨w.heap.size, 0, none⟩) (by simp)).trans (by simp)
    have c1 : w1.cell? ⟨w.heap.size, 1, none⟩ = some (.int .i64 r) := (b1.cell (p := ⟨w.heap.size, 1, none⟩) (by simp)).trans (by simp)
    have hq2 : q1 = w.heap.size + 1 := by first | exact hq1 | simpa using hq1
    subst hq2
    have x8 := M1.cell 8 _ rfl
    have x9 := M1.cell 9 _ rfl
    have x10 := M1.cell 10 _ rfl
    have hz1 : w.heap.size + 1 < w1.heap.size := M1.lt
    clear M1 b1 z1 hB hq1
    go_wp2_with fail
    refine (H.out _).mono ?_
    rintro e w2 ⟨rfl, b2⟩
    have B2 := hide (HB.out.trans (b2.mono HB.out.size))
    clear b2
    go_wp2
    go_ret
    exact ⟨rfl, B2.out⟩
  | true =>
    go_enter Tryz.func31, Tryz.ntmps31
    go_upto_region 1 with (refine boxMk rfl (.tmp 1) rfl m _ _ rfl ?_; intro q1 w1 hq1 M1 b1 z1)
    have hB : Below w.heap.size w w1 := ((Below.refl _ _).alloc (Nat.le_refl _) _).trans (b1.mono (by simp))
    have HB := hide hB
    have c0 : w1.cell? ⟨w.heap.size, 0, none⟩ = some (.int .i64 f) := (b1.cell (p := ⟨w.heap.size, 0, none⟩) (by simp)).trans (by simp)
    have c1 : w1.cell? ⟨w.heap.size, 1, none⟩ = some (.int .i64 r) := (b1.cell (p := ⟨w.heap.size, 1, none⟩) (by simp)).trans (by simp)
    have hq2 : q1 = w.heap.size + 1 := by first | exact hq1 | simpa using hq1
    subst hq2
    have x8 := M1.cell 8 _ rfl
    have x9 := M1.cell 9 _ rfl
    have x10 := M1.cell 10 _ rfl
    have hz1 : w.heap.size + 1 < w1.heap.size := M1.lt
    clear M1 b1 z1 hB hq1
    go_wp2_with fail
    refine (H.out _).mono ?_
    rintro e w2 ⟨rfl, b2⟩
    have y8 := (b2.cell (p := ⟨w.heap.size + 1, 8, none⟩) hz1).trans x8
    have B2 := hide (HB.out.trans (b2.mono HB.out.size))
    clear b2
    go_wp2_with fail
    refine (HR.out _).mono ?_
    rintro e w3 ⟨rfl, rfl⟩
    go_wp2
    go_ret
    exact ⟨by simp, B2.out⟩
set_option maxRecDepth 100000 in
set_option maxHeartbeats 1000000 in
theorem keeps_18 (f r p : Int) (u : Bool) (m : Mg) (a1 a2 : Option Addr) (nl cl nv cv : Nat) (at_ : Int) (w : World) (hf1 : 1 ≤ f) (hf2 : f ≤ 3) (L : List En) (h : SlY yE w a1 nl cl L) (hfit : ∀ e ∈ L, e.fits) : Calls Tryz.prog 31 #[.agg #[.int .i64 f, .int .i64 r, .int .i64 p, .bool u], m.val (.slice a1 nl cl) (.slice a2 nv cv), .int .i64 at_, .int .u8 18] w fun e w' => e = .returned (.bool (decide ((chk L r).1 = 0))) ∧ Below w.heap.size w w' := by
  go_enter Tryz.func31, Tryz.ntmps31
  go_upto_region 1 with (refine boxMk rfl (.tmp 1) rfl m _ _ rfl ?_; intro q1 w1 hq1 M1 b1 z1)
  have hB : Below w.heap.size w w1 := ((Below.refl _ _).alloc (Nat.le_refl _) _).trans (b1.mono (by simp))
  have HB := hide hB
  have c0 : w1.cell? ⟨w.heap.size, 0, none⟩ = some (.int .i64 f) := (b1.cell (p := ⟨w.heap.size, 0, none⟩) (by simp)).trans (by simp)
  have c1 : w1.cell? ⟨w.heap.size, 1, none⟩ = some (.int .i64 r) := (b1.cell (p := ⟨w.heap.size, 1, none⟩) (by simp)).trans (by simp)
  have hq2 : q1 = w.heap.size + 1 := by first | exact hq1 | simpa using hq1
  subst hq2
  have x16 := M1.cell 16 _ rfl
  clear M1 b1 z1 hB hq1
  go_wp2_with fail
  refine (logMayBe_any L a1 nl cl r _ (h.bel HB.out (Nat.le_refl _)) hfit).mono ?_
  rintro e w2 ⟨rfl, b2⟩
  have B2 := hide (HB.out.trans (b2.mono HB.out.size))
  clear b2
  go_wp2
  go_ret
  exact ⟨rfl, B2.out⟩
set_option maxRecDepth 100000 in
set_option maxHeartbeats 1000000 in
theorem keeps_13 (f r p : Int) (u : Bool) (m : Mg) (a1 a2 : Option Addr) (nl cl nv cv : Nat) (at_ : Int) (w : World) (hf1 : 1 ≤ f) (hf2 : f ≤ 3) (hfe : m.e.fits) : Calls Tryz.prog 31 #[.agg #[.int .i64 f, .int .i64 r, .int .i64 p, .bool u], m.val (.slice a1 nl cl) (.slice a2 nv cv), .int .i64 at_, .int .u8 13] w fun e w' => e = .returned (.bool (decide ((chk [m.e] 1).1 = 0))) ∧ Below w.heap.size w w' := by
  go_enter Tryz.func31, Tryz.ntmps31
  go_upto_region 1 with (refine boxMk rfl (.tmp 1) rfl m _ _ rfl ?_; intro q1 w1 hq1 M1 b1 z1)
  have hB : Below w.heap.size w w1 := ((Below.refl _ _).alloc (Nat.le_refl _) _).trans (b1.mono (by simp))
  have HB := hide hB
  have c0 : w1.cell? ⟨w.heap.size, 0, none⟩ = some (.int .i64 f) := (b1.cell (p := ⟨w.heap.size, 0, none⟩) (by simp)).trans (by simp)
  have c1 : w1.cell? ⟨w.heap.size, 1, none⟩ = some (.int .i64 r) := (b1.cell (p := ⟨w.heap.size, 1, none⟩) (by simp)).trans (by simp)
  have hq2 : q1 = w.heap.size + 1 := by first | exact hq1 | simpa using hq1
  subst hq2
  have x3 := M1.cell 3 _ rfl
  have x4 := M1.cell 4 _ rfl
  have x5 := M1.cell 5 _ rfl
  have x6 := M1.cell 6 _ rfl
  have x7 := M1.cell 7 _ rfl
  clear M1 b1 z1 hB hq1
  go_wp2_with fail
  refine (logMayBe_any [m.e] _ _ _ _ _ (sl_box (Y := yE) w1 m.e 28) (fun e he => by rw [List.mem_singleton.1 he]; exact hfe)).mono ?_
  rintro e w2 ⟨rfl, b2⟩
  have B2 := hide ((HB.out.alloc HB.out.size _).trans (b2.mono (by have := HB.out.size; simp; omega)))
  clear b2
  go_wp2
  go_ret
  exact ⟨rfl, B2.out⟩
def prB (f : Int) (m : Mg) : Bool := decide (m.nd = m.vw.tmod (2 * f + 1))
set_option maxRecDepth 100000 in
set_option maxHeartbeats 1000000 in
theorem keeps_2 (f r p : Int) (u : Bool) (m : Mg) (a1 a2 : Option Addr) (nl cl nv cv : Nat) (at_ : Int) (w : World) (hf1 : 1 ≤ f) (hf2 : f ≤ 3) : Calls Tryz.prog 31 #[.agg #[.int .i64 f, .int .i64 r, .int .i64 p, .bool u], m.val (.slice a1 nl cl) (.slice a2 nv cv), .int .i64 at_, .int .u8 2] w fun e w' => e = .returned (.bool (prB f m)) ∧ Below w.heap.size w w' := by
  have hn0 : ¬ (2 * f + 1 = 0) := by omega
  by_cases h : m.nd = m.vw.tmod (2 * f + 1)
  · have V : Hid (prB f m = true) := decide_eq_true h
    have hq : (m.nd == m.vw.tmod (2 * f + 1)) = true := by simp [← h]
    clear h
    go_enter Tryz.func31, Tryz.ntmps31
    go_upto_region 1 with (refine boxMk rfl (.tmp 1) rfl m _ _ rfl ?_; intro q1 w1 hq1 M1 b1 z1)
    have hB : Below w.heap.size w w1 := ((Below.refl _ _).alloc (Nat.le_refl _) _).trans (b1.mono (by simp))
    have HB := hide hB
    have c0 : w1.cell? ⟨w.heap.size, 0, none⟩ = some (.int .i64 f) := (b1.cell (p := ⟨w.heap.size, 0, none⟩) (by simp)).trans (by simp)
    have c1 : w1.cell? ⟨w.heap.size, 1, none⟩ = some (.int .i64 r) := (b1.cell (p := ⟨w.heap.size, 1, none⟩) (by simp)).trans (by simp)
    have hq2 : q1 = w.heap.size + 1 := by first | exact hq1 | simpa using hq1
    subst hq2
    have x1 := M1.cell 1 _ rfl
    have x2 := M1.cell 2 _ rfl
    clear M1 b1 z1 hB hq1
    go_wp2_with fail
    go_quiet (fail)
    go_wp2
    go_ret
    exact ⟨by first | rfl | (rw [V.out]; first | rfl | simp), belN HB.out nq⟩
  · have V : Hid (prB f m = false) := decide_eq_false h
    have hq : (m.nd == m.vw.tmod (2 * f + 1)) = false := by simp [h]
    clear h
    go_enter Tryz.func31, Tryz.ntmps31
    go_upto_region 1 with (refine boxMk rfl (.tmp 1) rfl m _ _ rfl ?_; intro q1 w1 hq1 M1 b1 z1)
    have hB : Below w.heap.size w w1 := ((Below.refl _ _).alloc (Nat.le_refl _) _).trans (b1.mono (by simp))
    have HB := hide hB
    have c0 : w1.cell? ⟨w.heap.size, 0, none⟩ = some (.int .i64 f) := (b1.cell (p := ⟨w.heap.size, 0, none⟩) (by simp)).trans (by simp)
    have c1 : w1.cell? ⟨w.heap.size, 1, none⟩ = some (.int .i64 r) := (b1.cell (p := ⟨w.heap.size, 1, none⟩) (by simp)).trans (by simp)
    have hq2 : q1 = w.heap.size + 1 := by first | exact hq1 | simpa using hq1
    subst hq2
    have x1 := M1.cell 1 _ rfl
    have x2 := M1.cell 2 _ rfl
    clear M1 b1 z1 hB hq1
    go_wp2_with fail
    go_quiet (fail)
    go_wp2
    go_ret
    exact ⟨by first | rfl | (rw [V.out]; first | rfl | simp), belN HB.out nq⟩
set_option maxRecDepth 100000 in
set_option maxHeartbeats 1000000 in
theorem keeps_11 (f r p : Int) (u : Bool) (m : Mg) (a1 a2 : Option Addr) (nl cl nv cv : Nat) (at_ : Int) (w : World) (hf1 : 1 ≤ f) (hf2 : f ≤ 3) : Calls Tryz.prog 31 #[.agg #[.int .i64 f, .int .i64 r, .int .i64 p, .bool u], m.val (.slice a1 nl cl) (.slice a2 nv cv), .int .i64 at_, .int .u8 11] w fun e w' => e = .returned (.bool (!decide (m.d = (0, 0)))) ∧ Below w.heap.size w w' := by
  by_cases g14 : m.d.1 = 0
  · by_cases g15 : m.d.2 = 0
    · have V : Hid ((!decide (m.d = (0, 0))) = false) := by
        show _ = _
        have : m.d = (0, 0) := Prod.ext g14 g15
        simp [this]
      go_enter Tryz.func31, Tryz.ntmps31
      go_upto_region 1 with (refine boxMk rfl (.tmp 1) rfl m _ _ rfl ?_; intro q1 w1 hq1 M1 b1 z1)
      have hB : Below w.heap.size w w1 := ((Below.refl _ _).alloc (Nat.le_refl _) _).trans (b1.mono (by simp))
      have HB := hide hB
      have c0 : w1.cell? ⟨w.heap.size, 0, none⟩ = some (.int .i64 f) := (b1.cell (p := ⟨w.heap.size, 0, none⟩) (by simp)).trans (by simp)
      have c1 : w1.cell? ⟨w.heap.size, 1, none⟩ = some (.int .i64 r) := (b1.cell (p := ⟨w.heap.size, 1, none⟩) (by simp)).trans (by simp)
      have hq2 : q1 = w.heap.size + 1 := by first | exact hq1 | simpa using hq1
      subst hq2
      have x14 := M1.cell 14 _ rfl
      rw [g14] at x14
      have x15 := M1.cell 15 _ rfl
      rw [g15] at x15
      clear M1 b1 z1 hB hq1
      go_wp2
      go_ret
      exact ⟨by first | rfl | (rw [V.out]; first | rfl | simp), HB.out⟩
    · have V : Hid ((!decide (m.d = (0, 0))) = true) := by
        show _ = _
        have : m.d ≠ (0, 0) := fun h => g15 (by rw [h])
        simp [this]
      have hq : (m.d.2 == 0) = false := by simp [g15]
      go_enter Tryz.func31, Tryz.ntmps31
      go_upto_region 1 with (refine boxMk rfl (.tmp 1) rfl m _ _ rfl ?_; intro q1 w1 hq1 M1 b1 z1)
      have hB : Below w.heap.size w w1 := ((Below.refl _ _).alloc (Nat.le_refl _) _).trans (b1.mono (by simp))
      have HB := hide hB
      have c0 : w1.cell? ⟨w.heap.size, 0, none⟩ = some (.int .i64 f) := (b1.cell (p := ⟨w.heap.size, 0, none⟩) (by simp)).trans (by simp)
      have c1 : w1.cell? ⟨w.heap.size, 1, none⟩ = some (.int .i64 r) := (b1.cell (p := ⟨w.heap.size, 1, none⟩) (by simp)).trans (by simp)
      have hq2 : q1 = w.heap.size + 1 := by first | exact hq1 | simpa using hq1
      subst hq2
      have x14 := M1.cell 14 _ rfl
      rw [g14] at x14
      have x15 := M1.cell 15 _ rfl
      clear M1 b1 z1 hB hq1
      go_wp2
      go_ret
      exact ⟨by first | rfl | (rw [V.out]; first | rfl | simp), HB.out⟩
  · have V : Hid ((!decide (m.d = (0, 0))) = true) := by
      show _ = _
      have : m.d ≠ (0, 0) := fun h => g14 (by rw [h])
      simp [this]
    have hq : (m.d.1 == 0) = false := by simp [g14]
    go_enter Tryz.func31, Tryz.ntmps31
    go_upto_region 1 with (refine boxMk rfl (.tmp 1) rfl m _ _ rfl ?_; intro q1 w1 hq1 M1 b1 z1)
    have hB : Below w.heap.size w w1 := ((Below.refl _ _).alloc (Nat.le_refl _) _).trans (b1.mono (by simp))
    have HB := hide hB
    have c0 : w1.cell? ⟨w.heap.size, 0, none⟩ = some (.int .i64 f) := (b1.cell (p := ⟨w.heap.size, 0, none⟩) (by simp)).trans (by simp)
    have c1 : w1.cell? ⟨w.heap.size, 1, none⟩ = some (.int .i64 r) := (b1.cell (p := ⟨w.heap.size, 1, none⟩) (by simp)).trans (by simp)
    have hq2 : q1 = w.heap.size + 1 := by first | exact hq1 | simpa using hq1
    subst hq2
    have x14 := M1.cell 14 _ rfl
    have x15 := M1.cell 15 _ rfl
    clear M1 b1 z1 hB hq1
    go_wp2
    go_ret
    exact ⟨by first | rfl | (rw [V.out]; first | rfl | simp), HB.out⟩
set_option maxRecDepth 100000 in
set_option maxHeartbeats 1000000 in
theorem keeps_14 (f r p : Int) (u : Bool) (m : Mg) (a1 a2 : Option Addr) (nl cl nv cv : Nat) (at_ : Int) (w : World) (hf1 : 1 ≤ f) (hf2 : f ≤ 3) (hfe : m.e.fits) : Calls Tryz.prog 31 #[.agg #[.int .i64 f, .int .i64 r, .int .i64 p, .bool u], m.val (.slice a1 nl cl) (.slice a2 nv cv), .int .i64 at_, .int .u8 14] w fun e w' => e = .returned (.bool (decide ((chk [m.e] 1).1 = 0) && (decide (m.e.o.k = 3) || decide (m.e.o.k = 4)))) ∧ Below w.heap.size w w' := by
  by_cases hc : (chk [m.e] 1).1 = 0
  · have VC := hide (decide_eq_true hc)
    by_cases h3 : m.e.o.k = 3
    · have V : Hid ((decide ((chk [m.e] 1).1 = 0) && (decide (m.e.o.k = 3) || decide (m.e.o.k = 4))) = true) := by
        show _ = _
        rw [VC.out, decide_eq_true h3]; rfl
      have hq3 : (m.e.o.k == 3) = true := by simp [h3]
      clear h3 hc
      go_enter Tryz.func31, Tryz.ntmps31
      go_upto_region 1 with (refine boxMk rfl (.tmp 1) rfl m _ _ rfl ?_; intro q1 w1 hq1 M1 b1 z1)
      have hB : Below w.heap.size w w1 := ((Below.refl _ _).alloc (Nat.le_refl _) _).trans (b1.mono (by simp))
      have HB := hide hB
      have c0 : w1.cell? ⟨w.heap.size, 0, none⟩ = some (.int .i64 f) := (b1.cell (p := ⟨w.heap.size, 0, none⟩) (by simp)).trans (by simp)
      have c1 : w1.cell? ⟨w.heap.size, 1, none⟩ = some (.int .i64 r) := (b1.cell (p := ⟨w.heap.size, 1, none⟩) (by simp)).trans (by simp)
      have hq2 : q1 = w.heap.size + 1 := by first | exact hq1 | simpa using hq1
      subst hq2
      have x3 := M1.cell 3 _ rfl
      have x4 := M1.cell 4 _ rfl
      have x5 := M1.cell 5 _ rfl
      have x6 := M1.cell 6 _ rfl
      have x7 := M1.cell 7 _ rfl
      have hz1 : w.heap.size + 1 < w1.heap.size := M1.lt
      clear M1 b1 z1 hB hq1
      go_wp2_with fail
      refine (logMayBe_any [m.e] _ _ _ _ _ (sl_box (Y := yE) w1 m.e 28) (fun e he => by rw [List.mem_singleton.1 he]; exact hfe)).mono ?_
      rintro e w2 ⟨rfl, b2⟩
      have b3 : Below w1.heap.size w1 w2 := ((Below.refl _ _).alloc (Nat.le_refl _) _).trans (b2.mono (by simp))
      have y5 := (b3.cell (p := ⟨w.heap.size + 1, 5, none⟩) hz1).trans x5
      have B2 := hide (HB.out.trans (b3.mono HB.out.size))
      rw [VC.out]
      clear b2 b3
      go_wp2
      go_ret
      exact ⟨by first | rfl | (rw [V.out]; first | rfl | simp), B2.out⟩
    · by_cases h4 : m.e.o.k = 4
      · have V : Hid ((decide ((chk [m.e] 1).1 = 0) && (decide (m.e.o.k = 3) || decide (m.e.o.k = 4))) = true) := by
          show _ = _
          rw [VC.out, decide_eq_true h4, decide_eq_false h3]; rfl
        have hq3 : (m.e.o.k == 3) = false := by simp [h3]
        have hq4 : (m.e.o.k == 4) = true := by simp [h4]
        clear h3 h4 hc
        go_enter Tryz.func31, Tryz.ntmps31
        go_upto_region 1 with (refine boxMk rfl (.tmp 1) rfl m _ _ rfl ?_; intro q1 w1 hq1 M1 b1 z1)
        have hB : Below w.heap.size w w1 := ((Below.refl _ _).alloc (Nat.le_refl _) _).trans (b1.mono (by simp))
        have HB := hide hB
        have c0 : w1.cell? ⟨w.heap.size, 0, none⟩ = some (.int .i64 f) := (b1.cell (p := ⟨w.heap.size, 0, none⟩) (by simp)).trans (by simp)
        have c1 : w1.cell? ⟨w.heap.size, 1, none⟩ = some (.int .i64 r) := (b1.cell (p := ⟨w.heap.size, 1, none⟩) (by simp)).trans (by simp)
        have hq2 : q1 = w.heap.size + 1 := by first | exact hq1 | simpa using hq1
        subst hq2
        have x3 := M1.cell 3 _ rfl
        have x4 := M1.cell 4 _ rfl
        have x5 := M1.cell 5 _ rfl
        have x6 := M1.cell 6 _ rfl
        have x7 := M1.cell 7 _ rfl
        have hz1 : w.heap.size + 1 < w1.heap.size := M1.lt
        clear M1 b1 z1 hB hq1
        go_wp2_with fail
        refine (logMayBe_any [m.e] _ _ _ _ _ (sl_box (Y := yE) w1 m.e 28) (fun e he => by rw [List.mem_singleton.1 he]; exact hfe)).mono ?_
        rintro e w2 ⟨rfl, b2⟩
        have b3 : Below w1.heap.size w1 w2 := ((Below.refl _ _).alloc (Nat.le_refl _) _).trans (b2.mono (by simp))
        have y5 := (b3.cell (p := ⟨w.heap.size + 1, 5, none⟩) hz1).trans x5
        have B2 := hide (HB.out.trans (b3.mono HB.out.size))
        rw [VC.out]
        clear b2 b3
        go_wp2
        go_ret
        exact ⟨by first | rfl | (rw [V.out]; first | rfl | simp), B2.out⟩
      · have V : Hid ((decide ((chk [m.e] 1).1 = 0) && (decide (m.e.o.k = 3) || decide (m.e.o.k = 4))) = false) := by
          show _ = _
          rw [VC.out, decide_eq_false h4, decide_eq_false h3]; rfl
        have hq3 : (m.e.o.k == 3) = false := by simp [h3]
        have hq4 : (m.e.o.k == 4) = false := by simp [h4]
        clear h3 h4 hc
        go_enter Tryz.func31, Tryz.ntmps31
        go_upto_region 1 with (refine boxMk rfl (.tmp 1) rfl m _ _ rfl ?_; intro q1 w1 hq1 M1 b1 z1)
        have hB : Below w.heap.size w w1 := ((Below.refl _ _).alloc (Nat.le_refl _) _).trans (b1.mono (by simp))
        have HB := hide hB
        have c0 : w1.cell? ⟨w.heap.size, 0, none⟩ = some (.int .i64 f) := (b1.cell (p := ⟨w.heap.size, 0, none⟩) (by simp)).trans (by simp)
        have c1 : w1.cell? ⟨w.heap.size, 1, none⟩ = some (.int .i64 r) := (b1.cell (p := ⟨w.heap.size, 1, none⟩) (by simp)).trans (by simp)
        have hq2 : q1 = w.heap.size + 1 := by first | exact hq1 | simpa using hq1
        subst hq2
        have x3 := M1.cell 3 _ rfl
        have x4 := M1.cell 4 _ rfl
        have x5 := M1.cell 5 _ rfl
        have x6 := M1.cell 6 _ rfl
        have x7 := M1.cell 7 _ rfl
        have hz1 : w.heap.size + 1 < w1.heap.size := M1.lt
        clear M1 b1 z1 hB hq1
        go_wp2_with fail
        refine (logMayBe_any [m.e] _ _ _ _ _ (sl_box (Y := yE) w1 m.e 28) (fun e he => by rw [List.mem_singleton.1 he]; exact hfe)).mono ?_
        rintro e w2 ⟨rfl, b2⟩
        have b3 : Below w1.heap.size w1 w2 := ((Below.refl _ _).alloc (Nat.le_refl _) _).trans (b2.mono (by simp))
        have y5 := (b3.cell (p := ⟨w.heap.size + 1, 5, none⟩) hz1).trans x5
        have B2 := hide (HB.out.trans (b3.mono HB.out.size))
        rw [VC.out]
        clear b2 b3
        go_wp2
        go_ret
        exact ⟨by first | rfl | (rw [V.out]; first | rfl | simp), B2.out⟩
  · have VC := hide (decide_eq_false hc)
    have V : Hid ((decide ((chk [m.e] 1).1 = 0) && (decide (m.e.o.k = 3) || decide (m.e.o.k = 4))) = false) := by
      show _ = _
      rw [VC.out]; rfl
    clear hc
    go_enter Tryz.func31, Tryz.ntmps31
    go_upto_region 1 with (refine boxMk rfl (.tmp 1) rfl m _ _ rfl ?_; intro q1 w1 hq1 M1 b1 z1)
    have hB : Below w.heap.size w w1 := ((Below.refl _ _).alloc (Nat.le_refl _) _).trans (b1.mono (by simp))
    have HB := hide hB
    have c0 : w1.cell? ⟨w.heap.size, 0, none⟩ = some (.int .i64 f) := (b1.cell (p := ⟨w.heap.size, 0, none⟩) (by simp)).trans (by simp)
    have c1 : w1.cell? ⟨w.heap.size, 1, none⟩ = some (.int .i64 r) := (b1.cell (p := ⟨w.heap.size, 1, none⟩) (by simp)).trans (by simp)
    have hq2 : q1 = w.heap.size + 1 := by first | exact hq1 | simpa using hq1
    subst hq2
    have x3 := M1.cell 3 _ rfl
    have x4 := M1.cell 4 _ rfl
    have x5 := M1.cell 5 _ rfl
    have x6 := M1.cell 6 _ rfl
    have x7 := M1.cell 7 _ rfl
    have hz1 : w.heap.size + 1 < w1.heap.size := M1.lt
    clear M1 b1 z1 hB hq1
    go_wp2_with fail
    refine (logMayBe_any [m.e] _ _ _ _ _ (sl_box (Y := yE) w1 m.e 28) (fun e he => by rw [List.mem_singleton.1 he]; exact hfe)).mono ?_
    rintro e w2 ⟨rfl, b2⟩
    have b3 : Below w1.heap.size w1 w2 := ((Below.refl _ _).alloc (Nat.le_refl _) _).trans (b2.mono (by simp))
    have y5 := (b3.cell (p := ⟨w.heap.size + 1, 5, none⟩) hz1).trans x5
    have B2 := hide (HB.out.trans (b3.mono HB.out.size))
    rw [VC.out]
    clear b2 b3
    go_wp2
    go_ret
    exact ⟨by first | rfl | (rw [V.out]; first | rfl | simp), B2.out⟩
def nmE (e : En) : En := ⟨e.c, e.n, ⟨4, 0, ⟨#[]⟩⟩⟩
def nmB (e : En) : Bool := (decide (e.o.k = 0) && (decide (e.o.s = 0) && decide (e.o.v = ⟨#[]⟩))) && decide ((chk [nmE e] 1).1 = 0)
theorem nmE_fits {e : En} (h : e.fits) : ∀ x ∈ [nmE e], x.fits := fun x hx => by
  rw [List.mem_singleton.1 hx]
  exact ⟨h.cw, h.nw, ⟨(by decide : (Lit.int .i64 4).wf = true), (by decide : (Lit.int .i64 0).wf = true), Nat.zero_le _⟩⟩
set_option maxRecDepth 100000 in
set_option maxHeartbeats 1000000 in
theorem nameMayBe_any (e : En) (w : World) (hfe : e.fits) : Calls Tryz.prog 79 #[.agg #[.int .i64 e.c, .int .i64 e.n, .int .i64 e.o.k, .int .i64 e.o.s, .string e.o.v]] w fun r w' => r = .returned (.bool (nmB e)) ∧ Below w.heap.size w w' := by
  have HL : Hid (∀ W : World, W.heap.size = w.heap.size + 2 → Calls Tryz.prog 78 #[.slice (some ⟨w.heap.size + 2, 0, none⟩) 1 1, .int .i64 1] (W.alloc (.cells #[.int .i64 e.c, .int .i64 e.n, .int .i64 4, .int .i64 0, .string ⟨#[]⟩] 28)) fun r w' => r = .returned (.bool (decide ((chk [nmE e] 1).1 = 0))) ∧ Below (W.alloc (.cells #[.int .i64 e.c, .int .i64 e.n, .int .i64 4, .int .i64 0, .string ⟨#[]⟩] 28)).heap.size (W.alloc (.cells #[.int .i64 e.c, .int .i64 e.n, .int .i64 4, .int .i64 0, .string ⟨#[]⟩] 28)) w') := fun W hW => by
    have := logMayBe_any [nmE e] _ _ _ 1 _ (sl_box (Y := yE) W (nmE e) 28) (nmE_fits hfe)
    rw [hW] at this
    exact this
  have V0 : Hid (nmB e = ((decide (e.o.k = 0) && (decide (e.o.s = 0) && decide (e.o.v = ⟨#[]⟩))) && decide ((chk [nmE e] 1).1 = 0))) := rfl
  generalize hx : decide ((chk [nmE e] 1).1 = 0) = x at HL V0
  clear hx hfe
  obtain ⟨c, n, ⟨k, s, v⟩⟩ := e
  dsimp only
  by_cases g1 : k = 0
  · by_cases g2 : s = 0
    · by_cases g3 : v = ⟨#[]⟩
      · have V : Hid (nmB ⟨c, n, ⟨k, s, v⟩⟩ = x) := by
          show _ = _
          rw [V0.out]
          subst g1 g2 g3
          simp
        subst g1 g2 g3
        clear V0
        go_enter Tryz.func79, Tryz.ntmps79
        go_wp2_with fail
        refine (HL.out _ (by simp [World.setCell])).mono ?_
        rintro e w2 ⟨rfl, b2⟩
        have B2 : Hid (Below w.heap.size w w2) := by
          refine Below.trans ?_ (b2.mono (by simp [World.setCell] <;> omega))
          repeat (first | exact Below.refl _ _ | refine Below.alloc ?_ (by simp [World.setCell] <;> omega) _ | refine Below.setCell ?_ (by simp) _)
        clear b2 HL
        go_wp2
        go_ret
        exact ⟨by rw [V.out]; first | rfl | simp, B2.out⟩
      · have V : Hid (nmB ⟨c, n, ⟨k, s, v⟩⟩ = false) := by
          show _ = _
          rw [V0.out]
          simp [g3]
        have s7 : ¬ v.toList = (⟨#[]⟩ : ByteArray).toList := fun e => g3 ((bytes_inj _ _).1 e)
        have t7 : v.toList.isEmpty = false := by
          rw [Bool.eq_false_iff]
          intro h
          exact s7 (by rw [List.isEmpty_iff.1 h, ByteArray.toList_eq])
        subst g1 g2
        clear V0 HL
        go_enter Tryz.func79, Tryz.ntmps79
        go_wp2
        go_ret
        exact ⟨by rw [V.out]; first | rfl | simp, by repeat (first | exact Below.refl _ _ | refine Below.alloc ?_ (by simp [World.setCell] <;> omega) _ | refine Below.setCell ?_ (by simp) _)⟩
    · have V : Hid (nmB ⟨c, n, ⟨k, s, v⟩⟩ = false) := by
        show _ = _
        rw [V0.out]
        simp [g2]
      have hq : (s == 0) = false := by simp [g2]
      subst g1
      clear V0 HL
      go_enter Tryz.func79, Tryz.ntmps79
      go_wp2
      go_ret
      exact ⟨by rw [V.out]; first | rfl | simp, by repeat (first | exact Below.refl _ _ | refine Below.alloc ?_ (by simp [World.setCell] <;> omega) _ | refine Below.setCell ?_ (by simp) _)⟩
  · have V : Hid (nmB ⟨c, n, ⟨k, s, v⟩⟩ = false) := by
      show _ = _
      rw [V0.out]
      simp [g1]
    have hq : (k == 0) = false := by simp [g1]
    clear V0 HL
    go_enter Tryz.func79, Tryz.ntmps79
    go_wp2
    go_ret
    exact ⟨by rw [V.out]; first | rfl | simp, by repeat (first | exact Below.refl _ _ | refine Below.alloc ?_ (by simp [World.setCell] <;> omega) _ | refine Below.setCell ?_ (by simp) _)⟩
structure Kept (La Lb : List (SV En)) (Da Db : List (SV (Int × Int))) (n : Nat) : Prop where
  ll : La.length = n
  dl : Da.length = n
  lm : La.map (·.D) = Lb.map (·.D)
  dm : Da.map (·.D) = Db.map (·.D)
structure In (La : List (SV En)) (Da : List (SV (Int × Int))) (L : List En) (D : List (Int × Int)) (n1 n2 : Nat) (s t : Value) : Prop where
  ex : ∃ g c g' c', s = .slice (some ⟨g, 0, none⟩) n1 c ∧ t = .slice (some ⟨g', 0, none⟩) n2 c' ∧ (⟨some ⟨g, 0, none⟩, c, L ++ [mkE]⟩ : SV En) ∈ La ∧ (⟨some ⟨g', 0, none⟩, c', D ++ [mkD]⟩ : SV (Int × Int)) ∈ Da
theorem In.app {La : List (SV En)} {Da : List (SV (Int × Int))} {L : List En} {D : List (Int × Int)} {n1 n2 : Nat} {s t : Value} (h : In La Da L D n1 n2 s t) (x : SV En) (y : SV (Int × Int)) : In (La ++ [x]) (Da ++ [y]) L D n1 n2 s t := by
  obtain ⟨g, c, g', c', e1, e2, e3, e4⟩ := h.ex
  exact ⟨g, c, g', c', e1, e2, by simp [e3], by simp [e4]⟩
theorem In.one {La : List (SV En)} {Da : List (SV (Int × Int))} {L : List En} {D : List (Int × Int)} {n1 n2 : Nat} {s t : Value} (h : In La Da L D n1 n2 s t) : s.oneCell' = true ∧ t.oneCell' = true := by
  obtain ⟨g, c, g', c', e1, e2, _⟩ := h.ex
  rw [e1, e2]
  exact ⟨rfl, rfl⟩
def pt (q : Nat) : Value := .pointer (some ⟨q, 0, none⟩)
def nS : Value := .slice none 0 0
structure RI (T0 : Array Value) (w0 : World) (qa qb b B : Nat) (m m' : Mg) (s t s' t' : Value) (n1 n2 m1 m2 : Nat) (L L' : List En) (D D' : List (Int × Int)) (x0 x1 x2 x3 x4 x5 : Bool) (a : Act) (w : World) : Prop where
  df : a.defers = []
  sz : a.tmps.size = T0.size
  fr : ∀ i, i < 6 ∨ i = 8 ∨ 12 < i → a.tmps[i]? = T0[i]?
  l0 : x0 = true → a.tmps[9]? = some (m.val s t)
  l2 : x2 = true → a.tmps[11]? = some (m'.val s' t')
  bl : Below w0.heap.size w0 w
  ba : MBox w qa m s t
  bb : MBox w qb m' s' t'
  ord : x3 = true → x1 = true
  ord2 : x3 = true → x2 = true
  g : ∃ v2 v3 v4 v5 Da Db La Lb, GM w b B v2 v3 v4 v5 Da Db La Lb ∧ Kept La Lb Da Db (if x3 then 2 else if x1 then 1 else 0) ∧ (x1 = true → ∃ ss tt, a.tmps[10]? = some (m.val ss tt) ∧ In La Da L D n1 n2 ss tt) ∧ (x3 = true → ∃ ss tt, a.tmps[12]? = some (m'.val ss tt) ∧ In La Da L' D' m1 m2 ss tt)
  p6 : x4 = true → ∃ p, a.tmps[6]? = some (pt p) ∧ p ≠ qa ∧ p ≠ qb ∧ b ≠ p ∧ w0.heap.size ≤ p ∧ MBox w p zM nS nS
  p7 : x5 = true → ∃ p, a.tmps[7]? = some (pt p) ∧ p ≠ qa ∧ p ≠ qb ∧ b ≠ p ∧ w0.heap.size ≤ p ∧ MBox w p zM nS nS
  ne : x4 = true → x5 = true → a.tmps[6]? ≠ a.tmps[7]?
structure RJ (T0 : Array Value) (w0 : World) (qa qb b B : Nat) (m m' : Mg) (s t s' t' : Value) (n1 n2 m1 m2 : Nat) (L L' : List En) (D D' : List (Int × Int)) (x7 : Bool) (a : Act) (w : World) : Prop where
  df : a.defers = []
  sz : a.tmps.size = T0.size
  fr : ∀ i, i < 6 ∨ i = 8 ∨ 12 < i → a.tmps[i]? = T0[i]?
  bl : Below w0.heap.size w0 w
  ba : MBox w qa m s t
  bb : MBox w qb m' s' t'
  g : ∃ v2 v3 v4 v5 Da Db La Lb p6 p7 ss tt ss' tt', GM w b B v2 v3 v4 v5 Da Db La Lb ∧ Kept La Lb Da Db 2 ∧ In La Da L D n1 n2 ss tt ∧ In La Da L' D' m1 m2 ss' tt' ∧ a.tmps[6]? = some (pt p6) ∧ a.tmps[7]? = some (pt p7) ∧ p7 ≠ p6 ∧ p6 ≠ qa ∧ p6 ≠ qb ∧ p7 ≠ qa ∧ p7 ≠ qb ∧ b ≠ p6 ∧ b ≠ p7 ∧ w0.heap.size ≤ p7 ∧ MBox w p6 m ss tt ∧ (if x7 then MBox w p7 m' ss' tt' else MBox w p7 zM nS nS ∧ a.tmps[12]? = some (m'.val ss' tt'))
theorem GM.msg {w w' : World} {b B q : Nat} {v2 v3 v4 v5 : Value} {Da Db : List (SV (Int × Int))} {La Lb : List (SV En)} {m : Mg} {s t : Value} (G : GM w b B v2 v3 v4 v5 Da Db La Lb) (hM' : MBox w q m s t) (hb : b ≠ q) (u : Upd (fun k => k = q) w w') : GM w' b B v2 v3 v4 v5 Da Db La Lb :=
  G.upd u hb (by
    rintro k c f T hk hT rfl
    obtain ⟨c', f', hk'⟩ := hM'.kind
    rw [hk'] at hk
    injection hk with hk
    injection hk with _ hk
    exact hM T hT hk.symm)
theorem RI.store {T0 : Array Value} {w0 : World} {qa qb b B : Nat} {m m' : Mg} {s t s' t' : Value} {n1 n2 m1 m2 : Nat} {L L' : List En} {D D' : List (Int × Int)}  {a : Act} {w : World} (h : RI T0 w0 qa qb b B m m' s t s' t' n1 n2 m1 m2 L L' D D' true true true true true true a w) (hw : w0.heap.size ≤ qa) {w' : World} {p6 : Nat} {ss tt : Value} (e6 : a.tmps[6]? = some (pt p6)) (e10 : a.tmps[10]? = some (m.val ss tt)) (hM' : MBox w' p6 m ss tt) (u : Upd (fun k => k = p6) w w') (hp6 : w0.heap.size ≤ p6) : RJ T0 w0 qa qb b B m m' s t s' t' n1 n2 m1 m2 L L' D D' false a w' := by
  obtain ⟨v2, v3, v4, v5, Da, Db, La, Lb, G, K, g1, g3⟩ := h.g
  obtain ⟨ss1, tt1, f1, I1⟩ := g1 rfl
  obtain ⟨ss2, tt2, f2, I2⟩ := g3 rfl
  obtain ⟨q6, j1, j2, j3, j4, j9, j5⟩ := h.p6 rfl
  obtain ⟨q7, k1, k2, k3, k4, k9, k5⟩ := h.p7 rfl
  rw [e6] at j1
  have : p6 = q6 := by
    injection j1 with j1
    injection j1 with j1
    injection j1 with j1
    injection j1 with j1
  subst this
  rw [e10] at f1
  have hne : q7 ≠ p6 := fun e => h.ne rfl rfl (by rw [e6, k1, e])
  have hv : m.val ss tt = m.val ss1 tt1 := Option.some.inj f1
  have hs : ss = ss1 ∧ tt = tt1 := by
    unfold Mg.val at hv
    injection hv with hv
    simp at hv
    exact hv
  obtain ⟨rfl, rfl⟩ := hs
  exact ⟨h.df, h.sz, h.fr, h.bl.trans (u.below h.bl.size (fun k hk => by omega)), h.ba.upd u (fun e => j2 e.symm), h.bb.upd u (fun e => j3 e.symm), ⟨v2, v3, v4, v5, Da, Db, La, Lb, p6, q7, ss, tt, ss2, tt2, G.msg j5 j4 u, K, I1, I2, e6, k1, hne, j2, j3, k2, k3, j4, k4, k9, hM', ⟨k5.upd u hne, f2⟩⟩⟩
theorem RJ.store {T0 : Array Value} {w0 : World} {qa qb b B : Nat} {m m' : Mg} {s t s' t' : Value} {n1 n2 m1 m2 : Nat} {L L' : List En} {D D' : List (Int × Int)} {a : Act} {w : World} (h : RJ T0 w0 qa qb b B m m' s t s' t' n1 n2 m1 m2 L L' D D' false a w) (hw : w0.heap.size ≤ qa) :
    ∃ p7 ss' tt', a.tmps[7]? = some (pt p7) ∧ a.tmps[12]? = some (m'.val ss' tt') ∧ ss'.oneCell' = true ∧ tt'.oneCell' = true ∧ MBox w p7 zM nS nS ∧ ∀ w', MBox w' p7 m' ss' tt' → Upd (fun k => k = p7) w w' → RJ T0 w0 qa qb b B m m' s t s' t' n1 n2 m1 m2 L L' D D' true a w' := by
  obtain ⟨v2, v3, v4, v5, Da, Db, La, Lb, p6, p7, ss, tt, ss', tt', G, K, I1, I2, e6, e7, ne, f1, f2, f3, f4, f5, f6, f9, M6, M7⟩ := h.g
  obtain ⟨M7, e12⟩ : MBox w p7 zM nS nS ∧ a.tmps[12]? = some (m'.val ss' tt') := M7
  refine ⟨p7, ss', tt', e7, e12, I2.one.1, I2.one.2, M7, fun w' hM' u => ?_⟩
  exact ⟨h.df, h.sz, h.fr, h.bl.trans (u.below h.bl.size (fun k hk => by omega)), h.ba.upd u (fun e => f3 e.symm), h.bb.upd u (fun e => f4 e.symm), ⟨v2, v3, v4, v5, Da, Db, La, Lb, p6, p7, ss, tt, ss', tt', G.msg M7 f6 u, K, I1, I2, e6, e7, ne, f1, f2, f3, f4, f5, f6, f9, M6.upd u (fun e => ne e.symm), hM'⟩⟩
theorem region_qC8 {P : Program} {C : World → Prop} {id : Nat} {Q : Exit → Act → World → Prop} {a : Act} {w : World} {l : List Oper} (hm : P.follows .mixedOrders = true) (hB : Region.lexB .any l.toArray = true) (hC : C w.drew)
    (h : wpQuiet P l.toArray C (fun a' => ∀ w', C w' → Q .normal a' w') l a) : (Code.region id l.toArray true).wp P Q a w :=
  wp_region_quiet (C := C) hm hB hC (by simpa using h)
theorem wq_val {ops : Array Oper} {rest : List Oper} {o : Oper} {a : Act} {C : World → Prop} {Q : Act → Prop} {u : Value} (hw : Region.wanted o (yielded ops a.tmps) = true) (h : ∀ v, (execOp a.eval o).run Tryz.prog v = .ok (.value u) v) (hk : wpQuiet Tryz.prog ops C Q rest (a.put o.dst u)) : wpQuiet Tryz.prog ops C Q (o :: rest) a :=
  BigFrame.wpQuiet_want hw (fun K hK => ⟨u, fun v _ => by unfold Oper.quietAt; rw [h v]; exact ⟨rfl, rfl⟩, hK _ hk⟩)
theorem wq_call {ops : Array Oper} {rest : List Oper} {o : Oper} {a : Act} {C : World → Prop} {Q : Act → Prop} {fid : FuncId} {args : Array Value} {u : Value} (hw : Region.wanted o (yielded ops a.tmps) = true) (hr : ∀ v, (execOp a.eval o).run Tryz.prog v = .ok (.enter fid args) v) (hc : ∀ v, C v → Calls Tryz.prog fid args v (fun e w' => e = .returned u ∧ C w')) (hk : wpQuiet Tryz.prog ops C Q rest (a.put o.dst u)) : wpQuiet Tryz.prog ops C Q (o :: rest) a :=
  BigFrame.wpQuiet_want hw (fun K hK => ⟨u, fun v hv => by unfold Oper.quietAt; rw [hr v]; exact ⟨rfl, hc v hv⟩, hK _ hk⟩)
theorem SlY.apart0 {α : Type} {Y : Lay α} {w : World} {a : Option Addr} {n c : Nat} {l : List α} (h : SlY Y w a n c l) : ∀ z, a = some z → l ≠ [] → z.block < w.heap.size := fun z hz hne => by
  rcases h.at_ z hz with e | ⟨q, o, rfl, hq, _⟩
  · exact absurd e hne
  · exact hq
def plB (f r : Int) (m : Mg) (L : List En) : Bool := decide (L.length = 0) || (prB f m && decide ((chk L r).1 = 0))
theorem wq_valC {ops : Array Oper} {rest : List Oper} {o : Oper} {a : Act} {C : World → Prop} {Q : Act → Prop} {u : Value} (hw : Region.wanted o (yielded ops a.tmps) = true) (h : ∀ v, C v → (execOp a.eval o).run Tryz.prog v = .ok (.value u) v) (hk : wpQuiet Tryz.prog ops C Q rest (a.put o.dst u)) : wpQuiet Tryz.prog ops C Q (o :: rest) a :=
  BigFrame.wpQuiet_want hw (fun K hK => ⟨u, fun v hv => by unfold Oper.quietAt; rw [h v hv]; exact ⟨rfl, rfl⟩, hK _ hk⟩)
set_option maxRecDepth 100000 in
set_option maxHeartbeats 8000000 in
theorem keeps_19 (f r p : Int) (u : Bool) (m : Mg) (a1 a2 : Option Addr) (nl cl nv cv : Nat) (at_ : Int) (w : World) (hf1 : 1 ≤ f) (hf2 : f ≤ 3) (L : List En) (h : SlY yE w a1 nl cl L) (hfit : ∀ e ∈ L, e.fits) : Calls Tryz.prog 31 #[.agg #[.int .i64 f, .int .i64 r, .int .i64 p, .bool u], m.val (.slice a1 nl cl) (.slice a2 nv cv), .int .i64 at_, .int .u8 19] w fun e w' => e = .returned (.bool (plB f r m L)) ∧ Below w.heap.size w w' := by
  have hlen := h.len
  have HS := hide h
  have hn0 : ¬ (2 * f + 1 = 0) := by omega
  clear h
  by_cases hl : nl = 0
  · have V : Hid (plB f r m L = true) := by
      show _ = _
      unfold plB
      rw [hlen, decide_eq_true hl]; rfl
    subst hl
    go_enter Tryz.func31, Tryz.ntmps31
    go_upto_region 1 with (refine boxMk rfl (.tmp 1) rfl m _ _ rfl ?_; intro q1 w1 hq1 M1 b1 z1)
    have hB : Below w.heap.size w w1 := ((Below.refl _ _).alloc (Nat.le_refl _) _).trans (b1.mono (by simp))
    have HB := hide hB
    have c0 : w1.cell? ⟨w.heap.size, 0, none⟩ = some (.int .i64 f) := (b1.cell (p := ⟨w.heap.size, 0, none⟩) (by simp)).trans (by simp)
    have c1 : w1.cell? ⟨w.heap.size, 1, none⟩ = some (.int .i64 r) := (b1.cell (p := ⟨w.heap.size, 1, none⟩) (by simp)).trans (by simp)
    have hq2 : q1 = w.heap.size + 1 := by first | exact hq1 | simpa using hq1
    subst hq2
    have x16 := M1.cell 16 _ rfl
    have x1 := M1.cell 1 _ rfl
    have x2 := M1.cell 2 _ rfl
    have hz1 : w.heap.size + 1 < w1.heap.size := M1.lt
    clear M1 b1 z1 hB hq1
    go_wp2_with fail
    go_quiet (fail)
    go_wp2
    go_ret
    exact ⟨by first | rfl | (rw [V.out]; first | rfl | simp), belN HB.out nq⟩
  · have hl' : ¬ ((nl : Int) = 0) := by omega
    have hq0 : ((nl : Int) == 0) = false := by simp [hl]
    by_cases hp : m.nd = m.vw.tmod (2 * f + 1)
    · have V : Hid (plB f r m L = decide ((chk L r).1 = 0)) := by
        show _ = _
        unfold plB prB
        rw [hlen, decide_eq_false hl, decide_eq_true hp]; simp
      have hq : (m.nd == m.vw.tmod (2 * f + 1)) = true := by simp [← hp]
      clear hp
      go_enter Tryz.func31, Tryz.ntmps31
      go_upto_region 1 with (refine boxMk rfl (.tmp 1) rfl m _ _ rfl ?_; intro q1 w1 hq1 M1 b1 z1)
      have hB : Below w.heap.size w w1 := ((Below.refl _ _).alloc (Nat.le_refl _) _).trans (b1.mono (by simp))
      have HB := hide hB
      have c0 : w1.cell? ⟨w.heap.size, 0, none⟩ = some (.int .i64 f) := (b1.cell (p := ⟨w.heap.size, 0, none⟩) (by simp)).trans (by simp)
      have c1 : w1.cell? ⟨w.heap.size, 1, none⟩ = some (.int .i64 r) := (b1.cell (p := ⟨w.heap.size, 1, none⟩) (by simp)).trans (by simp)
      have hq2 : q1 = w.heap.size + 1 := by first | exact hq1 | simpa using hq1
      subst hq2
      have x16 := M1.cell 16 _ rfl
      have x1 := M1.cell 1 _ rfl
      have x2 := M1.cell 2 _ rfl
      have hz1 : w.heap.size + 1 < w1.heap.size := M1.lt
      clear M1 b1 z1 hB hq1
      go_wp2_with fail
      have X16 := hide x16
      have X1 := hide x1
      have X2 := hide x2
      have C1 := hide c1
      refine region_qC8 (C := fun v => Below w1.heap.size w1 v) (by kernel_rfl) (by kernel_rfl) (Below.refl _ _).drew ?_
      clear x16 x1 x2 c1 c0
      refine wq_valC (u := .pointer (some ⟨w.heap.size + 1, 16, none⟩)) rfl (fun v hv => by go_simp) ?_
      simp only [Act.put, List.setIfInBounds_toArray, List.set_cons_zero, List.set_cons_succ]
      refine wq_valC (u := .slice a1 nl cl) rfl (fun v hv => by have e := (hv.cell (p := ⟨w.heap.size + 1, 16, none⟩) hz1).trans X16.out; go_simp) ?_
      simp only [Act.put, List.setIfInBounds_toArray, List.set_cons_zero, List.set_cons_succ]
      refine wq_valC (u := .int .i64 (nl : Int)) rfl (fun v hv => by go_simp) ?_
      simp only [Act.put, List.setIfInBounds_toArray, List.set_cons_zero, List.set_cons_succ]
      refine wq_valC (u := .bool false) rfl (fun v hv => by go_simp) ?_
      simp only [Act.put, List.setIfInBounds_toArray, List.set_cons_zero, List.set_cons_succ]
      refine wq_valC (u := .bool false) rfl (fun v hv => by rfl) ?_
      simp only [Act.put, List.setIfInBounds_toArray, List.set_cons_zero, List.set_cons_succ]
      refine wq_valC (u := .pointer (some ⟨w.heap.size + 1, 1, none⟩)) rfl (fun v hv => by go_simp) ?_
      simp only [Act.put, List.setIfInBounds_toArray, List.set_cons_zero, List.set_cons_succ]
      refine wq_valC (u := .int .i64 m.nd) rfl (fun v hv => by have e := (hv.cell (p := ⟨w.heap.size + 1, 1, none⟩) hz1).trans X1.out; go_simp) ?_
      simp only [Act.put, List.setIfInBounds_toArray, List.set_cons_zero, List.set_cons_succ]
      refine wq_valC (u := .pointer (some ⟨w.heap.size + 1, 2, none⟩)) rfl (fun v hv => by go_simp) ?_
      simp only [Act.put, List.setIfInBounds_toArray, List.set_cons_zero, List.set_cons_succ]
      refine wq_valC (u := .int .i64 m.vw) rfl (fun v hv => by have e := (hv.cell (p := ⟨w.heap.size + 1, 2, none⟩) hz1).trans X2.out; go_simp) ?_
      simp only [Act.put, List.setIfInBounds_toArray, List.set_cons_zero, List.set_cons_succ]
      refine wq_valC (u := .int .i64 (2 * f + 1)) rfl (fun v hv => by rfl) ?_
      simp only [Act.put, List.setIfInBounds_toArray, List.set_cons_zero, List.set_cons_succ]
      refine wq_valC (u := .int .i64 (m.vw.tmod (2 * f + 1))) rfl (fun v hv => by go_simp) ?_
      simp only [Act.put, List.setIfInBounds_toArray, List.set_cons_zero, List.set_cons_succ]
      refine wq_valC (u := .bool true) rfl (fun v hv => by go_simp) ?_
      simp only [Act.put, List.setIfInBounds_toArray, List.set_cons_zero, List.set_cons_succ]
      refine wq_valC (u := .bool true) rfl (fun v hv => by rfl) ?_
      simp only [Act.put, List.setIfInBounds_toArray, List.set_cons_zero, List.set_cons_succ]
      refine wq_valC (u := .pointer (some ⟨w.heap.size + 1, 16, none⟩)) rfl (fun v hv => by go_simp) ?_
      simp only [Act.put, List.setIfInBounds_toArray, List.set_cons_zero, List.set_cons_succ]
      refine wq_valC (u := .slice a1 nl cl) rfl (fun v hv => by have e := (hv.cell (p := ⟨w.heap.size + 1, 16, none⟩) hz1).trans X16.out; go_simp) ?_
      simp only [Act.put, List.setIfInBounds_toArray, List.set_cons_zero, List.set_cons_succ]
      refine wq_valC (u := .pointer (some ⟨w.heap.size, 1, none⟩)) rfl (fun v hv => by go_simp) ?_
      simp only [Act.put, List.setIfInBounds_toArray, List.set_cons_zero, List.set_cons_succ]
      refine wq_valC (u := .int .i64 r) rfl (fun v hv => by have e := (hv.cell (p := ⟨w.heap.size, 1, none⟩) (by show w.heap.size < w1.heap.size; omega)).trans C1.out; go_simp) ?_
      simp only [Act.put, List.setIfInBounds_toArray, List.set_cons_zero, List.set_cons_succ]
      refine wq_call (fid := 78) (args := #[.slice a1 nl cl, .int .i64 r]) rfl (fun v => by unfold execOp; simp only [resolve, invoke, Sem.run_bind, List.map_toArray, List.map_cons, List.map_nil]; rfl) (fun v hv => (logMayBe_any L a1 nl cl r v (HS.out.bel (HB.out.trans (hv.mono HB.out.size)) (Nat.le_refl _)) hfit).mono (fun e v' h => ⟨h.1, hv.trans (h.2.mono hv.size)⟩)) ?_
      simp only [Act.put, List.setIfInBounds_toArray, List.set_cons_zero, List.set_cons_succ]
      refine wq_valC (u := .bool (decide ((chk L r).1 = 0))) rfl (fun v hv => rfl) ?_
      simp only [Act.put, List.setIfInBounds_toArray, List.set_cons_zero, List.set_cons_succ]
      refine wq_valC (u := .bool (decide ((chk L r).1 = 0))) rfl (fun v hv => rfl) ?_
      simp only [Act.put, List.setIfInBounds_toArray, List.set_cons_zero, List.set_cons_succ]
      refine wq_valC (u := .bool (decide ((chk L r).1 = 0))) rfl (fun v hv => rfl) ?_
      simp only [Act.put, List.setIfInBounds_toArray, List.set_cons_zero, List.set_cons_succ]
      refine wpQuiet_nil (fun v hv => ?_)
      have BV := hide (HB.out.trans (hv.mono HB.out.size))
      clear hv
      go_wp2
      go_ret
      exact ⟨by rw [V.out]; rfl, BV.out⟩
    · have V : Hid (plB f r m L = false) := by
        show _ = _
        unfold plB prB
        rw [hlen, decide_eq_false hl, decide_eq_false hp]; rfl
      have hq : (m.nd == m.vw.tmod (2 * f + 1)) = false := by simp [hp]
      clear hp
      go_enter Tryz.func31, Tryz.ntmps31
      go_upto_region 1 with (refine boxMk rfl (.tmp 1) rfl m _ _ rfl ?_; intro q1 w1 hq1 M1 b1 z1)
      have hB : Below w.heap.size w w1 := ((Below.refl _ _).alloc (Nat.le_refl _) _).trans (b1.mono (by simp))
      have HB := hide hB
      have c0 : w1.cell? ⟨w.heap.size, 0, none⟩ = some (.int .i64 f) := (b1.cell (p := ⟨w.heap.size, 0, none⟩) (by simp)).trans (by simp)
      have c1 : w1.cell? ⟨w.heap.size, 1, none⟩ = some (.int .i64 r) := (b1.cell (p := ⟨w.heap.size, 1, none⟩) (by simp)).trans (by simp)
      have hq2 : q1 = w.heap.size + 1 := by first | exact hq1 | simpa using hq1
      subst hq2
      have x16 := M1.cell 16 _ rfl
      have x1 := M1.cell 1 _ rfl
      have x2 := M1.cell 2 _ rfl
      have hz1 : w.heap.size + 1 < w1.heap.size := M1.lt
      clear M1 b1 z1 hB hq1
      go_wp2_with fail
      go_quiet (fail)
      go_wp2
      go_ret
      exact ⟨by first | rfl | (rw [V.out]; first | rfl | simp), belN HB.out nq⟩
set_option maxRecDepth 100000 in
set_option maxHeartbeats 1000000 in
theorem keeps_15 (f r p : Int) (u : Bool) (m : Mg) (a1 a2 : Option Addr) (nl cl nv cv : Nat) (at_ : Int) (w : World) (hf1 : 1 ≤ f) (hf2 : f ≤ 3) (hfe : m.e.fits) : Calls Tryz.prog 31 #[.agg #[.int .i64 f, .int .i64 r, .int .i64 p, .bool u], m.val (.slice a1 nl cl) (.slice a2 nv cv), .int .i64 at_, .int .u8 15] w fun e w' => e = .returned (.bool (nmB m.e)) ∧ Below w.heap.size w w' := by
  go_enter Tryz.func31, Tryz.ntmps31
  go_upto_region 1 with (refine boxMk rfl (.tmp 1) rfl m _ _ rfl ?_; intro q1 w1 hq1 M1 b1 z1)
  have hB : Below w.heap.size w w1 := ((Below.refl _ _).alloc (Nat.le_refl _) _).trans (b1.mono (by simp))
  have HB := hide hB
  have c0 : w1.cell? ⟨w.heap.size, 0, none⟩ = some (.int .i64 f) := (b1.cell (p := ⟨w.heap.size, 0, none⟩) (by simp)).trans (by simp)
  have c1 : w1.cell? ⟨w.heap.size, 1, none⟩ = some (.int .i64 r) := (b1.cell (p := ⟨w.heap.size, 1, none⟩) (by simp)).trans (by simp)
  have hq2 : q1 = w.heap.size + 1 := by first | exact hq1 | simpa using hq1
  subst hq2
  have x3 := M1.cell 3 _ rfl
  have x4 := M1.cell 4 _ rfl
  have x5 := M1.cell 5 _ rfl
  have x6 := M1.cell 6 _ rfl
  have x7 := M1.cell 7 _ rfl
  clear M1 b1 z1 hB hq1
  go_wp2_with fail
  refine (nameMayBe_any m.e _ hfe).mono ?_
  rintro e w2 ⟨rfl, b2⟩
  have B2 := hide (HB.out.trans (b2.mono HB.out.size))
  clear b2
  go_wp2
  go_ret
  exact ⟨rfl, B2.out⟩
def owB (m : Mg) (D : List (Int × Int)) : Bool := !decide (m.d = (0, 0)) && (inR m.nd 0 ((D.length : Int) - 1) && decide (D[m.nd.toNat]? = some m.d))
theorem neqDr (x y : Operand) (r r' : Int × Int) (w : World) : (do eqGuard .neq 33 x y (.agg #[.int .u64 r.1, .int .u64 r.2]) (.agg #[.int .u64 r'.1, .int .u64 r'.2]); binOp .neq 33 (.agg #[.int .u64 r.1, .int .u64 r.2]) (.agg #[.int .u64 r'.1, .int .u64 r'.2]) : Sem Value).run Tryz.prog w = .ok (.bool (!decide (r = r'))) w := by
  obtain ⟨a, b⟩ := r
  obtain ⟨a', b'⟩ := r'
  go_simp
  by_cases e1 : a = a' <;> by_cases e2 : b = b' <;> simp [e1, e2]
theorem wq_bin {ops : Array Oper} {rest : List Oper} {o : Oper} {a : Act} {C : World → Prop} {Q : Act → Prop} {u X Y : Value} {op : BinOp} {ty ty' : TypeId} {x y : Operand} (hw : Region.wanted o (yielded ops a.tmps) = true) (ho : o.op = .binOp op ty x y ty') (hx : a.eval x = X) (hy : a.eval y = Y) (h : ∀ v, (do eqGuard op ty x y X Y; binOp op ty X Y : Sem Value).run Tryz.prog v = .ok u v) (hk : wpQuiet Tryz.prog ops C Q rest (a.put o.dst u)) : wpQuiet Tryz.prog ops C Q (o :: rest) a :=
  wq_val hw (fun v => by
    unfold execOp
    simp only [ho, hx, hy]
    rw [Sem.run_bind, h v]
    rfl) hk
theorem vj_valC {ops : Array Oper} {rest : List Oper} {o : Oper} {a : Act} {C : World → Prop} {Q : Act → Prop} {u : Value} (hw : Region.wanted o (yielded ops a.tmps) = true) (h : ∀ v, C v → (execOp a.eval o).run Tryz.prog v = .ok (.value u) v) (hk : VJ ops C Q rest (a.put o.dst u)) : VJ ops C Q (o :: rest) a := ⟨wq_valC hw h hk.out⟩
theorem vj_bin {ops : Array Oper} {rest : List Oper} {o : Oper} {a : Act} {C : World → Prop} {Q : Act → Prop} {u X Y : Value} {op : BinOp} {ty ty' : TypeId} {x y : Operand} (hw : Region.wanted o (yielded ops a.tmps) = true) (ho : o.op = .binOp op ty x y ty') (hx : a.eval x = X) (hy : a.eval y = Y) (h : ∀ v, (do eqGuard op ty x y X Y; binOp op ty X Y : Sem Value).run Tryz.prog v = .ok u v) (hk : VJ ops C Q rest (a.put o.dst u)) : VJ ops C Q (o :: rest) a := ⟨wq_bin hw ho hx hy h hk.out⟩
theorem vj_call {ops : Array Oper} {rest : List Oper} {o : Oper} {a : Act} {C : World → Prop} {Q : Act → Prop} {fid : FuncId} {args : Array Value} {u : Value} (hw : Region.wanted o (yielded ops a.tmps) = true) (hr : ∀ v, (execOp a.eval o).run Tryz.prog v = .ok (.enter fid args) v) (hc : ∀ v, C v → Calls Tryz.prog fid args v (fun e w' => e = .returned u ∧ C w')) (hk : VJ ops C Q rest (a.put o.dst u)) : VJ ops C Q (o :: rest) a := ⟨wq_call hw hr hc hk.out⟩
theorem vj_skip {ops : Array Oper} {rest : List Oper} {o : Oper} {a : Act} {C : World → Prop} {Q : Act → Prop} (hw : Region.wanted o (yielded ops a.tmps) = false) (hk : VJ ops C Q rest (a.put o.dst undef)) : VJ ops C Q (o :: rest) a := ⟨BigFrame.wpQuiet_skip hw hk.out⟩
set_option maxRecDepth 100000 in
set_option maxHeartbeats 2000000 in
theorem keeps_12 (f r p : Int) (u : Bool) (m : Mg) (a1 a2 : Option Addr) (nl cl nv cv : Nat) (at_ : Int) (w : World) (hf1 : 1 ≤ f) (hf2 : f ≤ 3) (D : List (Int × Int)) (h : SlY yD w a2 nv cv D) : Calls Tryz.prog 31 #[.agg #[.int .i64 f, .int .i64 r, .int .i64 p, .bool u], m.val (.slice a1 nl cl) (.slice a2 nv cv), .int .i64 at_, .int .u8 12] w fun e w' => e = .returned (.bool (owB m D)) ∧ Below w.heap.size w w' := by
  have hlen := h.len
  have hcv := h.cap
  have hmx := h.max
  unfold maxLen at hmx
  have wrp : IntKind.i64.wrap ((nv : Int) - 1) = (nv : Int) - 1 := by rw [IntKind.wrap_i64]; omega
  have HS := hide h
  clear h
  by_cases hd : m.d = (0, 0)
  · have V : Hid (owB m D = false) := by simp [Hid, owB, hd]
    go_enter Tryz.func31, Tryz.ntmps31
    go_upto_region 1 with (refine boxMk rfl (.tmp 1) rfl m _ _ rfl ?_; intro q1 w1 hq1 M1 b1 z1)
    have hB : Below w.heap.size w w1 := ((Below.refl _ _).alloc (Nat.le_refl _) _).trans (b1.mono (by simp))
    have HB := hide hB
    have c0 : w1.cell? ⟨w.heap.size, 0, none⟩ = some (.int .i64 f) := (b1.cell (p := ⟨w.heap.size, 0, none⟩) (by simp)).trans (by simp)
    have c1 : w1.cell? ⟨w.heap.size, 1, none⟩ = some (.int .i64 r) := (b1.cell (p := ⟨w.heap.size, 1, none⟩) (by simp)).trans (by simp)
    have hq2 : q1 = w.heap.size + 1 := by first | exact hq1 | simpa using hq1
    subst hq2
    have x1 := M1.cell 1 _ rfl
    have x17 := M1.cell 17 _ rfl
    have x14 := M1.cell 14 _ rfl
    have x15 := M1.cell 15 _ rfl
    have hz1 : w.heap.size + 1 < w1.heap.size := M1.lt
    clear M1 b1 z1 hB hq1
    go_wp2_with fail
    have X17 := hide x17
    have X1 := hide x1
    have X14 := hide x14
    have X15 := hide x15
    refine vq_start (C := fun v => Below w1.heap.size w1 v) (by kernel_rfl) (by kernel_rfl) (Below.refl _ _).drew ?_
    clear x17 x1 x14 x15 c1 c0
    refine vj_valC (u := .pointer (some ⟨w.heap.size + 1, 14, none⟩)) rfl (fun v hv => by go_simp) ?_
    simp only [Act.put, List.setIfInBounds_toArray, List.set_cons_zero, List.set_cons_succ]
    refine vj_valC (u := .agg #[.int .u64 m.d.1, .int .u64 m.d.2]) rfl (fun v hv => by have e := (hv.cell (p := ⟨w.heap.size + 1, 14, none⟩) hz1).trans X14.out; have e2 := (hv.cell (p := ⟨w.heap.size + 1, 15, none⟩) hz1).trans X15.out; go_simp) ?_
    simp only [Act.put, List.setIfInBounds_toArray, List.set_cons_zero, List.set_cons_succ]
    refine vj_valC (u := .agg #[.int .u64 0, .int .u64 0]) rfl (fun v hv => by go_simp) ?_
    simp only [Act.put, List.setIfInBounds_toArray, List.set_cons_zero, List.set_cons_succ]
    refine vj_bin (u := .bool false) rfl rfl rfl rfl (fun v => (neqDr _ _ m.d (0, 0) v).trans (by rw [decide_eq_true hd]; rfl)) ?_
    simp only [Act.put, List.setIfInBounds_toArray, List.set_cons_zero, List.set_cons_succ]
    refine vj_valC (u := .bool false) (by kernel_rfl) (fun v hv => by kernel_rfl) ?_
    simp only [Act.put, List.setIfInBounds_toArray, List.set_cons_zero, List.set_cons_succ]
    refine vj_skip (by kernel_rfl) ?_
    simp only [Act.put, List.setIfInBounds_toArray, List.set_cons_zero, List.set_cons_succ]
    refine vj_skip (by kernel_rfl) ?_
    simp only [Act.put, List.setIfInBounds_toArray, List.set_cons_zero, List.set_cons_succ]
    refine vj_skip (by kernel_rfl) ?_
    simp only [Act.put, List.setIfInBounds_toArray, List.set_cons_zero, List.set_cons_succ]
    refine vj_skip (by kernel_rfl) ?_
    simp only [Act.put, List.setIfInBounds_toArray, List.set_cons_zero, List.set_cons_succ]
    refine vj_skip (by kernel_rfl) ?_
    simp only [Act.put, List.setIfInBounds_toArray, List.set_cons_zero, List.set_cons_succ]
    refine vj_skip (by kernel_rfl) ?_
    simp only [Act.put, List.setIfInBounds_toArray, List.set_cons_zero, List.set_cons_succ]
    refine vj_skip (by kernel_rfl) ?_
    simp only [Act.put, List.setIfInBounds_toArray, List.set_cons_zero, List.set_cons_succ]
    refine vj_valC (u := .bool false) (by kernel_rfl) (fun v hv => by kernel_rfl) ?_
    simp only [Act.put, List.setIfInBounds_toArray, List.set_cons_zero, List.set_cons_succ]
    refine vj_valC (u := .bool false) (by kernel_rfl) (fun v hv => by kernel_rfl) ?_
    simp only [Act.put, List.setIfInBounds_toArray, List.set_cons_zero, List.set_cons_succ]
    refine vj_skip (by kernel_rfl) ?_
    simp only [Act.put, List.setIfInBounds_toArray, List.set_cons_zero, List.set_cons_succ]
    refine vj_skip (by kernel_rfl) ?_
    simp only [Act.put, List.setIfInBounds_toArray, List.set_cons_zero, List.set_cons_succ]
    refine vj_skip (by kernel_rfl) ?_
    simp only [Act.put, List.setIfInBounds_toArray, List.set_cons_zero, List.set_cons_succ]
    refine vj_skip (by kernel_rfl) ?_
    simp only [Act.put, List.setIfInBounds_toArray, List.set_cons_zero, List.set_cons_succ]
    refine vj_skip (by kernel_rfl) ?_
    simp only [Act.put, List.setIfInBounds_toArray, List.set_cons_zero, List.set_cons_succ]
    refine vj_skip (by kernel_rfl) ?_
    simp only [Act.put, List.setIfInBounds_toArray, List.set_cons_zero, List.set_cons_succ]
    refine vj_skip (by kernel_rfl) ?_
    simp only [Act.put, List.setIfInBounds_toArray, List.set_cons_zero, List.set_cons_succ]
    refine vj_skip (by kernel_rfl) ?_
    simp only [Act.put, List.setIfInBounds_toArray, List.set_cons_zero, List.set_cons_succ]
    refine vj_skip (by kernel_rfl) ?_
    simp only [Act.put, List.setIfInBounds_toArray, List.set_cons_zero, List.set_cons_succ]
    refine vj_valC (u := .bool false) (by kernel_rfl) (fun v hv => by kernel_rfl) ?_
    simp only [Act.put, List.setIfInBounds_toArray, List.set_cons_zero, List.set_cons_succ]
    refine vj_valC (u := .bool false) (by kernel_rfl) (fun v hv => by kernel_rfl) ?_
    simp only [Act.put, List.setIfInBounds_toArray, List.set_cons_zero, List.set_cons_succ]
    refine vq_nil (fun v hv => ?_)
    have BV := hide (HB.out.trans (hv.mono HB.out.size))
    clear hv
    go_wp2
    go_ret
    exact ⟨by rw [V.out]; rfl, BV.out⟩
  · by_cases hw : inR m.nd 0 ((nv : Int) - 1) = true
    · have WQ := hide hw
      obtain ⟨i, hi, hiv⟩ : ∃ i : Nat, m.nd = (i : Int) ∧ i < nv := by
        unfold inR at hw
        simp at hw
        exact ⟨m.nd.toNat, by omega, by omega⟩
      obtain ⟨dd, hdd⟩ : ∃ dd, D[i]? = some dd := ⟨_, List.getElem?_eq_getElem (by rw [hlen]; exact hiv)⟩
      obtain ⟨q2, o2, rfl, hqs, y0, y1⟩ := HS.out.dw hdd
      have V : Hid (owB m D = decide (m.d = dd)) := by
        show _ = _
        have hn : m.nd.toNat = i := by omega
        unfold owB
        rw [hlen, hw, hn, hdd]
        simp [hd, eq_comm]
      clear hw hdd
      go_enter Tryz.func31, Tryz.ntmps31
      go_upto_region 1 with (refine boxMk rfl (.tmp 1) rfl m _ _ rfl ?_; intro q1 w1 hq1 M1 b1 z1)
      have hB : Below w.heap.size w w1 := ((Below.refl _ _).alloc (Nat.le_refl _) _).trans (b1.mono (by simp))
      have HB := hide hB
      have c0 : w1.cell? ⟨w.heap.size, 0, none⟩ = some (.int .i64 f) := (b1.cell (p := ⟨w.heap.size, 0, none⟩) (by simp)).trans (by simp)
      have c1 : w1.cell? ⟨w.heap.size, 1, none⟩ = some (.int .i64 r) := (b1.cell (p := ⟨w.heap.size, 1, none⟩) (by simp)).trans (by simp)
      have hq2 : q1 = w.heap.size + 1 := by first | exact hq1 | simpa using hq1
      subst hq2
      have x1 := M1.cell 1 _ rfl
      have x17 := M1.cell 17 _ rfl
      have x14 := M1.cell 14 _ rfl
      have x15 := M1.cell 15 _ rfl
      have hz1 : w.heap.size + 1 < w1.heap.size := M1.lt
      have hqw : q2 < w1.heap.size := Nat.lt_of_lt_of_le hqs HB.out.size
      have Z0 := hide ((HB.out.cell (p := ⟨q2, o2 + i * 2, none⟩) hqs).trans y0)
      have Z1 := hide ((HB.out.cell (p := ⟨q2, o2 + i * 2 + 1, none⟩) hqs).trans y1)
      clear y0 y1
      clear M1 b1 z1 hB hq1
      go_wp2_with fail
      have X17 := hide x17
      have X1 := hide x1
      have X14 := hide x14
      have X15 := hide x15
      refine vq_start (C := fun v => Below w1.heap.size w1 v) (by kernel_rfl) (by kernel_rfl) (Below.refl _ _).drew ?_
      clear x17 x1 x14 x15 c1 c0
      refine vj_valC (u := .pointer (some ⟨w.heap.size + 1, 14, none⟩)) rfl (fun v hv => by go_simp) ?_
      simp only [Act.put, List.setIfInBounds_toArray, List.set_cons_zero, List.set_cons_succ]
      refine vj_valC (u := .agg #[.int .u64 m.d.1, .int .u64 m.d.2]) rfl (fun v hv => by have e := (hv.cell (p := ⟨w.heap.size + 1, 14, none⟩) hz1).trans X14.out; have e2 := (hv.cell (p := ⟨w.heap.size + 1, 15, none⟩) hz1).trans X15.out; go_simp) ?_
      simp only [Act.put, List.setIfInBounds_toArray, List.set_cons_zero, List.set_cons_succ]
      refine vj_valC (u := .agg #[.int .u64 0, .int .u64 0]) rfl (fun v hv => by go_simp) ?_
      simp only [Act.put, List.setIfInBounds_toArray, List.set_cons_zero, List.set_cons_succ]
      refine vj_bin (u := .bool true) rfl rfl rfl rfl (fun v => (neqDr _ _ m.d (0, 0) v).trans (by rw [decide_eq_false hd]; rfl)) ?_
      simp only [Act.put, List.setIfInBounds_toArray, List.set_cons_zero, List.set_cons_succ]
      refine vj_valC (u := .bool true) (by kernel_rfl) (fun v hv => by kernel_rfl) ?_
      simp only [Act.put, List.setIfInBounds_toArray, List.set_cons_zero, List.set_cons_succ]
      refine vj_valC (u := .pointer (some ⟨w.heap.size + 1, 1, none⟩)) rfl (fun v hv => by go_simp) ?_
      simp only [Act.put, List.setIfInBounds_toArray, List.set_cons_zero, List.set_cons_succ]
      refine vj_valC (u := .int .i64 m.nd) rfl (fun v hv => by have e := (hv.cell (p := ⟨w.heap.size + 1, 1, none⟩) hz1).trans X1.out; go_simp) ?_
      simp only [Act.put, List.setIfInBounds_toArray, List.set_cons_zero, List.set_cons_succ]
      refine vj_valC (u := .pointer (some ⟨w.heap.size + 1, 17, none⟩)) rfl (fun v hv => by go_simp) ?_
      simp only [Act.put, List.setIfInBounds_toArray, List.set_cons_zero, List.set_cons_succ]
      refine vj_valC (u := .slice (some ⟨q2, o2, none⟩) nv cv) rfl (fun v hv => by have e := (hv.cell (p := ⟨w.heap.size + 1, 17, none⟩) hz1).trans X17.out; go_simp) ?_
      simp only [Act.put, List.setIfInBounds_toArray, List.set_cons_zero, List.set_cons_succ]
      refine vj_valC (u := .int .i64 (nv : Int)) rfl (fun v hv => by go_simp) ?_
      simp only [Act.put, List.setIfInBounds_toArray, List.set_cons_zero, List.set_cons_succ]
      refine vj_valC (u := .int .i64 ((nv : Int) - 1)) rfl (fun v hv => by have e := wrp; go_simp; try exact e) ?_
      simp only [Act.put, List.setIfInBounds_toArray, List.set_cons_zero, List.set_cons_succ]
      refine vj_call (u := .bool true) (fid := 75) (args := #[.int .i64 m.nd, .int .i64 0, .int .i64 ((nv : Int) - 1)]) rfl (fun v => by unfold execOp; simp only [resolve, invoke, Sem.run_bind, List.map_toArray, List.map_cons, List.map_nil]; rfl) (fun v hv => (withinM_any m.nd 0 ((nv : Int) - 1) v).mono (fun e v' h => ⟨h.1.trans (by rw [WQ.out]), by rw [h.2]; exact hv⟩)) ?_
      simp only [Act.put, List.setIfInBounds_toArray, List.set_cons_zero, List.set_cons_succ]
      refine vj_valC (u := .bool true) (by kernel_rfl) (fun v hv => by kernel_rfl) ?_
      simp only [Act.put, List.setIfInBounds_toArray, List.set_cons_zero, List.set_cons_succ]
      refine vj_valC (u := .bool true) (by kernel_rfl) (fun v hv => by kernel_rfl) ?_
      simp only [Act.put, List.setIfInBounds_toArray, List.set_cons_zero, List.set_cons_succ]
      refine vj_valC (u := .pointer (some ⟨w.heap.size + 1, 14, none⟩)) rfl (fun v hv => by go_simp) ?_
      simp only [Act.put, List.setIfInBounds_toArray, List.set_cons_zero, List.set_cons_succ]
      refine vj_valC (u := .agg #[.int .u64 m.d.1, .int .u64 m.d.2]) rfl (fun v hv => by have e := (hv.cell (p := ⟨w.heap.size + 1, 14, none⟩) hz1).trans X14.out; have e2 := (hv.cell (p := ⟨w.heap.size + 1, 15, none⟩) hz1).trans X15.out; go_simp) ?_
      simp only [Act.put, List.setIfInBounds_toArray, List.set_cons_zero, List.set_cons_succ]
      refine vj_valC (u := .pointer (some ⟨w.heap.size + 1, 17, none⟩)) rfl (fun v hv => by go_simp) ?_
      simp only [Act.put, List.setIfInBounds_toArray, List.set_cons_zero, List.set_cons_succ]
      refine vj_valC (u := .slice (some ⟨q2, o2, none⟩) nv cv) rfl (fun v hv => by have e := (hv.cell (p := ⟨w.heap.size + 1, 17, none⟩) hz1).trans X17.out; go_simp) ?_
      simp only [Act.put, List.setIfInBounds_toArray, List.set_cons_zero, List.set_cons_succ]
      refine vj_valC (u := .pointer (some ⟨w.heap.size + 1, 1, none⟩)) rfl (fun v hv => by go_simp) ?_
      simp only [Act.put, List.setIfInBounds_toArray, List.set_cons_zero, List.set_cons_succ]
      refine vj_valC (u := .int .i64 (i : Int)) rfl (fun v hv => by have e := (hv.cell (p := ⟨w.heap.size + 1, 1, none⟩) hz1).trans X1.out; rw [hi] at e; go_simp) ?_
      simp only [Act.put, List.setIfInBounds_toArray, List.set_cons_zero, List.set_cons_succ]
      refine vj_valC (u := .pointer (some ⟨q2, o2 + i * 2, none⟩)) rfl (fun v hv => by go_simp) ?_
      simp only [Act.put, List.setIfInBounds_toArray, List.set_cons_zero, List.set_cons_succ]
      refine vj_valC (u := .agg #[.int .u64 dd.1, .int .u64 dd.2]) rfl (fun v hv => by have e := (hv.cell (p := ⟨q2, o2 + i * 2, none⟩) hqw).trans Z0.out; have e2 := (hv.cell (p := ⟨q2, o2 + i * 2 + 1, none⟩) hqw).trans Z1.out; go_simp) ?_
      simp only [Act.put, List.setIfInBounds_toArray, List.set_cons_zero, List.set_cons_succ]
      refine vj_bin (u := .bool (decide (m.d = dd))) rfl rfl rfl rfl (fun v => eqlDr _ _ m.d dd v) ?_
      simp only [Act.put, List.setIfInBounds_toArray, List.set_cons_zero, List.set_cons_succ]
      refine vj_valC (u := .bool (decide (m.d = dd))) (by kernel_rfl) (fun v hv => by kernel_rfl) ?_
      simp only [Act.put, List.setIfInBounds_toArray, List.set_cons_zero, List.set_cons_succ]
      refine vj_valC (u := .bool (decide (m.d = dd))) (by kernel_rfl) (fun v hv => by kernel_rfl) ?_
      simp only [Act.put, List.setIfInBounds_toArray, List.set_cons_zero, List.set_cons_succ]
      refine vq_nil (fun v hv => ?_)
      have BV := hide (HB.out.trans (hv.mono HB.out.size))
      clear hv
      go_wp2
      go_ret
      exact ⟨by rw [V.out]; rfl, BV.out⟩
    · have hw' : inR m.nd 0 ((nv : Int) - 1) = false := by simpa using hw
      have WQ := hide hw'
      have V : Hid (owB m D = false) := by
        show _ = _
        unfold owB
        rw [hlen, hw']
        simp
      clear hw hw'
      go_enter Tryz.func31, Tryz.ntmps31
      go_upto_region 1 with (refine boxMk rfl (.tmp 1) rfl m _ _ rfl ?_; intro q1 w1 hq1 M1 b1 z1)
      have hB : Below w.heap.size w w1 := ((Below.refl _ _).alloc (Nat.le_refl _) _).trans (b1.mono (by simp))
      have HB := hide hB
      have c0 : w1.cell? ⟨w.heap.size, 0, none⟩ = some (.int .i64 f) := (b1.cell (p := ⟨w.heap.size, 0, none⟩) (by simp)).trans (by simp)
      have c1 : w1.cell? ⟨w.heap.size, 1, none⟩ = some (.int .i64 r) := (b1.cell (p := ⟨w.heap.size, 1, none⟩) (by simp)).trans (by simp)
      have hq2 : q1 = w.heap.size + 1 := by first | exact hq1 | simpa using hq1
      subst hq2
      have x1 := M1.cell 1 _ rfl
      have x17 := M1.cell 17 _ rfl
      have x14 := M1.cell 14 _ rfl
      have x15 := M1.cell 15 _ rfl
      have hz1 : w.heap.size + 1 < w1.heap.size := M1.lt
      clear M1 b1 z1 hB hq1
      go_wp2_with fail
      have X17 := hide x17
      have X1 := hide x1
      have X14 := hide x14
      have X15 := hide x15
      refine vq_start (C := fun v => Below w1.heap.size w1 v) (by kernel_rfl) (by kernel_rfl) (Below.refl _ _).drew ?_
      clear x17 x1 x14 x15 c1 c0
      refine vj_valC (u := .pointer (some ⟨w.heap.size + 1, 14, none⟩)) rfl (fun v hv => by go_simp) ?_
      simp only [Act.put, List.setIfInBounds_toArray, List.set_cons_zero, List.set_cons_succ]
      refine vj_valC (u := .agg #[.int .u64 m.d.1, .int .u64 m.d.2]) rfl (fun v hv => by have e := (hv.cell (p := ⟨w.heap.size + 1, 14, none⟩) hz1).trans X14.out; have e2 := (hv.cell (p := ⟨w.heap.size + 1, 15, none⟩) hz1).trans X15.out; go_simp) ?_
      simp only [Act.put, List.setIfInBounds_toArray, List.set_cons_zero, List.set_cons_succ]
      refine vj_valC (u := .agg #[.int .u64 0, .int .u64 0]) rfl (fun v hv => by go_simp) ?_
      simp only [Act.put, List.setIfInBounds_toArray, List.set_cons_zero, List.set_cons_succ]
      refine vj_bin (u := .bool true) rfl rfl rfl rfl (fun v => (neqDr _ _ m.d (0, 0) v).trans (by rw [decide_eq_false hd]; rfl)) ?_
      simp only [Act.put, List.setIfInBounds_toArray, List.set_cons_zero, List.set_cons_succ]
      refine vj_valC (u := .bool true) (by kernel_rfl) (fun v hv => by kernel_rfl) ?_
      simp only [Act.put, List.setIfInBounds_toArray, List.set_cons_zero, List.set_cons_succ]
      refine vj_valC (u := .pointer (some ⟨w.heap.size + 1, 1, none⟩)) rfl (fun v hv => by go_simp) ?_
      simp only [Act.put, List.setIfInBounds_toArray, List.set_cons_zero, List.set_cons_succ]
      refine vj_valC (u := .int .i64 m.nd) rfl (fun v hv => by have e := (hv.cell (p := ⟨w.heap.size + 1, 1, none⟩) hz1).trans X1.out; go_simp) ?_
      simp only [Act.put, List.setIfInBounds_toArray, List.set_cons_zero, List.set_cons_succ]
      refine vj_valC (u := .pointer (some ⟨w.heap.size + 1, 17, none⟩)) rfl (fun v hv => by go_simp) ?_
      simp only [Act.put, List.setIfInBounds_toArray, List.set_cons_zero, List.set_cons_succ]
      refine vj_valC (u := .slice a2 nv cv) rfl (fun v hv => by have e := (hv.cell (p := ⟨w.heap.size + 1, 17, none⟩) hz1).trans X17.out; go_simp) ?_
      simp only [Act.put, List.setIfInBounds_toArray, List.set_cons_zero, List.set_cons_succ]
      refine vj_valC (u := .int .i64 (nv : Int)) rfl (fun v hv => by go_simp) ?_
      simp only [Act.put, List.setIfInBounds_toArray, List.set_cons_zero, List.set_cons_succ]
      refine vj_valC (u := .int .i64 ((nv : Int) - 1)) rfl (fun v hv => by have e := wrp; go_simp; try exact e) ?_
      simp only [Act.put, List.setIfInBounds_toArray, List.set_cons_zero, List.set_cons_succ]
      refine vj_call (u := .bool false) (fid := 75) (args := #[.int .i64 m.nd, .int .i64 0, .int .i64 ((nv : Int) - 1)]) rfl (fun v => by unfold execOp; simp only [resolve, invoke, Sem.run_bind, List.map_toArray, List.map_cons, List.map_nil]; rfl) (fun v hv => (withinM_any m.nd 0 ((nv : Int) - 1) v).mono (fun e v' h => ⟨h.1.trans (by rw [WQ.out]), by rw [h.2]; exact hv⟩)) ?_
      simp only [Act.put, List.setIfInBounds_toArray, List.set_cons_zero, List.set_cons_succ]
      refine vj_valC (u := .bool false) (by kernel_rfl) (fun v hv => by kernel_rfl) ?_
      simp only [Act.put, List.setIfInBounds_toArray, List.set_cons_zero, List.set_cons_succ]
      refine vj_valC (u := .bool false) (by kernel_rfl) (fun v hv => by kernel_rfl) ?_
      simp only [Act.put, List.setIfInBounds_toArray, List.set_cons_zero, List.set_cons_succ]
      refine vj_skip (by kernel_rfl) ?_
      simp only [Act.put, List.setIfInBounds_toArray, List.set_cons_zero, List.set_cons_succ]
      refine vj_skip (by kernel_rfl) ?_
      simp only [Act.put, List.setIfInBounds_toArray, List.set_cons_zero, List.set_cons_succ]
      refine vj_skip (by kernel_rfl) ?_
      simp only [Act.put, List.setIfInBounds_toArray, List.set_cons_zero, List.set_cons_succ]
      refine vj_skip (by kernel_rfl) ?_
      simp only [Act.put, List.setIfInBounds_toArray, List.set_cons_zero, List.set_cons_succ]
      refine vj_skip (by kernel_rfl) ?_
      simp only [Act.put, List.setIfInBounds_toArray, List.set_cons_zero, List.set_cons_succ]
      refine vj_skip (by kernel_rfl) ?_
      simp only [Act.put, List.setIfInBounds_toArray, List.set_cons_zero, List.set_cons_succ]
      refine vj_skip (by kernel_rfl) ?_
      simp only [Act.put, List.setIfInBounds_toArray, List.set_cons_zero, List.set_cons_succ]
      refine vj_skip (by kernel_rfl) ?_
      simp only [Act.put, List.setIfInBounds_toArray, List.set_cons_zero, List.set_cons_succ]
      refine vj_skip (by kernel_rfl) ?_
      simp only [Act.put, List.setIfInBounds_toArray, List.set_cons_zero, List.set_cons_succ]
      refine vj_valC (u := .bool false) (by kernel_rfl) (fun v hv => by kernel_rfl) ?_
      simp only [Act.put, List.setIfInBounds_toArray, List.set_cons_zero, List.set_cons_succ]
      refine vj_valC (u := .bool false) (by kernel_rfl) (fun v hv => by kernel_rfl) ?_
      simp only [Act.put, List.setIfInBounds_toArray, List.set_cons_zero, List.set_cons_succ]
      refine vq_nil (fun v hv => ?_)
      have BV := hide (HB.out.trans (hv.mono HB.out.size))
      clear hv
      go_wp2
      go_ret
      exact ⟨by rw [V.out]; rfl, BV.out⟩
def keepB (f r : Int) (m : Mg) (L : List En) (D : List (Int × Int)) (j : Nat) (q : Nat) : Bool :=
  match q with
  | 0 => blB m L.length D.length j
  | 1 => inR m.nd 0 (2 * f)
  | 2 => prB f m
  | 3 => inR m.vw 0 4294967296
  | 4 => inR m.vw 1 4294967296
  | 5 => decide (0 ≤ m.ls) && decide (m.ls < m.vw)
  | 6 => inR m.p 0 r
  | 7 => inR m.p 1 r
  | 8 => apB m.p m.r.1 r
  | 9 => inR m.cm 0 r
  | 10 => inR m.cm 0 (L.length : Int)
  | 11 => !decide (m.d = (0, 0))
  | 12 => owB m D
  | 13 => decide ((chk [m.e] 1).1 = 0)
  | 14 => decide ((chk [m.e] 1).1 = 0) && (decide (m.e.o.k = 3) || decide (m.e.o.k = 4))
  | 15 => nmB m.e
  | 16 => resB m.r.1 m.r.2.1 m.r.2.2
  | 17 => resB m.r.1 m.r.2.1 m.r.2.2 && rdB m.r.1
  | 18 => decide ((chk L r).1 = 0)
  | 19 => plB f r m L
  | 20 => decide ((D.length : Int) = 2 * f + 1)
  | _ => false
theorem keeps_all (f r p : Int) (u : Bool) (m : Mg) (a1 a2 : Option Addr) (cl cv : Nat) (L : List En) (D : List (Int × Int)) (j q : Nat) (hj : j < 10) (hq : q < 21) (w : World) (hf1 : 1 ≤ f) (hf2 : f ≤ 3) (h1 : SlY yE w a1 L.length cl L) (hfit : ∀ e ∈ L, e.fits) (h2 : SlY yD w a2 D.length cv D) (hfe : m.e.fits) :
    Calls Tryz.prog 31 #[.agg #[.int .i64 f, .int .i64 r, .int .i64 p, .bool u], m.val (.slice a1 L.length cl) (.slice a2 D.length cv), .int .i64 (j : Int), .int .u8 (q : Int)] w fun e w' => e = .returned (.bool (keepB f r m L D j q)) ∧ Below w.heap.size w w' := by
  match q, hq with
  | 0, _ => exact keeps_0 f r p u m a1 a2 _ cl _ cv j w hf1 hf2 hj
  | 1, _ => exact keeps_1 f r p u m a1 a2 _ cl _ cv _ w hf1 hf2
  | 2, _ => exact keeps_2 f r p u m a1 a2 _ cl _ cv _ w hf1 hf2
  | 3, _ => exact keeps_3 f r p u m a1 a2 _ cl _ cv _ w hf1 hf2
  | 4, _ => exact keeps_4 f r p u m a1 a2 _ cl _ cv _ w hf1 hf2
  | 5, _ => exact keeps_5 f r p u m a1 a2 _ cl _ cv _ w hf1 hf2
  | 6, _ => exact keeps_6 f r p u m a1 a2 _ cl _ cv _ w hf1 hf2
  | 7, _ => exact keeps_7 f r p u m a1 a2 _ cl _ cv _ w hf1 hf2
  | 8, _ => exact keeps_8 f r p u m a1 a2 _ cl _ cv _ w hf1 hf2
  | 9, _ => exact keeps_9 f r p u m a1 a2 _ cl _ cv _ w hf1 hf2
  | 10, _ => exact keeps_10 f r p u m a1 a2 _ cl _ cv _ w hf1 hf2
  | 11, _ => exact keeps_11 f r p u m a1 a2 _ cl _ cv _ w hf1 hf2
  | 12, _ => exact keeps_12 f r p u m a1 a2 _ cl _ cv _ w hf1 hf2 D h2
  | 13, _ => exact keeps_13 f r p u m a1 a2 _ cl _ cv _ w hf1 hf2 hfe
  | 14, _ => exact keeps_14 f r p u m a1 a2 _ cl _ cv _ w hf1 hf2 hfe
  | 15, _ => exact keeps_15 f r p u m a1 a2 _ cl _ cv _ w hf1 hf2 hfe
  | 16, _ => exact keeps_16 f r p u m a1 a2 _ cl _ cv _ w hf1 hf2
  | 17, _ => exact keeps_17 f r p u m a1 a2 _ cl _ cv _ w hf1 hf2
  | 18, _ => exact keeps_18 f r p u m a1 a2 _ cl _ cv _ w hf1 hf2 L h1 hfit
  | 19, _ => exact keeps_19 f r p u m a1 a2 _ cl _ cv _ w hf1 hf2 L h1 hfit
  | 20, _ => exact keeps_20 f r p u m a1 a2 _ cl _ cv _ w hf1 hf2
  | (n + 21), hn => exact absurd hn (by omega)
def tabR : List (List Nat) := [[0, 0, 0, 0, 0, 0, 0, 0, 0, 0], [0, 0, 0, 0, 0, 0, 13, 0, 0, 0], [1, 3, 0, 8, 0, 0, 15, 16, 0, 0], [2, 3, 0, 7, 9, 0, 13, 0, 0, 20], [1, 3, 0, 6, 0, 0, 0, 0, 0, 20], [2, 3, 0, 0, 9, 0, 0, 0, 0, 20], [1, 4, 0, 0, 0, 0, 0, 0, 0, 20], [1, 4, 5, 0, 10, 0, 0, 0, 18, 20], [2, 4, 0, 0, 10, 0, 0, 0, 18, 20], [1, 0, 0, 0, 0, 12, 0, 0, 0, 20], [1, 3, 0, 0, 10, 11, 0, 0, 19, 20], [1, 3, 0, 0, 0, 0, 0, 0, 0, 20], [1, 3, 0, 0, 10, 0, 0, 0, 18, 20], [0, 0, 0, 6, 0, 0, 14, 0, 0, 0], [1, 3, 0, 0, 9, 0, 15, 17, 0, 0]]
def tabA (k j : Nat) : Nat := ((tabR[k]?).getD []).getD j 0
theorem tabA_lt : ∀ k, k < 15 → ∀ j, j < 10 → tabA k j < 21 := by decide
def ckM (c : Cf) (m : Mg) (L : List En) (D : List (Int × Int)) : Int := if cfB c = false then 1 else if kdB m.k = false then 70 else if (List.range 10).all (fun j => keepB c.f c.r m L D j (tabA m.k.toNat j)) then 0 else 71
structure Tab (w : World) : Prop where
  lt : 0 < w.heap.size
  cell : ∀ k j, k < 15 → j < 10 → w.cell? ⟨0, k * 10 + j, none⟩ = some (.int .u8 (tabA k j : Int))
theorem Tab.later {w w' : World} (h : Tab w) {B : Nat} (hb : Below B w w') (hB : 0 < B) : Tab w' :=
  ⟨Nat.lt_of_lt_of_le h.lt hb.size, fun k j hk hj => (hb.cell (p := ⟨0, k * 10 + j, none⟩) hB).trans (h.cell k j hk hj)⟩
theorem cfB_f {c : Cf} (h : cfB c = true) : 1 ≤ c.f ∧ c.f ≤ 3 := by
  unfold cfB inR at h
  simp at h
  omega
end Go.Proofs.YtjfbkeommlopmaaGreatDoor
