import Derived.Test.YtolnkoneilipeaaKf
import Derived.Test.YtolnkoneilipeaaMh
import Derived.Test.YtolnkoneilipeaaDi
namespace Go.Proofs.Ytolnkoneilipeaa
open Go.RowKit Go.Shelf
open Classical
set_option linter.unusedVariables false
set_option linter.unusedSimpArgs false
attribute [local go_sem] Oper.semAt_some

/-- The log's first error, and its place. -/
def ckA : List En → List En → Int × Int
  | _, [] => (0, 0)
  | past, e :: r => if er past e ≠ 0 then (er past e, (past.length : Int) + 1) else ckA (past ++ [e]) r
def chk (L : List En) (room : Int) : Int × Int := if room < 1 ∨ 256 < room then (3, 0) else if room < L.length then (60, room) else ckA [] L
theorem ckA_at {L : List En} {j : Nat} {e : En} (h : L[j]? = some e) : ckA (L.take j) (L.drop j) = if er (L.take j) e ≠ 0 then (er (L.take j) e, (j : Int) + 1) else ckA (L.take (j + 1)) (L.drop (j + 1)) := by
  have hj := (List.getElem?_eq_some_iff.1 h).1
  have he := (List.getElem?_eq_some_iff.1 h).2
  have hl : (L.take j).length = j := by rw [List.length_take]; omega
  rw [List.drop_eq_getElem_cons hj, he, ckA, List.take_add_one, h, hl]
  rfl
theorem ckA_end (L : List En) : ckA (L.take L.length) (L.drop L.length) = (0, 0) := by simp [ckA]
set_option maxRecDepth 100000 in
theorem checkent_any (C N k s : Int) (v : ByteArray) (hf : (⟨k, s, v⟩ : Opn).fits) (w : World) :
    Calls Try.prog 25 #[.agg #[.int .i64 C, .int .i64 N, .int .i64 k, .int .i64 s, .string v]] w fun e w' => e = .returned (.int .i64 (ckE ⟨C, N, ⟨k, s, v⟩⟩)) ∧ Below w.heap.size w w' := by
  have cc := fun W => check_any ⟨k, s, v⟩ hf W
  dsimp only [Opn.val] at cc
  have bA := (Below.refl w.heap.size w).alloc (Nat.le_refl _) (.cells #[.int .i64 C, .int .i64 N, .int .i64 k, .int .i64 s, .string v] 40)
  by_cases h1 : C < 0
  · have hE : Hid (ckE ⟨C, N, ⟨k, s, v⟩⟩ = 62) := by show _ = _; simp [ckE, h1]
    have d1 : decide (C < 0) = true := by simpa using h1
    go_enter Try.func25, Try.ntmps25
    go_wp2
    go_ret
    exact ⟨ret_int hE.out.symm, bA⟩
  · by_cases h2 : 16 ≤ C
    · have hE : Hid (ckE ⟨C, N, ⟨k, s, v⟩⟩ = 62) := by show _ = _; simp [ckE, h2]
      go_enter Try.func25, Try.ntmps25
      go_wp2
      go_ret
      exact ⟨ret_int hE.out.symm, bA⟩
    · by_cases h3 : N < 1
      · have hE : Hid (ckE ⟨C, N, ⟨k, s, v⟩⟩ = 63) := by show _ = _; simp [ckE, h1, h2, h3]
        go_enter Try.func25, Try.ntmps25
        go_wp2
        go_ret
        exact ⟨ret_int hE.out.symm, bA⟩
      · have hE : Hid (ckE ⟨C, N, ⟨k, s, v⟩⟩ = ck k s v) := by show _ = _; simp [ckE, h1, h2, h3]
        generalize ck k s v = x at *
        go_enter Try.func25, Try.ntmps25
        go_wp2_with (go_at_call 14; refine (cc _).mono ?_; rintro e w2 ⟨rfl, b2⟩)
        go_ret
        exact ⟨ret_int hE.out.symm, bA.trans (b2.mono (by simp))⟩
/-- The greatest number of each client, in an array. -/
def gml (L : List En) : List Value := (List.range 16).map fun (c : Nat) => .int .i64 (gm L (c : Int))
theorem gml_get (L : List En) {c : Nat} (h : c < 16) : (gml L)[c]? = some (.int .i64 (gm L (c : Int))) := by simp [gml, h]
theorem gml_len (L : List En) : (gml L).length = 16 := by simp [gml]
theorem gml_set {L : List En} {e : En} {c : Nat} (hc : e.c = (c : Int)) (h16 : c < 16) (hn : gm L e.c < e.n) : (gml L).set c (.int .i64 e.n) = gml (L ++ [e]) := by
  apply List.ext_getElem?
  intro i
  by_cases h : i < 16
  · rw [gml_get _ h, gm_snoc, List.getElem?_set]
    by_cases hs : c = i
    · subst hs
      rw [hc] at hn ⊢
      have : max (gm L (c : Int)) e.n = e.n := by omega
      simp [gml_len, h, this]
    · have : ¬ (e.c = (i : Int)) := by rw [hc]; omega
      simp [hs, this, gml_get L h]
  · rw [List.getElem?_eq_none (by rw [List.length_set, gml_len]; omega), List.getElem?_eq_none (by rw [gml_len]; omega)]
theorem setc_other {w : World} {b b' i j : Nat} {u x : Value} (h : w.cell? ⟨b, i, none⟩ = some x) (hne : b ≠ b') : (w.setCell ⟨b', j, none⟩ u).cell? ⟨b, i, none⟩ = some x :=
  (World.cell?_of_block (a := ⟨b, i, none⟩) (Below.heap_setCell w ⟨b', j, none⟩ u b hne)).trans h
/-- Between two rounds of Check's loop. -/
def ChkI (w4 : World) (N : Nat) (L : List En) (X : Int × Int) (i : Nat) (W : World) : Prop := Upd (· = N) w4 W ∧ Arr W N 65 (gml (L.take i)) ∧ X = ckA (L.take i) (L.drop i)
set_option maxRecDepth 100000 in
set_option maxHeartbeats 1000000 in
theorem checkO_any (L : List En) (a : Option Addr) (n c : Nat) (room : Int) (w : World) (h : SlY yE w a n c L) (hf : ∀ e ∈ L, e.fits) :
    Calls Try.prog 24 #[.slice a n c, .int .i64 room] w fun e w' => e = .returned (.tuple #[.int .i64 (chk L room).1, .int .i64 (chk L room).2]) ∧ Below w.heap.size w w' := by
  have hln := h.len
  have hcp := h.cap
  have hmx := h.max
  unfold maxLen at hmx
  have H := hide h
  have HF := hide hf
  clear h hf
  subst hln
  by_cases h1 : room < 1
  · have hE : Hid (chk L room = (3, 0)) := by show _ = _; simp [chk, h1]
    rw [hE.out]
    have d1 : decide (room < 1) = true := by simpa using h1
    go_enter Try.func24, Try.ntmps24
    go_wp2
    refine bodyPost_ret (v := .tuple #[.int .i64 3, .int .i64 0]) (by simp [results, Try.f24, go_sem]) rfl ⟨rfl, ((Below.refl _ _).alloc (Nat.le_refl _) _).alloc (by simp) _⟩
  · by_cases h2 : 256 < room
    · have hE : Hid (chk L room = (3, 0)) := by show _ = _; simp [chk, h2]
      rw [hE.out]
      go_enter Try.func24, Try.ntmps24
      go_wp2
      refine bodyPost_ret (v := .tuple #[.int .i64 3, .int .i64 0]) (by simp [results, Try.f24, go_sem]) rfl ⟨rfl, ((Below.refl _ _).alloc (Nat.le_refl _) _).alloc (by simp) _⟩
    · by_cases h3 : room < (L.length : Int)
      · have hE : Hid (chk L room = (60, room)) := by show _ = _; simp [chk, h1, h2, h3]
        rw [hE.out]
        go_enter Try.func24, Try.ntmps24
        go_wp2
        refine bodyPost_ret (v := .tuple #[.int .i64 60, .int .i64 room]) (by simp [results, Try.f24, go_sem]) rfl ⟨rfl, ((Below.refl _ _).alloc (Nat.le_refl _) _).alloc (by simp) _⟩
      · have hE : Hid (chk L room = ckA (L.take 0) (L.drop 0)) := by show _ = _; simp [chk, h1, h2, h3]
        have hb : L.length * 48 ≤ 140737488355328 := by omega
        refine (callsIn_wide (n := 4)).1 ?_
        refine callsIn_of_wp_marks Try.func24 rfl trivial ?_ rfl
        simp only [Try.ntmps24, List.size_toArray, List.length_cons, List.length_nil, Nat.reduceAdd, Nat.reduceSub, Array.replicate_succ, Array.replicate_zero, List.push_toArray, List.append_toArray, List.nil_append, List.cons_append]
        generalize chk L room = X at *
        gi_wp2_with fail
        refine ⟨trivial, ?_⟩
        obtain ⟨w3, hw3⟩ : ∃ w3, (((w.alloc (Obj.cells #[Value.int IntKind.i64 0] 45)).alloc (Obj.cells #[Value.int IntKind.i64 0] 3)).alloc (Obj.cells #[Value.int IntKind.i64 0, Value.int IntKind.i64 0, Value.int IntKind.i64 0, Value.int IntKind.i64 0, Value.int IntKind.i64 0, Value.int IntKind.i64 0, Value.int IntKind.i64 0, Value.int IntKind.i64 0, Value.int IntKind.i64 0, Value.int IntKind.i64 0, Value.int IntKind.i64 0, Value.int IntKind.i64 0, Value.int IntKind.i64 0, Value.int IntKind.i64 0, Value.int IntKind.i64 0, Value.int IntKind.i64 0] 65)) = w3 := ⟨_, rfl⟩
        rw [hw3]
        have b3 : Below w.heap.size w w3 := by rw [← hw3]; exact (((Below.refl _ _).alloc (Nat.le_refl _) _).alloc (by simp) _).alloc (by simp; omega) _
        have z3 : w3.heap.size = w.heap.size + 3 := by rw [← hw3]; simp
        have c0 : w3.cell? ⟨w.heap.size, 0, none⟩ = some (.int .i64 0) := by subst hw3; go_simp
        have c1 : w3.cell? ⟨w.heap.size + 1, 0, none⟩ = some (.int .i64 0) := by subst hw3; go_simp
        have f0 : w3.frozen? ⟨w.heap.size, 0, none⟩ = false := by subst hw3; go_simp
        have f1 : w3.frozen? ⟨w.heap.size + 1, 0, none⟩ = false := by subst hw3; go_simp
        have ar : Arr w3 (w.heap.size + 1 + 1) 65 (gml (L.take 0)) := by
          have := Arr.new ((w.alloc (Obj.cells #[Value.int IntKind.i64 0] 45)).alloc (Obj.cells #[Value.int IntKind.i64 0] 3)) 65 16 (.int .i64 0) (by omega)
          rw [World.size_alloc, World.size_alloc] at this
          rw [← hw3]
          exact this
        clear hw3
        refine (callsIn_wide.2 (eachO_one L a L.length c w3 (H.out.later b3) hb)).mono ?_
        rintro e w4 ⟨g, k, f, rfl, ea⟩
        have d0 := (ea.bel.cell (p := ⟨w.heap.size, 0, none⟩) (by show w.heap.size < _; omega)).trans c0
        have d1 := (ea.bel.cell (p := ⟨w.heap.size + 1, 0, none⟩) (by show w.heap.size + 1 < _; omega)).trans c1
        have g0 := (ea.bel.frozen (p := ⟨w.heap.size, 0, none⟩) (by show w.heap.size < _; omega)).trans f0
        have g1 := (ea.bel.frozen (p := ⟨w.heap.size + 1, 0, none⟩) (by show w.heap.size + 1 < _; omega)).trans f1
        have ar4 := hide (ar.later ea.bel)
        have b4 : Below w.heap.size w w4 := b3.trans (ea.bel.mono (by omega))
        have z4 : w.heap.size + 3 ≤ w4.heap.size := by have := ea.bel.size; omega
        clear c0 c1 f0 f1 b3 ar
        obtain ⟨gb, lt, kc, fc, row, _⟩ := ea
        obtain ⟨l1, l2, l3⟩ := lt
        have lie : LieY yE w4 g 0 L := fun i x hx j u hu => by rw [Nat.zero_add]; exact row.cell kE i x hx j u hu
        have hN : Hid (g ≠ w.heap.size + 1 + 1 ∧ k ≠ w.heap.size + 1 + 1 ∧ f ≠ w.heap.size + 1 + 1) := by show _ ∧ _; omega
        clear z3 row
        have HB4 := hide b4
        have HZ4 := hide z4
        have HL := hide lie
        clear b4 z4 lie gb
        gi_wp2
        refine over_each (n := 4) (by omega) L 1 k f g rfl rfl (by omega) (by omega) hb l2 l3 l1 kc fc HL.out
          (ChkI w4 (w.heap.size + 1 + 1) L X)
          (fun cd i W => cd = .ret ∧ (W.cell? ⟨w.heap.size, 0, none⟩ = some (.int .i64 X.1) ∧ W.cell? ⟨w.heap.size + 1, 0, none⟩ = some (.int .i64 X.2)) ∧ Upd (fun k => w.heap.size ≤ k) w4 W)
          (fun i W W' row hi hg hr => ⟨up_row hi.1 hg hr, hi.2.1.upd (S := fun k => row = some k) (gupd hg (fun _ e => e)) (fun e => by have := hr _ e; have := HZ4.out; omega), hi.2.2⟩)
          (fun cd i W W' hi hg => ⟨hi.1, ⟨gcell hg hi.2.1.1 (fun e => by injection e with e; have := HZ4.out; omega), gcell hg hi.2.1.2 (fun e => by injection e with e; have := HZ4.out; omega)⟩, up_row hi.2.2 hg (fun r e => by cases e; rfl)⟩)
          (fun i W hi => ⟨hi.1.size, fun j hj => hi.1.block j (by rcases hj with rfl | rfl | rfl <;> assumption) (by have := hN.out; rcases hj with rfl | rfl | rfl <;> omega)⟩)
          ⟨Upd.refl _ _, ar4.out, hE.out⟩ ?round ?done ?stop
        case round =>
          rintro i x W hx ⟨u, hA, hf⟩ hlt
          have hil := (List.getElem?_eq_some_iff.1 hx).1
          have hst := ckA_at hx
          have htk : L.take (i + 1) = L.take i ++ [x] := by rw [List.take_add_one, hx]; rfl
          have hfx := (HF.out x (List.mem_of_getElem? hx)).ow
          have her : er (L.take i) x = if ckE x ≠ 0 then ckE x else if tw (L.take i) x then 64 else 0 := rfl
          have HST := hide hst
          have HTK := hide htk
          have HER := hide her
          clear hst htk her hx
          obtain ⟨xc, xn, ⟨ok, os, ov⟩⟩ := x
          dsimp only [En.val]
          have HA1 := hide hA
          have HU := hide u
          have HLT := hide hlt
          have HF1 := hide hf
          clear hA u hlt hf
          gi_wp2
          have zl := HZ4.out
          have hlt := HLT.out
          have u := HU.out
          have us := u.size
          refine ⟨⟨⟨u.alloc _, HA1.out.later ((Below.refl _ _).alloc (Nat.le_refl _) _), HF1.out⟩, Below.heap_alloc _ _ _ (by omega), Below.heap_alloc _ _ _ hlt⟩, ?_⟩
          rintro W2 ⟨u2, hA2, hf2⟩ hg2
          have HA2 := hide hA2
          clear hA2 HA1
          have e0 : W2.cell? ⟨W.heap.size, 0, none⟩ = some (.int .i64 xc) := gcell hg2 (World.cell?_alloc_at _ _ _ _ rfl) (fun e => by injection e with e; omega)
          have e1 : W2.cell? ⟨W.heap.size, 1, none⟩ = some (.int .i64 xn) := gcell hg2 (World.cell?_alloc_at _ _ _ _ rfl) (fun e => by injection e with e; omega)
          have e2 : W2.cell? ⟨W.heap.size, 2, none⟩ = some (.int .i64 ok) := gcell hg2 (World.cell?_alloc_at _ _ _ _ rfl) (fun e => by injection e with e; omega)
          have e3 : W2.cell? ⟨W.heap.size, 3, none⟩ = some (.int .i64 os) := gcell hg2 (World.cell?_alloc_at _ _ _ _ rfl) (fun e => by injection e with e; omega)
          have e4 : W2.cell? ⟨W.heap.size, 4, none⟩ = some (.string ov) := gcell hg2 (World.cell?_alloc_at _ _ _ _ rfl) (fun e => by injection e with e; omega)
          have hW2 : W.heap.size < W2.heap.size := by have := hg2.size; simp at this; omega
          have cc := hide (fun W => checkent_any xc xn ok os ov hfx W)
          clear hfx
          gi_wp2_with fail
          refine ⟨trivial, ?_⟩
          refine (CallsIn.inRound _ (callsIn_wide.2 (cc.out _))).mono ?_
          rintro e w5 ⟨rfl, b5⟩
          have HU5 := hide (u2.trans (Upd.of_below b5))
          have HA5 := hide (HA2.out.later b5)
          have e0 := (b5.cell (p := ⟨W.heap.size, 0, none⟩) hW2).trans e0
          have e1 := (b5.cell (p := ⟨W.heap.size, 1, none⟩) hW2).trans e1
          have i0 := (HU5.out.cell (p := ⟨w.heap.size, 0, none⟩) (by show w.heap.size < _; omega) (by show w.heap.size ≠ _; omega)).trans d0
          have j0 := (HU5.out.frozen (p := ⟨w.heap.size, 0, none⟩) (by show w.heap.size < _; omega) (by show w.heap.size ≠ _; omega)).trans g0
          have i1 := (HU5.out.cell (p := ⟨w.heap.size + 1, 0, none⟩) (by show w.heap.size + 1 < _; omega) (by show w.heap.size + 1 ≠ _; omega)).trans d1
          have j1 := (HU5.out.frozen (p := ⟨w.heap.size + 1, 0, none⟩) (by show w.heap.size + 1 < _; omega) (by show w.heap.size + 1 ≠ _; omega)).trans g1
          have HZ0 : Hid (w5.heap[w4.heap.size]? = W2.heap[w4.heap.size]? ∧ w5.heap[w4.heap.size + 1]? = W2.heap[w4.heap.size + 1]?) := ⟨b5.block _ (by omega), b5.block _ (by omega)⟩
          have HD : Hid (w4.heap.size ≠ w.heap.size ∧ w4.heap.size ≠ w.heap.size + 1 ∧ w4.heap.size ≠ w.heap.size + 1 + 1 ∧ w4.heap.size + 1 ≠ w.heap.size ∧ w4.heap.size + 1 ≠ w.heap.size + 1 ∧ w4.heap.size + 1 ≠ w.heap.size + 1 + 1) := by show _ ∧ _; omega
          have hv : Hid ((1 : Int) + (i : Int) = (i : Int) + 1) := by show _ = _; omega
          have RET : Hid (∀ v : Int, X = (v, (i : Int) + 1) → ∀ w6 : World, Upd (· = w.heap.size + 1 + 1) w4 w6 → (w6.heap[w4.heap.size]? = W2.heap[w4.heap.size]? ∧ w6.heap[w4.heap.size + 1]? = W2.heap[w4.heap.size + 1]?) → w6.cell? ⟨w.heap.size, 0, none⟩ = some (.int .i64 0) → w6.cell? ⟨w.heap.size + 1, 0, none⟩ = some (.int .i64 0) → ∀ af, eachPost (ChkI w4 (w.heap.size + 1 + 1) L X)
    (fun cd i W => cd = .ret ∧ (W.cell? ⟨w.heap.size, 0, none⟩ = some (.int .i64 X.1) ∧ W.cell? ⟨w.heap.size + 1, 0, none⟩ = some (.int .i64 X.2)) ∧ Upd (fun k => w.heap.size ≤ k) w4 W) w4.heap.size i W2 Exit.ret af ((w6.setCell ⟨w.heap.size, 0, none⟩ (Value.int .i64 v)).setCell ⟨w.heap.size + 1, 0, none⟩ (Value.int .i64 (1 + (i : Int))))) := by
            intro v hX w6 u6 hz6 k0 k1 af
            refine ⟨⟨?_, ?_⟩, rfl, ⟨?_, ?_⟩, ?_⟩
            · rw [Below.heap_setCell _ _ _ _ HD.out.2.1, Below.heap_setCell _ _ _ _ HD.out.1]
              exact hz6.1
            · rw [Below.heap_setCell _ _ _ _ HD.out.2.2.2.2.1, Below.heap_setCell _ _ _ _ HD.out.2.2.2.1]
              exact hz6.2
            · rw [hX]
              exact setc_other (setc_eq k0) (by omega)
            · rw [hX, ← hv.out]
              exact setc_eq (setc_other k1 (by omega))
            · refine Upd.setCell (S := fun k => w.heap.size ≤ k) (Upd.setCell (S := fun k => w.heap.size ≤ k) (u6.mono (fun k _ h => ?_)) (.inl ?_) _) (.inl ?_) _
              · rw [h]; omega
              · exact Nat.le_refl _
              · show w.heap.size ≤ w.heap.size + 1; omega
          clear e2 e3 e4 hg2 u2 HA2 cc b5
          have hckz := fun h => ckE_zero (e := ⟨xc, xn, ⟨ok, os, ov⟩⟩) h
          have HCZ := hide hckz
          clear hckz
          generalize hx : ckE ⟨xc, xn, ⟨ok, os, ov⟩⟩ = x at *
          have HX := hide hx
          clear hx
          by_cases hx0 : x = 0
          · subst hx0
            obtain ⟨p0, p1, p2, _⟩ := HCZ.out rfl
            dsimp only at p0 p1 p2
            obtain ⟨cN, rfl⟩ : ∃ cN : Nat, xc = (cN : Int) := ⟨xc.toNat, by omega⟩
            have hc16 : cN < 16 := by omega
            have a0 := HA5.out.cell (gml_get (L.take i) hc16)
            have af := HA5.out.free cN
            have htw := tw_iff ⟨cN, xn, ⟨ok, os, ov⟩⟩ p2 (L.take i)
            dsimp only at htw
            have HTW := hide htw
            have HGS : Hid (gm (L.take i) (cN : Int) < xn → (gml (L.take i)).set cN (.int .i64 xn) = gml (L.take i ++ [⟨cN, xn, ⟨ok, os, ov⟩⟩])) := fun h => gml_set (e := ⟨cN, xn, ⟨ok, os, ov⟩⟩) rfl hc16 h
            clear htw HCZ p0 p1
            generalize gm (L.take i) (cN : Int) = G at *
            by_cases hle : xn ≤ G
            · have hX : Hid (X = (64, (i : Int) + 1)) := by
                show _ = _
                rw [hf2, HST.out, HER.out]
                simp [HTW.out, hle]
              gi_wp2
              refine region_round (by kernel_rfl) (by kernel_rfl) rfl ?_
              repeat (go_big_quiet_step (fail))
              refine wpQuiet_nil ?_
              intro _ hw'
              obtain ⟨nq, hw''⟩ := hw'
              subst hw''
              gi_wp2
              exact RET.out 64 hX.out (w5.drewN nq) (HU5.out.drewN nq) HZ0.out i0 i1 _
            · have hX : Hid (X = ckA (L.take (i + 1)) (L.drop (i + 1))) := by
                show _ = _
                rw [hf2, HST.out, HER.out]
                simp [HTW.out, hle]
              have hlt2 : G < xn := by omega
              gi_wp2
              refine region_round (by kernel_rfl) (by kernel_rfl) rfl ?_
              repeat (go_big_quiet_step (fail))
              refine wpQuiet_nil ?_
              intro _ hw'
              obtain ⟨nq, hw''⟩ := hw'
              subst hw''
              gi_wp2
              refine ⟨⟨?_, ?_⟩, ?_, ?_, hX.out⟩
              · rw [Below.heap_setCell _ _ _ _ HD.out.2.2.1]
                exact HZ0.out.1
              · rw [Below.heap_setCell _ _ _ _ HD.out.2.2.2.2.2]
                exact HZ0.out.2
              · exact Upd.setCell (S := (· = w.heap.size + 1 + 1)) (HU5.out.drewN nq) (.inl rfl) _
              · rw [HTK.out, ← HGS.out hlt2]
                exact Arr.set (HA5.out.later (belN (Below.refl _ _) nq)) cN _
          · have hX : Hid (X = (x, (i : Int) + 1)) := by
              show _ = _
              rw [hf2, HST.out, HER.out]
              simp [hx0]
            gi_wp2
            exact RET.out x hX.out w5 HU5.out HZ0.out i0 i1 _
        case done =>
          rintro W ⟨u, hA, hf⟩ hK
          have zl := HZ4.out
          rw [ckA_end] at hf
          have i0 := (u.cell (p := ⟨w.heap.size, 0, none⟩) (by show w.heap.size < _; omega) (by show w.heap.size ≠ _; omega)).trans d0
          have j0 := (u.frozen (p := ⟨w.heap.size, 0, none⟩) (by show w.heap.size < _; omega) (by show w.heap.size ≠ _; omega)).trans g0
          have i1 := (u.cell (p := ⟨w.heap.size + 1, 0, none⟩) (by show w.heap.size + 1 < _; omega) (by show w.heap.size + 1 ≠ _; omega)).trans d1
          have j1 := (u.frozen (p := ⟨w.heap.size + 1, 0, none⟩) (by show w.heap.size + 1 < _; omega) (by show w.heap.size + 1 ≠ _; omega)).trans g1
          clear hA
          gi_wp2
          have hK2 : ((W.setCell ⟨w.heap.size, 0, none⟩ (Value.int IntKind.i64 0)).setCell ⟨w.heap.size + 1, 0, none⟩ (Value.int IntKind.i64 0)).heap[w4.heap.size]? = some (.deferred (some [])) := by
            rw [Below.heap_setCell _ _ _ _ (by show w4.heap.size ≠ w.heap.size + 1; omega), Below.heap_setCell _ _ _ _ (by show w4.heap.size ≠ w.heap.size; omega)]
            exact hK
          refine ⟨by simp, .inl ⟨_, _, rfl, run_takeDeferred hK2, ?_⟩⟩
          have hc5 : (((W.setCell ⟨w.heap.size, 0, none⟩ (Value.int IntKind.i64 0)).setCell ⟨w.heap.size + 1, 0, none⟩ (Value.int IntKind.i64 0)).putObj w4.heap.size (.deferred none)).cell? ⟨w.heap.size, 0, none⟩ = some (.int .i64 0) := gcell (grownBy_putObj' _ _ _) (setc_other (setc_eq i0) (by omega)) (fun e => by injection e with e; omega)
          have hc6 : (((W.setCell ⟨w.heap.size, 0, none⟩ (Value.int IntKind.i64 0)).setCell ⟨w.heap.size + 1, 0, none⟩ (Value.int IntKind.i64 0)).putObj w4.heap.size (.deferred none)).cell? ⟨w.heap.size + 1, 0, none⟩ = some (.int .i64 0) := gcell (grownBy_putObj' _ _ _) (setc_eq (setc_other i1 (by omega))) (fun e => by injection e with e; omega)
          refine ⟨.tuple #[.int .i64 0, .int .i64 0], ?_, by rw [hf], ?_⟩
          · simp [results, Try.f24, go_sem, hc5, hc6]
          · exact ((((HB4.out.trans (u.below (by omega) (fun _ h => by omega))).setCell (by show w.heap.size ≤ w.heap.size; omega) _).setCell (by show w.heap.size ≤ w.heap.size + 1; omega) _).grown (grownBy_putObj' _ _ _) (by simp [World.setCell]; have := u.size; omega) (fun k e => by cases e; omega))
        case stop =>
          rintro cd i W hi ⟨rfl, ⟨hc0, hc1⟩, u⟩ hK
          have zl := HZ4.out
          gi_wp2
          refine ⟨by simp, .inl ⟨_, _, rfl, run_takeDeferred hK, ?_⟩⟩
          have hc5 : (W.putObj w4.heap.size (.deferred none)).cell? ⟨w.heap.size, 0, none⟩ = some (.int .i64 X.1) := gcell (grownBy_putObj' _ _ _) hc0 (fun e => by injection e with e; omega)
          have hc6 : (W.putObj w4.heap.size (.deferred none)).cell? ⟨w.heap.size + 1, 0, none⟩ = some (.int .i64 X.2) := gcell (grownBy_putObj' _ _ _) hc1 (fun e => by injection e with e; omega)
          refine ⟨_, ?_, rfl, ?_⟩
          · simp [results, Try.f24, go_sem, hc5, hc6]
          · exact ((HB4.out.trans (u.below (by omega) (fun _ h => h))).grown (grownBy_putObj' _ _ _) (by have := u.size; omega) (fun k e => by cases e; omega))

end Go.Proofs.Ytolnkoneilipeaa
