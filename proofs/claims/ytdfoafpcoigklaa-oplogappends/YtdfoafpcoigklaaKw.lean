import Derived.Test.YtdfoafpcoigklaaKr
import Derived.Test.YtdfoafpcoigklaaKv
namespace Go.Proofs.Ytdfoafpcoigklaa
open Go.ChangeShapes Go.WideShapes Go.ChangeAt Go.RowKit Go.Maps
open Classical
set_option linter.unusedVariables false
set_option linter.unusedSimpArgs false

set_option maxRecDepth 100000 in
set_option maxHeartbeats 2000000 in
theorem appends6_walk (L : List En) (x : En) (a : Option Addr) (c : Nat) (k : Int) (w : World) (h : SlY yE w a L.length c L) (hf : ∀ e ∈ L, e.fits) (hx : x.fits) (hm : L.length * 48 ≤ 140737488351232) :
    Calls Try.prog 4 #[.slice a L.length c, .int .i64 k, .agg #[.int .i64 x.c, .int .i64 x.n, .int .i64 x.o.k, .int .i64 x.o.s, .string x.o.v]] w fun e w' => e = .returned (.bool true) ∧ Below w.heap.size w w' := by
  have H := hide h
  have HF := hide hf
  have HX := hide hx
  have HM : Hid (L.length * 48 ≤ 140737488355328) := by show _ ≤ _; omega
  have HM1 := hide hm
  clear h hf hx hm
  obtain ⟨WX, hWX⟩ : ∃ WX, w.alloc (.cells #[.int .i64 x.c, .int .i64 x.n, .int .i64 x.o.k, .int .i64 x.o.s, .string x.o.v] 41) = WX := ⟨_, rfl⟩
  have bX : Below w.heap.size w WX := by rw [← hWX]; exact (Below.refl _ _).alloc (Nat.le_refl _) _
  have zX : WX.heap.size = w.heap.size + 1 := by rw [← hWX]; simp
  have p0 : WX.cell? ⟨w.heap.size, 0, none⟩ = some (.int .i64 x.c) := by subst hWX; go_simp
  have p1 : WX.cell? ⟨w.heap.size, 1, none⟩ = some (.int .i64 x.n) := by subst hWX; go_simp
  have p2 : WX.cell? ⟨w.heap.size, 2, none⟩ = some (.int .i64 x.o.k) := by subst hWX; go_simp
  have p3 : WX.cell? ⟨w.heap.size, 3, none⟩ = some (.int .i64 x.o.s) := by subst hWX; go_simp
  have p4 : WX.cell? ⟨w.heap.size, 4, none⟩ = some (.string x.o.v) := by subst hWX; go_simp
  have HWX := hide hWX
  clear hWX
  obtain ⟨WG, hWG⟩ : ∃ WG, WX.alloc (.cells #[.slice none 0 0, .slice none 0 0, .slice none 0 0, .slice none 0 0, .slice none 0 0, .slice none 0 0, .slice none 0 0, .slice none 0 0, .slice none 0 0, .slice none 0 0] 29) = WG := ⟨_, rfl⟩
  have bG : Below WX.heap.size WX WG := by rw [← hWG]; exact (Below.refl _ _).alloc (Nat.le_refl _) _
  have G0 : GY yE zE 4 (fun _ => .slice none 0 0) WG WX.heap.size (WX.heap.size + 1) (.slice none 0 0) (.slice none 0 0) [] [] := by rw [← hWG]; exact GY.new yE zE 4 (by omega) WX 29
  have zG : WG.heap.size = w.heap.size + 2 := by rw [← hWG, World.size_alloc, zX]
  have HWG := hide hWG
  clear hWG
  rw [zX] at G0
  have bD : Below WG.heap.size WG WG.drew := (Below.refl _ _).drew
  have bWG : Below w.heap.size w WG := bX.trans (bG.mono (by omega))
  have cg := hide (given_ent _ (w.heap.size + 1) (w.heap.size + 1 + 1) _ _ [] [] a L.length c L WG.drew (G0.bel bD) ((H.out.later bWG).later bD) HM1.out (by simp) rfl)
  have q0 := (bG.cell (p := ⟨w.heap.size, 0, none⟩) (by show w.heap.size < _; omega)).trans p0
  have q1 := (bG.cell (p := ⟨w.heap.size, 1, none⟩) (by show w.heap.size < _; omega)).trans p1
  have q2 := (bG.cell (p := ⟨w.heap.size, 2, none⟩) (by show w.heap.size < _; omega)).trans p2
  have q3 := (bG.cell (p := ⟨w.heap.size, 3, none⟩) (by show w.heap.size < _; omega)).trans p3
  have q4 := (bG.cell (p := ⟨w.heap.size, 4, none⟩) (by show w.heap.size < _; omega)).trans p4
  have HZG := hide zG
  have HBG := hide bWG
  have HZX := hide zX
  have KEEP : Hid (∀ w1, Upd (fun k => k = w.heap.size + 1 ∨ (Value.slice none 0 0).ownBlock = some k ∨ (Value.slice none 0 0).ownBlock = some k) WG.drew w1 → Below w.heap.size w w1 ∧ w.heap.size < w1.heap.size ∧ (w1.cell? ⟨w.heap.size, 0, none⟩ = some (.int .i64 x.c) ∧ w1.cell? ⟨w.heap.size, 1, none⟩ = some (.int .i64 x.n) ∧ w1.cell? ⟨w.heap.size, 2, none⟩ = some (.int .i64 x.o.k) ∧ w1.cell? ⟨w.heap.size, 3, none⟩ = some (.int .i64 x.o.s) ∧ w1.cell? ⟨w.heap.size, 4, none⟩ = some (.string x.o.v))) := fun w1 u => by
    have hs := u.size
    have hz : WG.drew.heap.size = w.heap.size + 2 := zG
    have hn : ¬ (w.heap.size = w.heap.size + 1 ∨ (Value.slice none 0 0).ownBlock = some w.heap.size ∨ (Value.slice none 0 0).ownBlock = some w.heap.size) := by
      rintro (h | h | h)
      · omega
      · cases h
      · cases h
    refine ⟨(bWG.trans (bD.mono (by omega))).trans (u.below (by omega) (fun k hk => ?_)), by omega, ?_⟩
    · rcases hk with rfl | hk | hk
      · omega
      · cases hk
      · cases hk
    · exact ⟨(u.cell (p := ⟨w.heap.size, 0, none⟩) (by show w.heap.size < _; omega) hn).trans q0, (u.cell (p := ⟨w.heap.size, 1, none⟩) (by show w.heap.size < _; omega) hn).trans q1, (u.cell (p := ⟨w.heap.size, 2, none⟩) (by show w.heap.size < _; omega) hn).trans q2, (u.cell (p := ⟨w.heap.size, 3, none⟩) (by show w.heap.size < _; omega) hn).trans q3, (u.cell (p := ⟨w.heap.size, 4, none⟩) (by show w.heap.size < _; omega) hn).trans q4⟩
  have CA := hide (fun (W : World) (g c1 : Nat) (hs : SlY yE W (some ⟨g, 0, none⟩) L.length c1 L) => appendO_any L x (some ⟨g, 0, none⟩) L.length c1 k W hs HF.out HX.out HM.out)
  have CR := hide (fun (W : World) (hb : Below w.heap.size w W) => refappend6_any L x a L.length c k W (H.out.later hb) HF.out HX.out HM.out)
  clear G0 bD bG bX bWG zG zX p0 p1 p2 p3 p4 H HF HX HM HM1
  generalize spE L k ((L.length : Int) + 1) [x] = E at *
  generalize spL L k ((L.length : Int) + 1) [x] = Z at *
  obtain ⟨xc, xn, ⟨ok, os, ov⟩⟩ := x
  dsimp only at *
  go_enter Try.func4, Try.ntmps4
  go_wp2_with fail
  rw [HWX.out, HWG.out]
  go_region_with (first
    | (go_at_call 17; refine cg.out.mono ?_; rintro e w1 ⟨g, c1, va, vb, g5, k5, rfl, s1, hg, G1, U1, _, _⟩; obtain ⟨B1, z1, r0, r1, r2, r3, r4⟩ := KEEP.out w1 U1; have S1 := hide s1; have G1h := hide G1; clear G1 s1 U1 hg)
    | (go_at_call 21; refine (CA.out w1 g c1 S1.out).mono ?_; rintro e w2 ⟨v2, rfl, o2, b2⟩; have O2 := hide o2; clear o2))
  all_goals
    obtain ⟨a2, c2, hv2, _⟩ := O2.out.form
    generalize Z.length = m2 at hv2
    subst hv2
    have B2 := hide (B1.trans (b2.mono (by omega)))
    have s0 := (b2.cell (p := ⟨w.heap.size, 0, none⟩) z1).trans r0
    have s1 := (b2.cell (p := ⟨w.heap.size, 1, none⟩) z1).trans r1
    have s2 := (b2.cell (p := ⟨w.heap.size, 2, none⟩) z1).trans r2
    have s3 := (b2.cell (p := ⟨w.heap.size, 3, none⟩) z1).trans r3
    have s4 := (b2.cell (p := ⟨w.heap.size, 4, none⟩) z1).trans r4
    have G2 := hide (G1h.out.bel b2)
    clear r0 r1 r2 r3 r4 q0 q1 q2 q3 q4 cg CA KEEP S1 G1h b2 HWX HWG
    go_wp2_with fail
    refine (CR.out w2 B2.out).mono ?_
    rintro e w3 ⟨v3, rfl, o3, b3⟩
    have O3 := hide o3
    obtain ⟨a3, c3, hv3, _⟩ := o3.form
    generalize Z.length = m3 at hv3
    subst hv3
    have G3 := hide (G2.out.bel b3)
    have Q2 := hide ((O2.out.grow b3).sl' kE)
    have Q3 := hide (O3.out.sl' kE)
    obtain rfl : m2 = Z.length := Q2.out.len.symm
    obtain rfl : m3 = Z.length := Q3.out.len.symm
    have HB := hide (B2.out.trans (b3.mono B2.out.size))
    have c1h := hide (sameents_any Z a2 a3 c2 c3 w3 Q2.out Q3.out)
    have ci := fun n => hide (intactE_any (w.heap.size + 1) (w.heap.size + 1 + 1) va vb _ _ (w3.drewN n) (G3.out.bel (belN (Below.refl _ _) n)) rfl)
    clear O2 O3 o3 b3 s0 s1 s2 s3 s4 CR G2 G3 Q2 Q3 B2
    generalize Z.length = m2 at *
    go_wp2_with fail
    refine c1h.out.mono ?_
    rintro e w6 ⟨rfl, n6, rfl⟩
    go_wp2_with fail
    refine (ci n6).out.mono ?_
    rintro e w8 ⟨rfl, n8, rfl⟩
    go_wp2
    go_ret
    exact ⟨rfl, belN HB.out (n6 + n8)⟩
set_option maxRecDepth 100000 in
/-- An entry that came in by value. -/
theorem open_ent {H : Type} {enc : TypeId × Value → H} {W : World} {base : Nat} {v : Value} {d : DataW H} {p : List MemPlace} (hv : Value.okWide Try.prog W .any base 41 v) (h : DataW.Trod enc Try.prog W 0 (fun _ => true) true 41 v d p) :
    ∃ x : En, v = .agg #[.int .i64 x.c, .int .i64 x.n, .int .i64 x.o.k, .int .i64 x.o.s, .string x.o.v] ∧ x.fits := by
  obtain ⟨cs, rfl, hsz⟩ := okWide_struct Try.underlying41 hv
  obtain ⟨fuel, hf⟩ := h
  obtain ⟨o, ho, e⟩ := open_enc hf
  refine ⟨o, ?_, ho⟩
  simp [Value.cells, En.cs] at e
  have : cs = #[.int .i64 o.c, .int .i64 o.n, .int .i64 o.o.k, .int .i64 o.o.s, .string o.o.v] := by rw [← Array.toList_inj]; exact e
  rw [this]
theorem appends6_came (a : Option Addr) (len cap : Nat) (k : Int) (x : En) (W : World) (h : CameE W a len cap) (hx : x.fits) :
    Calls Try.prog 4 #[.slice a len cap, .int .i64 k, .agg #[.int .i64 x.c, .int .i64 x.n, .int .i64 x.o.k, .int .i64 x.o.s, .string x.o.v]] W fun e w' => e = .returned (.bool true) ∧ Below W.heap.size W w' := by
  obtain ⟨P, hs, hf, hm⟩ := h
  obtain rfl := hs.len
  exact appends6_walk P x a cap k W hs hf hx hm

end Go.Proofs.Ytdfoafpcoigklaa
