import Derived.Test.YtolnkoneilipeaaIu4
import Derived.Test.YtolnkoneilipeaaDo
import Derived.Lib.MinMax
namespace Go.Proofs.Ytolnkoneilipeaa
open Go.RowKit Go.Shelf
open Classical
set_option linter.unusedVariables false
attribute [local go_sem] Oper.semAt_some

theorem neqEn9 (a b c d : Int) (v : ByteArray) (A B : Nat) (w : World) : (do eqGuard .neq 40 (.tmp A) (.tmp B) (.agg #[.int .i64 a, .int .i64 b, .int .i64 c, .int .i64 d, .string v]) (.agg #[.int .i64 a, .int .i64 b, .int .i64 c, .int .i64 d, .string v]); binOp .neq 40 (.agg #[.int .i64 a, .int .i64 b, .int .i64 c, .int .i64 d, .string v]) (.agg #[.int .i64 a, .int .i64 b, .int .i64 c, .int .i64 d, .string v]) : Sem Value).run Try.prog w = .ok (.bool false) w := by
  go_simp
theorem wrap_id {x : Int} (h1 : -9223372036854775808 ≤ x) (h2 : x ≤ 9223372036854775807) : IntKind.i64.wrap x = x := by
  rw [IntKind.wrap_i64]
  omega
set_option maxRecDepth 100000 in
set_option maxHeartbeats 8000000 in
theorem each6_walk (D : List En) (a : Option Addr) (c : Nat) (fr stop : Int) (w : World) (hD : SlY yE w a D.length c D) (hf : ∀ p ∈ D, p.fits) (hDl : D.length * 48 ≤ 140737488351232) (hfr : (Lit.int .i64 fr).wf = true) (hs : (Lit.int .i64 stop).wf = true) :
    Calls Try.prog 4 #[.slice a D.length c, .int .i64 fr, .int .i64 stop] w fun e w' => e = .returned (.bool true) ∧ Below w.heap.size w w' := by
  have HD := hide hD
  have hmx := hD.max
  have hcp := hD.cap
  unfold maxLen at hmx
  have hdl := hide (show D.length * 48 ≤ 140737488355328 by omega)
  obtain ⟨s, hsl, hmm⟩ : ∃ s : Nat, s ≤ D.length ∧ min (max fr 1) ((D.length : Int) + 1) = (s : Int) + 1 := ⟨(min (max fr 1) ((D.length : Int) + 1) - 1).toNat, by omega, by omega⟩
  have HMM := hide hmm
  clear hD hf hmm
  refine (callsIn_wide (n := 6)).1 ?_
  refine callsIn_of_wp_marks Try.func4 rfl trivial ?_ rfl
  simp only [Try.ntmps4, List.size_toArray, List.length_cons, List.length_nil, Nat.reduceAdd, Nat.reduceSub, Array.replicate_succ, Array.replicate_zero, List.push_toArray, List.append_toArray, List.nil_append, List.cons_append]
  obtain ⟨w1, hw1⟩ : ∃ w1, (((w.alloc (Obj.cells #[Value.slice a D.length c] 31)).alloc (Obj.cells #[Value.int .i64 stop] 3)).alloc (Obj.cells #[Value.bool false] 4)) = w1 := ⟨_, rfl⟩
  have b1 : Below w.heap.size w w1 := by rw [← hw1]; exact (((Below.refl _ _).alloc (Nat.le_refl _) _).alloc (by simp) _).alloc (by simp; omega) _
  have z1 := hide (show w1.heap.size = w.heap.size + 3 by rw [← hw1]; simp)
  have c2 : w1.cell? ⟨w.heap.size, 0, none⟩ = some (.slice a D.length c) := by subst hw1; go_simp
  have c3 : w1.cell? ⟨w.heap.size + 1, 0, none⟩ = some (.int .i64 stop) := by subst hw1; go_simp
  have c4 : w1.cell? ⟨w.heap.size + 1 + 1, 0, none⟩ = some (.bool false) := by subst hw1; go_simp
  have f4 : w1.frozen? ⟨w.heap.size + 1 + 1, 0, none⟩ = false := by subst hw1; go_simp
  refine wpIn_wide.2 ?_
  go_wp2_with fail
  refine (copyent_any a D.length c D w1 (HD.out.later b1) hdl.out).mono ?_
  rintro e w2 ⟨v2, rfl, o2, b2⟩
  clear hw1
  obtain ⟨ag, cg, hv2, hcg1, hcg2, hagn, hagx⟩ := o2.form
  subst hv2
  have sl2 := o2.slY kE
  unfold maxLen at hcg2
  go_wp2_with fail
  refine (eachO_any D ag D.length cg fr s hsl HMM.out w2 sl2 hdl.out).mono ?_
  rintro e w3 ⟨g, k, f, rfl, ea⟩
  have b3 := ea.bel
  obtain ⟨hgk0, hgk1, hgk2⟩ := ea.gb
  obtain ⟨hgl, hkl, hfl⟩ := ea.lt
  have hn6 := func_nilO k f
  have z2 := b2.size
  have z3 := b3.size
  have c2 := (b3.cell (p := ⟨w.heap.size, 0, none⟩) (by show w.heap.size < _; have := z1.out; omega)).trans ((b2.cell (p := ⟨w.heap.size, 0, none⟩) (by show w.heap.size < _; have := z1.out; omega)).trans c2)
  have c3 := (b3.cell (p := ⟨w.heap.size + 1, 0, none⟩) (by show w.heap.size + 1 < _; have := z1.out; omega)).trans ((b2.cell (p := ⟨w.heap.size + 1, 0, none⟩) (by show w.heap.size + 1 < _; have := z1.out; omega)).trans c3)
  have c4 := (b3.cell (p := ⟨w.heap.size + 1 + 1, 0, none⟩) (by show w.heap.size + 1 + 1 < _; have := z1.out; omega)).trans ((b2.cell (p := ⟨w.heap.size + 1 + 1, 0, none⟩) (by show w.heap.size + 1 + 1 < _; have := z1.out; omega)).trans c4)
  have f4 := (b3.frozen (p := ⟨w.heap.size + 1 + 1, 0, none⟩) (by show w.heap.size + 1 + 1 < _; have := z1.out; omega)).trans ((b2.frozen (p := ⟨w.heap.size + 1 + 1, 0, none⟩) (by show w.heap.size + 1 + 1 < _; have := z1.out; omega)).trans f4)
  have y0 : w.heap.size < w3.heap.size := by have := z1.out; omega
  have y1 : w.heap.size + 1 < w3.heap.size := by have := z1.out; omega
  have y2 : w.heap.size + 1 + 1 < w3.heap.size := by have := z1.out; omega
  have HEA := hide ea
  clear ea
  go_wp2_with fail
  refine (sameents_any D ag a cg c _ ((sl2.later b3).later ((Below.refl _ _).alloc (Nat.le_refl _) _)) (((HD.out.later b1).later b2).later (b3.trans ((Below.refl _ _).alloc (by have := b3.size; omega) _)))).mono ?_
  rintro e w4 ⟨rfl, nq, hq4⟩
  have b4 : Below w3.heap.size w3 w4 := by rw [hq4]; exact belN ((Below.refl _ _).alloc (Nat.le_refl _) _) nq
  have z4 : w3.heap.size < w4.heap.size := by rw [hq4]; simp [World.drewN]
  have c6 : w4.cell? ⟨w3.heap.size, 0, none⟩ = some (.func (.func 17) #[] #[.pointer (some ⟨k, 0, none⟩), .pointer (some ⟨f, 0, none⟩)]) := by rw [hq4]; go_simp
  have c2 := (b4.cell (p := ⟨w.heap.size, 0, none⟩) y0).trans c2
  have c3 := (b4.cell (p := ⟨w.heap.size + 1, 0, none⟩) y1).trans c3
  have c4 := (b4.cell (p := ⟨w.heap.size + 1 + 1, 0, none⟩) y2).trans c4
  have f4 := (b4.frozen (p := ⟨w.heap.size + 1 + 1, 0, none⟩) y2).trans f4
  have kc := (b4.cell (p := ⟨k, 0, none⟩) hkl).trans HEA.out.kc
  have fc := (b4.cell (p := ⟨f, 0, none⟩) hfl).trans HEA.out.fc
  have o4 := HEA.out.row.grow b4
  have ow4 : OwnY yE w1.heap.size w4 (.slice ag D.length cg) D := (o2.grow b3).grow b4
  have sd4 : SlY yE w4 a D.length c D := (((HD.out.later b1).later b2).later b3).later b4
  have bw4 : Below w.heap.size w w4 := ((b1.trans (b2.mono (by have := z1.out; omega))).trans (b3.mono (by have := z1.out; omega))).trans (b4.mono (by have := z1.out; omega))
  have hab := hide (show ∀ x, a = some x → D ≠ [] → x.block < w.heap.size from fun x hx hne => by
    obtain ⟨q, o, e, hq', _⟩ := (HD.out.at_ x hx).resolve_left hne
    rw [e]
    exact hq')
  have HO4 := hide o4
  have HW4 := hide ow4
  have HD4 := hide sd4
  have HB4 := hide bw4
  have hagz := hide (show ∀ z, ag = some z → w1.heap.size ≤ z.block ∧ z.block < w2.heap.size from fun z hz => by
    obtain ⟨g', e, h1, h2⟩ := hagx z hz
    rw [e]
    exact ⟨h1, h2⟩)
  clear hq4 o4 ow4 sd4 bw4 sl2 o2 hagx hagn b1 HD HEA
  go_wp2
  go_loopw [9] (fun i wr => ∃ (j : Nat) (X : List En), i = .int .i64 (j : Int) ∧ j ≤ D.length ∧ X.length = D.length ∧ OwnY yE w1.heap.size wr (.slice ag D.length cg) X ∧ Upd (fun q => ∃ z, ag = some z ∧ q = z.block) w4 wr) (fun i _ => D.length - (intOf i).toNat)
  case atStart => exact ⟨0, D, rfl, Nat.zero_le _, rfl, HW4.out, Upd.refl _ _⟩
  case round =>
    obtain ⟨j, X, rfl, hj, hX, oX, uX⟩ := hrel
    by_cases hlt : j < D.length
    · obtain ⟨go, rfl⟩ : ∃ go, ag = some ⟨go, 0, none⟩ := by
        cases ag with
        | none =>
          obtain ⟨_, _, e, _, _, hn, _⟩ := oX.form
          injection e with e1 e2 e3
          have := (hn e1.symm).1
          rw [this] at hX
          simp at hX
          omega
        | some z =>
          obtain ⟨_, _, e, _, _, _, hx⟩ := oX.form
          injection e with e1 e2 e3
          obtain ⟨g', e4, _⟩ := hx z e1.symm
          exact ⟨g', by rw [e4]⟩
      obtain ⟨dk, hgk⟩ : ∃ d, X[j]? = some d := ⟨_, List.getElem?_eq_getElem (show j < X.length by omega)⟩
      have hXl := hide (show (X.set j ⟨-9, 0, ⟨0, 0, ByteArray.empty⟩⟩).length = D.length by simp [hX])
      have uXh := hide uX
      have HG := hide hgk
      have HOX := hide oX
      clear hgk hX oX uX
      go_wp2_with (refine storeY kE _ rfl 40 (.tmp 50) (.tmp 49) rfl w1.heap.size go D.length cg X j 0 dk ⟨-9, 0, ⟨0, 0, ByteArray.empty⟩⟩ _ rfl rfl HG.out (by kernel_rfl) (by exact (by decide : 5 ≤ 5)) rfl HOX.out ?zs)
      intro w5 o5 u5 z5
      have HO5 := hide o5
      have HU5 := hide u5
      clear o5 u5 z5 HOX
      go_wp2
      go_roundw
      case rel => exact ⟨j + 1, _, by go_num, by omega, hXl.out, HO5.out, uXh.out.trans (HU5.out.mono (fun k _ e => ⟨_, rfl, e⟩))⟩
      case measure => simp [intOf]; omega
    · have hns : ∀ q, (q < w1.heap.size ∨ w2.heap.size ≤ q) → ¬ ∃ z, ag = some z ∧ q = z.block := by
        rintro q hq ⟨z, e, rfl⟩
        have := hagz.out z e
        omega
      have hz1 := z1.out
      have d2 := (uX.cell (p := ⟨w.heap.size, 0, none⟩) (by show w.heap.size < _; omega) (hns _ (.inl (by show w.heap.size < _; omega)))).trans c2
      have d3 := (uX.cell (p := ⟨w.heap.size + 1, 0, none⟩) (by show w.heap.size + 1 < _; omega) (hns _ (.inl (by show w.heap.size + 1 < _; omega)))).trans c3
      have d4 := (uX.cell (p := ⟨w.heap.size + 1 + 1, 0, none⟩) (by show w.heap.size + 1 + 1 < _; omega) (hns _ (.inl (by show w.heap.size + 1 + 1 < _; omega)))).trans c4
      have g4 := (uX.frozen (p := ⟨w.heap.size + 1 + 1, 0, none⟩) (by show w.heap.size + 1 + 1 < _; omega) (hns _ (.inl (by show w.heap.size + 1 + 1 < _; omega)))).trans f4
      have d6 := (uX.cell (p := ⟨w3.heap.size, 0, none⟩) z4 (hns _ (.inr (by show _ ≤ w3.heap.size; omega)))).trans c6
      have dk := (uX.cell (p := ⟨k, 0, none⟩) (by show k < _; omega) (hns _ (.inr (by show _ ≤ k; omega)))).trans kc
      have df := (uX.cell (p := ⟨f, 0, none⟩) (by show f < _; omega) (hns _ (.inr (by show _ ≤ f; omega)))).trans fc
      have dl : LieY yE wr g 0 (D.drop s) := fun i x hx j u hu => by
        rw [Nat.zero_add]
        exact (uX.cell (p := ⟨g, i * yE.k + j, none⟩) (by show g < _; omega) (hns _ (.inr (by show _ ≤ g; omega)))).trans (HO4.out.cell kE i x hx j u hu)
      have ds : SlY yE wr a D.length c D := HD4.out.upd uX (fun x hx hne => by
        refine hns _ (.inl ?_)
        have := hab.out x hx hne
        omega)
      have db : Below w.heap.size w wr := HB4.out.trans (uX.below (by omega) (fun q hq => by
        obtain ⟨z, e, rfl⟩ := hq
        have := hagz.out z e
        omega))
      have zr := uX.size
      have hm0 : w3.heap.size < wr.heap.size := by omega
      have hgr0 : g < wr.heap.size := by omega
      have hkr0 : k < wr.heap.size := by omega
      have hfr0 : f < wr.heap.size := by omega
      have HL0 := hide dl
      have HS0 := hide ds
      have HB0 := hide db
      clear dl ds db uX oX hX hns HW4 HO4 HD4 HB4 c2 c3 c4 f4 c6 kc fc b2 b3 b4 z2 z3
      go_wp2
      obtain ⟨Fv, hFv⟩ : ∃ Fv : Int, max fr 1 = Fv := ⟨_, rfl⟩
      rw [hFv]
      have HMM2 : Hid (min Fv ((D.length : Int) + 1) = (s : Int) + 1 ∧ 1 ≤ Fv ∧ Fv ≤ 9223372036854775807) := by
        have h1 := HMM.out
        have h2 := i64_wf hfr
        show _ ∧ _ ∧ _
        omega
      obtain ⟨w8, hw8⟩ : ∃ w8, wr.alloc (Obj.cells #[Value.int .i64 Fv] 3) = w8 := ⟨_, rfl⟩
      obtain ⟨pf, hpf⟩ : ∃ pf, wr.heap.size = pf := ⟨_, rfl⟩
      have z8 := hide (show w8.heap.size = pf + 1 by rw [← hw8, ← hpf]; simp)
      have z8' : wr.heap.size + 1 = w8.heap.size := by rw [← hw8]; simp
      have b8 : Below wr.heap.size wr w8 := by rw [← hw8]; exact (Below.refl _ _).alloc (Nat.le_refl _) _
      have dF : w8.cell? ⟨pf, 0, none⟩ = some (.int .i64 Fv) := by rw [← hw8, ← hpf]; exact World.cell?_alloc_at _ _ _ _ rfl
      have d2 := (b8.cell (p := ⟨w.heap.size, 0, none⟩) (by show w.heap.size < _; omega)).trans d2
      have d3 := (b8.cell (p := ⟨w.heap.size + 1, 0, none⟩) (by show w.heap.size + 1 < _; omega)).trans d3
      have d4 := (b8.cell (p := ⟨w.heap.size + 1 + 1, 0, none⟩) (by show w.heap.size + 1 + 1 < _; omega)).trans d4
      have g4 := (b8.frozen (p := ⟨w.heap.size + 1 + 1, 0, none⟩) (by show w.heap.size + 1 + 1 < _; omega)).trans g4
      have d6 := (b8.cell (p := ⟨w3.heap.size, 0, none⟩) hm0).trans d6
      have dk := (b8.cell (p := ⟨k, 0, none⟩) hkr0).trans dk
      have df := (b8.cell (p := ⟨f, 0, none⟩) hfr0).trans df
      have HL : Hid (LieY yE w8 g 0 (D.drop s)) := hide (fun i x hx j u hu => (b8.cell (p := ⟨g, 0 + i * yE.k + j, none⟩) hgr0).trans (HL0.out i x hx j u hu))
      have HS := hide (HS0.out.later b8)
      have HB := hide (HB0.out.trans (b8.mono (by omega)))
      have hm : w3.heap.size < w8.heap.size := by omega
      have hgr : g < w8.heap.size := by omega
      have hkr : k < w8.heap.size := by omega
      have hfr2 : f < w8.heap.size := by omega
      have hpl : pf < w8.heap.size := by omega
      rw [hw8, z8', hpf]
      clear hw8 hpf b8 HL0 HS0 HB0 hm0 hgr0 hkr0 hfr0 z8' zr hFv hfr HMM
      have hKL : Hid ((D.drop s).length = D.length - s) := by show _ = _; simp
      refine (wpIn_wide (n := 6)).1 ?_
      refine wpIn_loop_k (fun a' W => ∃ (t pt : Nat) (rs : List Nat) (ds : List Deferred) (u0 u1 u2 u4 u7 u9 u12 u13 u14 u15 u16 u17 u18 u19 u20 u21 u22 u23 u24 u25 u26 u27 u28 u29 u30 u31 u32 u33 u34 u35 u36 u37 u38 u39 u40 u41 u42 u43 u44 u45 u46 u47 u48 u49 u50 u51 u52 u53 u54 u55 u56 u57 u58 u59 u60 u61 u62 u63 u64 u65 u66 u67 u68 u69 u70 u71 u72 u73 u74 u75 u76 u77 u78 u79 u80 u81 u82 u83 u84 u85 u86 u87 u88 u89 u90 u91 u92 u93 u94 u95 u96 u97 u98 u99 u100 u101 u102 u103 u104 u105 u106 u107 u108 u109 u110 u111 u112 u113 u114 u115 u116 u117 u118 u119 u120 u121 u122 u123 u124 u125 u126 u127 u128 u129 u130 u131 u132 u133 u134 u135 u136 u137 u138 u139 u140 u141 u142 u143 u144 u145 u146 : Value), TI w8 t pt rs ds W ∧ a' = ⟨#[u0, u1, u2, .pointer (some ⟨w.heap.size, 0, none⟩), u4, .pointer (some ⟨w.heap.size + 1, 0, none⟩), .pointer (some ⟨w.heap.size + 1 + 1, 0, none⟩), u7, .pointer (some ⟨w3.heap.size, 0, none⟩), u9, .pointer (some ⟨pf, 0, none⟩), .pointer (some ⟨pt, 0, none⟩), u12, u13, u14, u15, u16, u17, u18, u19, u20, u21, u22, u23, u24, u25, u26, u27, u28, u29, u30, u31, u32, u33, u34, u35, u36, u37, u38, u39, u40, u41, u42, u43, u44, u45, u46, u47, u48, u49, u50, u51, u52, u53, u54, u55, u56, u57, u58, u59, u60, u61, u62, u63, u64, u65, u66, u67, u68, u69, u70, u71, u72, u73, u74, u75, u76, u77, u78, u79, u80, u81, u82, u83, u84, u85, u86, u87, u88, u89, u90, u91, u92, u93, u94, u95, u96, u97, u98, u99, u100, u101, u102, u103, u104, u105, u106, u107, u108, u109, u110, u111, u112, u113, u114, u115, u116, u117, u118, u119, u120, u121, u122, u123, u124, u125, u126, u127, u128, u129, u130, u131, u132, u133, u134, u135, u136, u137, u138, u139, u140, u141, u142, u143, u144, u145, u146], ds⟩) tmeas11 ?_ ?_
      · refine ⟨0, w8.heap.size, [], [], ?_⟩
        (repeat apply Exists.intro)
        refine ⟨⟨by omega, Nat.le_refl _, by go_simp, by go_simp, (Below.refl _ _).alloc (Nat.le_refl _) _, rfl, by simp⟩, rfl⟩
      · rintro a0 W ⟨t, pt, rs, ds, hinv⟩
        obtain ⟨u0, hinv⟩ := hinv
        obtain ⟨u1, hinv⟩ := hinv
        obtain ⟨u2, hinv⟩ := hinv
        obtain ⟨u4, hinv⟩ := hinv
        obtain ⟨u7, hinv⟩ := hinv
        obtain ⟨u9, hinv⟩ := hinv
        obtain ⟨u12, hinv⟩ := hinv
        obtain ⟨u13, hinv⟩ := hinv
        obtain ⟨u14, hinv⟩ := hinv
        obtain ⟨u15, hinv⟩ := hinv
        obtain ⟨u16, hinv⟩ := hinv
        obtain ⟨u17, hinv⟩ := hinv
        obtain ⟨u18, hinv⟩ := hinv
        obtain ⟨u19, hinv⟩ := hinv
        obtain ⟨u20, hinv⟩ := hinv
        obtain ⟨u21, hinv⟩ := hinv
        obtain ⟨u22, hinv⟩ := hinv
        obtain ⟨u23, hinv⟩ := hinv
        obtain ⟨u24, hinv⟩ := hinv
        obtain ⟨u25, hinv⟩ := hinv
        obtain ⟨u26, hinv⟩ := hinv
        obtain ⟨u27, hinv⟩ := hinv
        obtain ⟨u28, hinv⟩ := hinv
        obtain ⟨u29, hinv⟩ := hinv
        obtain ⟨u30, hinv⟩ := hinv
        obtain ⟨u31, hinv⟩ := hinv
        obtain ⟨u32, hinv⟩ := hinv
        obtain ⟨u33, hinv⟩ := hinv
        obtain ⟨u34, hinv⟩ := hinv
        obtain ⟨u35, hinv⟩ := hinv
        obtain ⟨u36, hinv⟩ := hinv
        obtain ⟨u37, hinv⟩ := hinv
        obtain ⟨u38, hinv⟩ := hinv
        obtain ⟨u39, hinv⟩ := hinv
        obtain ⟨u40, hinv⟩ := hinv
        obtain ⟨u41, hinv⟩ := hinv
        obtain ⟨u42, hinv⟩ := hinv
        obtain ⟨u43, hinv⟩ := hinv
        obtain ⟨u44, hinv⟩ := hinv
        obtain ⟨u45, hinv⟩ := hinv
        obtain ⟨u46, hinv⟩ := hinv
        obtain ⟨u47, hinv⟩ := hinv
        obtain ⟨u48, hinv⟩ := hinv
        obtain ⟨u49, hinv⟩ := hinv
        obtain ⟨u50, hinv⟩ := hinv
        obtain ⟨u51, hinv⟩ := hinv
        obtain ⟨u52, hinv⟩ := hinv
        obtain ⟨u53, hinv⟩ := hinv
        obtain ⟨u54, hinv⟩ := hinv
        obtain ⟨u55, hinv⟩ := hinv
        obtain ⟨u56, hinv⟩ := hinv
        obtain ⟨u57, hinv⟩ := hinv
        obtain ⟨u58, hinv⟩ := hinv
        obtain ⟨u59, hinv⟩ := hinv
        obtain ⟨u60, hinv⟩ := hinv
        obtain ⟨u61, hinv⟩ := hinv
        obtain ⟨u62, hinv⟩ := hinv
        obtain ⟨u63, hinv⟩ := hinv
        obtain ⟨u64, hinv⟩ := hinv
        obtain ⟨u65, hinv⟩ := hinv
        obtain ⟨u66, hinv⟩ := hinv
        obtain ⟨u67, hinv⟩ := hinv
        obtain ⟨u68, hinv⟩ := hinv
        obtain ⟨u69, hinv⟩ := hinv
        obtain ⟨u70, hinv⟩ := hinv
        obtain ⟨u71, hinv⟩ := hinv
        obtain ⟨u72, hinv⟩ := hinv
        obtain ⟨u73, hinv⟩ := hinv
        obtain ⟨u74, hinv⟩ := hinv
        obtain ⟨u75, hinv⟩ := hinv
        obtain ⟨u76, hinv⟩ := hinv
        obtain ⟨u77, hinv⟩ := hinv
        obtain ⟨u78, hinv⟩ := hinv
        obtain ⟨u79, hinv⟩ := hinv
        obtain ⟨u80, hinv⟩ := hinv
        obtain ⟨u81, hinv⟩ := hinv
        obtain ⟨u82, hinv⟩ := hinv
        obtain ⟨u83, hinv⟩ := hinv
        obtain ⟨u84, hinv⟩ := hinv
        obtain ⟨u85, hinv⟩ := hinv
        obtain ⟨u86, hinv⟩ := hinv
        obtain ⟨u87, hinv⟩ := hinv
        obtain ⟨u88, hinv⟩ := hinv
        obtain ⟨u89, hinv⟩ := hinv
        obtain ⟨u90, hinv⟩ := hinv
        obtain ⟨u91, hinv⟩ := hinv
        obtain ⟨u92, hinv⟩ := hinv
        obtain ⟨u93, hinv⟩ := hinv
        obtain ⟨u94, hinv⟩ := hinv
        obtain ⟨u95, hinv⟩ := hinv
        obtain ⟨u96, hinv⟩ := hinv
        obtain ⟨u97, hinv⟩ := hinv
        obtain ⟨u98, hinv⟩ := hinv
        obtain ⟨u99, hinv⟩ := hinv
        obtain ⟨u100, hinv⟩ := hinv
        obtain ⟨u101, hinv⟩ := hinv
        obtain ⟨u102, hinv⟩ := hinv
        obtain ⟨u103, hinv⟩ := hinv
        obtain ⟨u104, hinv⟩ := hinv
        obtain ⟨u105, hinv⟩ := hinv
        obtain ⟨u106, hinv⟩ := hinv
        obtain ⟨u107, hinv⟩ := hinv
        obtain ⟨u108, hinv⟩ := hinv
        obtain ⟨u109, hinv⟩ := hinv
        obtain ⟨u110, hinv⟩ := hinv
        obtain ⟨u111, hinv⟩ := hinv
        obtain ⟨u112, hinv⟩ := hinv
        obtain ⟨u113, hinv⟩ := hinv
        obtain ⟨u114, hinv⟩ := hinv
        obtain ⟨u115, hinv⟩ := hinv
        obtain ⟨u116, hinv⟩ := hinv
        obtain ⟨u117, hinv⟩ := hinv
        obtain ⟨u118, hinv⟩ := hinv
        obtain ⟨u119, hinv⟩ := hinv
        obtain ⟨u120, hinv⟩ := hinv
        obtain ⟨u121, hinv⟩ := hinv
        obtain ⟨u122, hinv⟩ := hinv
        obtain ⟨u123, hinv⟩ := hinv
        obtain ⟨u124, hinv⟩ := hinv
        obtain ⟨u125, hinv⟩ := hinv
        obtain ⟨u126, hinv⟩ := hinv
        obtain ⟨u127, hinv⟩ := hinv
        obtain ⟨u128, hinv⟩ := hinv
        obtain ⟨u129, hinv⟩ := hinv
        obtain ⟨u130, hinv⟩ := hinv
        obtain ⟨u131, hinv⟩ := hinv
        obtain ⟨u132, hinv⟩ := hinv
        obtain ⟨u133, hinv⟩ := hinv
        obtain ⟨u134, hinv⟩ := hinv
        obtain ⟨u135, hinv⟩ := hinv
        obtain ⟨u136, hinv⟩ := hinv
        obtain ⟨u137, hinv⟩ := hinv
        obtain ⟨u138, hinv⟩ := hinv
        obtain ⟨u139, hinv⟩ := hinv
        obtain ⟨u140, hinv⟩ := hinv
        obtain ⟨u141, hinv⟩ := hinv
        obtain ⟨u142, hinv⟩ := hinv
        obtain ⟨u143, hinv⟩ := hinv
        obtain ⟨u144, hinv⟩ := hinv
        obtain ⟨u145, hinv⟩ := hinv
        obtain ⟨u146, hinv⟩ := hinv
        obtain ⟨ti, ha⟩ := hinv
        subst ha
        intro K HK
        have b := ti.bel
        have e4 := (b.cell (p := ⟨w.heap.size + 1 + 1, 0, none⟩) (by show w.heap.size + 1 + 1 < _; omega)).trans d4
        have h4 := (b.frozen (p := ⟨w.heap.size + 1 + 1, 0, none⟩) (by show w.heap.size + 1 + 1 < _; omega)).trans g4
        have e6 := (b.cell (p := ⟨w3.heap.size, 0, none⟩) hm).trans d6
        have et := ti.cell
        have ft := ti.fz
        have ez := b.size
        have hpt := ti.pl
        have hptl := World.block_lt_of_cell? _ _ et
        dsimp only at hptl
        have HTI := hide ti
        have HC := hide (And.intro d2 (And.intro d3 (And.intro d6 (And.intro dk (And.intro df dF)))))
        clear ti d2 d3 d4 g4 d6 dk df dF
        by_cases ht : t < 3
        · have ht3 : decide ((t : Int) < 3) = true := by simp; omega
          have k6 : w3.heap.size < W.heap.size := by omega
          have k2 : w.heap.size < W.heap.size := by omega
          have k3 : w.heap.size + 1 < W.heap.size := by omega
          have k4 : w.heap.size + 1 + 1 < W.heap.size := by omega
          gi_wp2
          obtain ⟨wR, hwR⟩ : ∃ wR, W.alloc (Obj.cells #[Value.int .i64 0] 3) = wR := ⟨_, rfl⟩
          rw [hwR]
          have eR : EI wR W.heap.size 0 wR := by rw [← hwR]; exact EI.new W _
          have zR := hide (show wR.heap.size = W.heap.size + 1 by rw [← hwR]; simp)
          have bR : Below w8.heap.size w8 wR := by rw [← hwR]; exact b.alloc (by omega) _
          have bWR : Below W.heap.size W wR := by rw [← hwR]; exact (Below.refl _ _).alloc (Nat.le_refl _) _
          clear hwR
          have tR := (bWR.cell (p := ⟨pt, 0, none⟩) hptl).trans et
          have tF := (bWR.frozen (p := ⟨pt, 0, none⟩) hptl).trans ft
          have HTR := hide (And.intro tR tF)
          clear tR tF e4 h4 e6 et ft b
          have KPI : Hid (∀ V, Below w8.heap.size w8 V → (LieY yE V g 0 (D.drop s) ∧ V.cell? ⟨f, 0, none⟩ = some (.int .i64 ((s : Int) + 1)) ∧ f < V.heap.size) ∧ V.cell? ⟨k, 0, none⟩ = some (.slice (some ⟨g, 0, none⟩) (D.drop s).length (D.drop s).length)) := by
            intro V bV
            refine ⟨⟨fun i x hx j u hu => (bV.cell (p := ⟨g, 0 + i * yE.k + j, none⟩) hgr).trans (HL.out i x hx j u hu), (bV.cell (p := ⟨f, 0, none⟩) hfr2).trans HC.out.2.2.2.2.1, Nat.lt_of_lt_of_le hfr2 bV.size⟩, ?_⟩
            rw [hKL.out]
            exact (bV.cell (p := ⟨k, 0, none⟩) hkr).trans HC.out.2.2.2.1
          have hdl2 : Hid ((D.drop s).length * 48 ≤ 140737488355328 ∧ (s : Int) + 1 + (D.drop s).length < 9223372036854775807) := by
            have := hKL.out
            show _ ∧ _
            omega
          refine over_it (n := 6) (by omega) (each2O_in 5 (by omega) k f g ((s : Int) + 1) (D.drop s) (by omega) hdl2.out.2 hdl2.out.1) (enters_of Try.func17 (by kernel_rfl) rfl) rfl (fun i _ => rfl) (EI wR W.heap.size) (fun cd i V => cd = .exit 4 ∧ t = 1 ∧ EI wR W.heap.size (i + 1) V)
            (fun i V V' row h hg hr => h.row hg (fun r e => by have := hr r e; have := zR.out; omega))
            (fun cd i V V' h hg => ⟨h.1, h.2.1, h.2.2.row hg (fun r e => by cases e; have := zR.out; omega)⟩)
            (fun i V h => KPI.out V (bR.trans (h.upd.below (by have := zR.out; omega) (fun q e => by omega))))
            eR ?round ?done ?stop
          case round =>
            intro i V hi ei hlt
            have hil : s + i < D.length := by have := hKL.out; omega
            obtain ⟨p, hp⟩ : ∃ p, s + i = p := ⟨_, rfl⟩
            obtain ⟨x, hx⟩ : ∃ x, D[p]? = some x := ⟨_, List.getElem?_eq_getElem (by omega)⟩
            have hge : (D.drop s).getD i e00 = x := by rw [List.getD, List.getElem?_drop, hp, hx]; rfl
            obtain ⟨xc, xn, ⟨ok, os, ov⟩⟩ := x
            have hpl1 : ((s : Int) + 1 + (i : Int)) = (p : Int) + 1 := by omega
            simp only [encE, hge, En.val, hpl1]
            have hFs : Fv = (s : Int) + 1 := by have := HMM2.out; omega
            have HEI := hide ei
            have HLT := hide hlt
            have HX := hide hx
            clear ei hge hlt hx
            gi_wp2
            refine ⟨⟨HEI.out.row (World.grownBy_alloc _ _ none) (fun r e => by cases e), fun q hq => Below.heap_alloc _ _ _ (by have := HLT.out; omega)⟩, ?_⟩
            intro V2 ei hg2 hrr
            have hzR := zR.out
            have hltV := HLT.out
            have bV : Below w8.heap.size w8 V2 := bR.trans (ei.upd.below (by omega) (fun q e => by omega))
            obtain ⟨q, o, rfl, hq, l0, l1, l2, l3, l4⟩ := HS.out.en HX.out
            dsimp only at l0 l1 l2 l3 l4
            have m2 := (bV.cell (p := ⟨w.heap.size, 0, none⟩) (by show w.heap.size < _; omega)).trans HC.out.1
            have m3 := (bV.cell (p := ⟨w.heap.size + 1, 0, none⟩) (by show w.heap.size + 1 < _; omega)).trans HC.out.2.1
            have m6 := (bV.cell (p := ⟨w3.heap.size, 0, none⟩) hm).trans HC.out.2.2.1
            have mF := (bV.cell (p := ⟨pf, 0, none⟩) hpl).trans HC.out.2.2.2.2.2
            rw [hFs] at mF
            have mn := ei.cell
            have mf := ei.fz
            have mt := (ei.upd.cell (p := ⟨pt, 0, none⟩) (by show pt < _; omega) (by show pt ≠ _; omega)).trans HTR.out.1
            have KC : Hid (∀ v, (∃ n, v = V2.drewN n) → v.cell? ⟨w.heap.size, 0, none⟩ = some (.slice (some ⟨q, o, none⟩) D.length c) ∧ v.cell? ⟨pf, 0, none⟩ = some (.int .i64 ((s : Int) + 1)) ∧ v.cell? ⟨W.heap.size, 0, none⟩ = some (.int .i64 (i : Int)) ∧ (v.cell? ⟨V.heap.size, 0, none⟩ = some (.int .i64 xc) ∧ v.cell? ⟨V.heap.size, 1, none⟩ = some (.int .i64 xn) ∧ v.cell? ⟨V.heap.size, 2, none⟩ = some (.int .i64 ok) ∧ v.cell? ⟨V.heap.size, 3, none⟩ = some (.int .i64 os) ∧ v.cell? ⟨V.heap.size, 4, none⟩ = some (.string ov)) ∧ (v.cell? ⟨q, o + p * 5, none⟩ = some (.int .i64 xc) ∧ v.cell? ⟨q, o + p * 5 + 1, none⟩ = some (.int .i64 xn) ∧ v.cell? ⟨q, o + p * 5 + 2, none⟩ = some (.int .i64 ok) ∧ v.cell? ⟨q, o + p * 5 + 3, none⟩ = some (.int .i64 os) ∧ v.cell? ⟨q, o + p * 5 + 4, none⟩ = some (.string ov))) := by
              rintro v ⟨n, rfl⟩
              have ne : (some (wR.heap.size + 1) : Option Nat) ≠ some V.heap.size := fun e => by injection e with e; omega
              exact ⟨m2, mF, mn, ⟨gcell hg2 (World.cell?_alloc_at _ _ _ _ rfl) ne, gcell hg2 (World.cell?_alloc_at _ _ _ _ rfl) ne, gcell hg2 (World.cell?_alloc_at _ _ _ _ rfl) ne, gcell hg2 (World.cell?_alloc_at _ _ _ _ rfl) ne, gcell hg2 (World.cell?_alloc_at _ _ _ _ rfl) ne⟩,
                ⟨(bV.cell (p := ⟨q, o + p * 5, none⟩) hq).trans l0, (bV.cell (p := ⟨q, o + p * 5 + 1, none⟩) hq).trans l1, (bV.cell (p := ⟨q, o + p * 5 + 2, none⟩) hq).trans l2, (bV.cell (p := ⟨q, o + p * 5 + 3, none⟩) hq).trans l3, (bV.cell (p := ⟨q, o + p * 5 + 4, none⟩) hq).trans l4⟩⟩
            have hsz := ei.upd.size
            have HE2 := hide ei
            have HR2 := hide hrr
            have HBV := hide bV
            have hw1 : IntKind.i64.wrap ((D.length : Int) - (i : Int)) = (D.length : Int) - (i : Int) := wrap_id (by omega) (by omega)
            have hw2 : IntKind.i64.wrap ((s : Int) + 1 + (i : Int)) = (p : Int) + 1 := by rw [hpl1]; exact wrap_id (by omega) (by omega)
            have hw3 : IntKind.i64.wrap ((p : Int) + 1 - 1) = (p : Int) := by rw [show (p : Int) + 1 - 1 = (p : Int) by omega]; exact wrap_id (by omega) (by omega)
            have hw4 : IntKind.i64.wrap (p : Int) = (p : Int) := wrap_id (by omega) (by omega)
            have hd1 : decide ((D.length : Int) - (i : Int) < (s : Int) + 1) = false := by simp; omega
            have hpD : p < D.length := by omega
            have hiD : i < D.length := by omega
            have HHP := hide (And.intro hp (And.intro hpl1 hFs))
            clear ei hrr hg2 bV HEI hp hpl1 hFs l0 l1 l2 l3 l4 hil hltV
            gi_wp2
            refine region_rw (by kernel_rfl) (by kernel_rfl) (by kernel_rfl) ?_
            refine wrv (u := .int .i64 ((s : Int) + 1)) (by kernel_rfl) (fun v hv => by have c0 := (KC.out v hv).2.1; go_simp) ?_
            simp only [Act.put, List.setIfInBounds_toArray, List.set_cons_zero, List.set_cons_succ]
            refine wrv (u := .slice (some ⟨q, o, none⟩) D.length c) (by kernel_rfl) (fun v hv => by have c0 := (KC.out v hv).1; go_simp) ?_
            simp only [Act.put, List.setIfInBounds_toArray, List.set_cons_zero, List.set_cons_succ]
            refine wrv (u := .int .i64 (D.length : Int)) (by kernel_rfl) (fun v hv => by go_simp) ?_
            simp only [Act.put, List.setIfInBounds_toArray, List.set_cons_zero, List.set_cons_succ]
            refine wrv (u := .int .i64 (i : Int)) (by kernel_rfl) (fun v hv => by have c0 := (KC.out v hv).2.2.1; go_simp) ?_
            simp only [Act.put, List.setIfInBounds_toArray, List.set_cons_zero, List.set_cons_succ]
            refine wrv (u := .int .i64 ((D.length : Int) - (i : Int))) (by kernel_rfl) (fun v hv => by go_simp) ?_
            simp only [Act.put, List.setIfInBounds_toArray, List.set_cons_zero, List.set_cons_succ]
            refine wrv (u := .bool false) (by kernel_rfl) (fun v hv => by go_simp) ?_
            simp only [Act.put, List.setIfInBounds_toArray, List.set_cons_zero, List.set_cons_succ]
            refine wrv (u := .bool false) (by kernel_rfl) (fun v hv => by kernel_rfl) ?_
            simp only [Act.put, List.setIfInBounds_toArray, List.set_cons_zero, List.set_cons_succ]
            refine wrv (u := .int .i64 ((p : Int) + 1)) (by kernel_rfl) (fun v hv => by kernel_rfl) ?_
            simp only [Act.put, List.setIfInBounds_toArray, List.set_cons_zero, List.set_cons_succ]
            refine wrv (u := .int .i64 ((s : Int) + 1)) (by kernel_rfl) (fun v hv => by have c0 := (KC.out v hv).2.1; go_simp) ?_
            simp only [Act.put, List.setIfInBounds_toArray, List.set_cons_zero, List.set_cons_succ]
            refine wrv (u := .int .i64 (i : Int)) (by kernel_rfl) (fun v hv => by have c0 := (KC.out v hv).2.2.1; go_simp) ?_
            simp only [Act.put, List.setIfInBounds_toArray, List.set_cons_zero, List.set_cons_succ]
            refine wrv (u := .int .i64 ((p : Int) + 1)) (by kernel_rfl) (fun v hv => by go_simp) ?_
            simp only [Act.put, List.setIfInBounds_toArray, List.set_cons_zero, List.set_cons_succ]
            refine wrv (u := .bool false) (by kernel_rfl) (fun v hv => by go_simp) ?_
            simp only [Act.put, List.setIfInBounds_toArray, List.set_cons_zero, List.set_cons_succ]
            refine wrv (u := .bool false) (by kernel_rfl) (fun v hv => by kernel_rfl) ?_
            simp only [Act.put, List.setIfInBounds_toArray, List.set_cons_zero, List.set_cons_succ]
            refine wrv (u := .bool false) (by kernel_rfl) (fun v hv => by kernel_rfl) ?_
            simp only [Act.put, List.setIfInBounds_toArray, List.set_cons_zero, List.set_cons_succ]
            refine wrv (u := .agg #[.int .i64 xc, .int .i64 xn, .int .i64 ok, .int .i64 os, .string ov]) (by kernel_rfl) (fun v hv => by obtain ⟨c0, c1, c2, c3, c4⟩ := (KC.out v hv).2.2.2.1; go_simp) ?_
            simp only [Act.put, List.setIfInBounds_toArray, List.set_cons_zero, List.set_cons_succ]
            refine wrv (u := .slice (some ⟨q, o, none⟩) D.length c) (by kernel_rfl) (fun v hv => by have c0 := (KC.out v hv).1; go_simp) ?_
            simp only [Act.put, List.setIfInBounds_toArray, List.set_cons_zero, List.set_cons_succ]
            refine wrv (u := .int .i64 ((p : Int) + 1)) (by kernel_rfl) (fun v hv => by kernel_rfl) ?_
            simp only [Act.put, List.setIfInBounds_toArray, List.set_cons_zero, List.set_cons_succ]
            refine wrv (u := .int .i64 (p : Int)) (by kernel_rfl) (fun v hv => by go_simp) ?_
            simp only [Act.put, List.setIfInBounds_toArray, List.set_cons_zero, List.set_cons_succ]
            refine wrv (u := .pointer (some ⟨q, o + p * 5, none⟩)) (by kernel_rfl) (fun v hv => by go_simp) ?_
            simp only [Act.put, List.setIfInBounds_toArray, List.set_cons_zero, List.set_cons_succ]
            refine wrv (u := .agg #[.int .i64 xc, .int .i64 xn, .int .i64 ok, .int .i64 os, .string ov]) (by kernel_rfl) (fun v hv => by obtain ⟨c0, c1, c2, c3, c4⟩ := (KC.out v hv).2.2.2.2; go_simp) ?_
            simp only [Act.put, List.setIfInBounds_toArray, List.set_cons_zero, List.set_cons_succ]
            refine wrn (by kernel_rfl) rfl (.agg #[.int .i64 xc, .int .i64 xn, .int .i64 ok, .int .i64 os, .string ov]) (.agg #[.int .i64 xc, .int .i64 xn, .int .i64 ok, .int .i64 os, .string ov]) (.bool false) (by kernel_rfl) (by kernel_rfl) (neqEn9 xc xn ok os ov _ _) ?_
            simp only [Act.put, List.setIfInBounds_toArray, List.set_cons_zero, List.set_cons_succ]
            refine wrv (u := .bool false) (by kernel_rfl) (fun v hv => by kernel_rfl) ?_
            simp only [Act.put, List.setIfInBounds_toArray, List.set_cons_zero, List.set_cons_succ]
            refine wrnil ?_
            intro v0 hv0
            obtain ⟨nd, hnd⟩ := hv0
            have bd : Upd (fun _ => False) V2 v0 := by rw [hnd]; exact (Upd.refl _ V2).drewN nd
            have hzv : v0.heap.size = V2.heap.size := by rw [hnd]; rfl
            have hcv : ∀ p, v0.cell? p = V2.cell? p := fun p => by rw [hnd]; rfl
            have hfv : ∀ p, v0.frozen? p = V2.frozen? p := fun p => by rw [hnd]; rfl
            have m2 := (hcv _).trans m2
            have m3 := (hcv _).trans m3
            have m6 := (hcv _).trans m6
            have mt := (hcv _).trans mt
            have mn := (hcv _).trans mn
            have mf := (hfv _).trans mf
            have HE0 : Hid (EI wR W.heap.size i v0) := hide ⟨HE2.out.upd.trans (bd.mono (fun _ _ h => h.elim)), mn, mf⟩
            have hkb0 := hide (show ∀ k : Nat, v0.heap[k]? = V2.heap[k]? from fun k => by rw [hnd]; rfl)
            have kv6 : w3.heap.size < v0.heap.size := by omega
            have kv2 : w.heap.size < v0.heap.size := by omega
            have kv3 : w.heap.size + 1 < v0.heap.size := by omega
            have kvt : pt < v0.heap.size := by omega
            have kvn : W.heap.size < v0.heap.size := by omega
            have hne2 := hide (show ∀ v, ∀ k : Nat, (k = wR.heap.size ∨ k = wR.heap.size + 1) → (v0.setCell ⟨W.heap.size, 0, none⟩ v).heap[k]? = V2.heap[k]? from fun v k hk => (Below.heap_setCell _ _ _ _ (by show k ≠ W.heap.size; omega)).trans (hkb0.out k))
            have HZV := hide hzv
            have HZ2 := hide hsz
            clear hcv hfv hnd bd HE2 hzv KC hw1 hw2 hw3 hw4 hd1 hzR
            gi_wp2
            all_goals have hzR := zR.out
            all_goals first
              | exact ⟨hne2.out _, rfl, by omega, HE0.out.set (by omega)⟩
              | exact ⟨hne2.out _, HE0.out.set (by omega)⟩
              | skip
            obtain ⟨V3, hV3⟩ : ∃ V3, (v0.setCell ⟨W.heap.size, 0, none⟩ (Value.int .i64 2)).alloc (Obj.cells #[Value.int .i64 0] 3) = V3 := ⟨_, rfl⟩
            rw [hV3]
            have z3 := hide (show V3.heap.size = v0.heap.size + 1 by rw [← hV3]; simp)
            have eM : EI V3 v0.heap.size 0 V3 := by
              rw [← hV3]
              have := EI.new (v0.setCell ⟨W.heap.size, 0, none⟩ (Value.int .i64 2)) 3
              simpa using this
            have eN : EI wR W.heap.size (i + 1) V3 := by
              rw [← hV3]
              exact (HE0.out.set (by omega)).row (World.grownBy_alloc _ _ none) (fun r e => by cases e)
            have kb : ∀ q, (q = wR.heap.size ∨ q = wR.heap.size + 1) → q < v0.heap.size → V3.heap[q]? = V2.heap[q]? := fun q hq hl => by
              rw [← hV3, Below.heap_alloc _ _ _ (by simpa using hl)]
              exact hne2.out _ q hq
            obtain ⟨rr, hrr⟩ := HR2.out
            have hrl := (Array.getElem?_eq_some_iff.1 hrr).1
            have hrl0 : wR.heap.size + 1 < v0.heap.size := by have := HZV.out; omega
            have hl0 := (kb _ (.inr rfl) hrl0).trans hrr
            have bV3 : Below w8.heap.size w8 V3 := bR.trans (eN.upd.below (by omega) (fun q e => by omega))
            have HN := hide eN
            have HKB := hide kb
            clear hV3 eN kb m2 m3 m6 mn mf mt mF hrr
            refine over_itN (n := 4) hl0 (by omega) (each2O_in 3 (by omega) k f g ((s : Int) + 1) (D.drop s) (by omega) hdl2.out.2 hdl2.out.1) (enters_of Try.func17 (by kernel_rfl) rfl) rfl (fun i _ => rfl) (EI V3 v0.heap.size) (fun _ _ _ => False)
              (fun i V V' row h hg hr => h.row hg (fun r e => by have := hr r e; have := z3.out; omega))
              (fun cd i V V' h hg => h)
              (fun i V h => KPI.out V (bV3.trans (h.upd.below (by have := z3.out; omega) (fun q e => by omega))))
              eM ?round2 ?done2 ?stop2
            case round2 =>
              intro j U hj ej hlt2
              have hjl : s + j < D.length := by have := hKL.out; omega
              obtain ⟨p2, hp⟩ : ∃ p2, s + j = p2 := ⟨_, rfl⟩
              obtain ⟨y, hy⟩ : ∃ y, D[p2]? = some y := ⟨_, List.getElem?_eq_getElem (by omega)⟩
              have hge : (D.drop s).getD j e00 = y := by rw [List.getD, List.getElem?_drop, hp, hy]; rfl
              obtain ⟨yc, yn, ⟨yk, ys, yv⟩⟩ := y
              have hpl1 : ((s : Int) + 1 + (j : Int)) = (p2 : Int) + 1 := by omega
              simp only [encE, hge, En.val, hpl1]
              have HEJ := hide ej
              have HLT2 := hide hlt2
              have HY := hide hy
              clear ej hge hlt2 hy
              gi_wp2
              refine ⟨⟨HEJ.out.row (World.grownBy_alloc _ _ none) (fun r e => by cases e), fun q hq => Below.heap_alloc _ _ _ (by have := HLT2.out; omega)⟩, ?_⟩
              intro U2 ej hg3 hrr3
              have hz3 := z3.out
              have hltU := HLT2.out
              have bU : Below w8.heap.size w8 U2 := bV3.trans (ej.upd.below (by omega) (fun q e => by omega))
              obtain ⟨q', o', e', hq', l0, l1, l2, l3, l4⟩ := HS.out.en HY.out
              cases e'
              dsimp only at l0 l1 l2 l3 l4
              have m2 := (bU.cell (p := ⟨w.heap.size, 0, none⟩) (by show w.heap.size < _; omega)).trans HC.out.1
              have mF := (bU.cell (p := ⟨pf, 0, none⟩) hpl).trans HC.out.2.2.2.2.2
              rw [HHP.out.2.2] at mF
              have mn := ej.cell
              have mf := ej.fz
              have KC : Hid (∀ v, (∃ n, v = U2.drewN n) → v.cell? ⟨w.heap.size, 0, none⟩ = some (.slice (some ⟨q, o, none⟩) D.length c) ∧ v.cell? ⟨pf, 0, none⟩ = some (.int .i64 ((s : Int) + 1)) ∧ v.cell? ⟨v0.heap.size, 0, none⟩ = some (.int .i64 (j : Int)) ∧ (v.cell? ⟨U.heap.size, 0, none⟩ = some (.int .i64 yc) ∧ v.cell? ⟨U.heap.size, 1, none⟩ = some (.int .i64 yn) ∧ v.cell? ⟨U.heap.size, 2, none⟩ = some (.int .i64 yk) ∧ v.cell? ⟨U.heap.size, 3, none⟩ = some (.int .i64 ys) ∧ v.cell? ⟨U.heap.size, 4, none⟩ = some (.string yv)) ∧ (v.cell? ⟨q, o + p2 * 5, none⟩ = some (.int .i64 yc) ∧ v.cell? ⟨q, o + p2 * 5 + 1, none⟩ = some (.int .i64 yn) ∧ v.cell? ⟨q, o + p2 * 5 + 2, none⟩ = some (.int .i64 yk) ∧ v.cell? ⟨q, o + p2 * 5 + 3, none⟩ = some (.int .i64 ys) ∧ v.cell? ⟨q, o + p2 * 5 + 4, none⟩ = some (.string yv))) := by
                rintro v ⟨n, rfl⟩
                have ne : (some V3.heap.size : Option Nat) ≠ some U.heap.size := fun e => by injection e with e; omega
                exact ⟨m2, mF, mn, ⟨gcell hg3 (World.cell?_alloc_at _ _ _ _ rfl) ne, gcell hg3 (World.cell?_alloc_at _ _ _ _ rfl) ne, gcell hg3 (World.cell?_alloc_at _ _ _ _ rfl) ne, gcell hg3 (World.cell?_alloc_at _ _ _ _ rfl) ne, gcell hg3 (World.cell?_alloc_at _ _ _ _ rfl) ne⟩,
                  ⟨(bU.cell (p := ⟨q, o + p2 * 5, none⟩) hq).trans l0, (bU.cell (p := ⟨q, o + p2 * 5 + 1, none⟩) hq).trans l1, (bU.cell (p := ⟨q, o + p2 * 5 + 2, none⟩) hq).trans l2, (bU.cell (p := ⟨q, o + p2 * 5 + 3, none⟩) hq).trans l3, (bU.cell (p := ⟨q, o + p2 * 5 + 4, none⟩) hq).trans l4⟩⟩
              have hsz2 := ej.upd.size
              have HEJ2 := hide ej
              have hw2 : IntKind.i64.wrap ((s : Int) + 1 + (j : Int)) = (p2 : Int) + 1 := by rw [hpl1]; exact wrap_id (by omega) (by omega)
              have hw3 : IntKind.i64.wrap ((p2 : Int) + 1 - 1) = (p2 : Int) := by rw [show (p2 : Int) + 1 - 1 = (p2 : Int) by omega]; exact wrap_id (by omega) (by omega)
              have hw4 : IntKind.i64.wrap (p2 : Int) = (p2 : Int) := wrap_id (by omega) (by omega)
              have hd1 : decide ((D.length : Int) < (p2 : Int) + 1) = false := by simp; omega
              have hpD2 : p2 < D.length := by omega
              have hjD : j < D.length := by omega
              have HZ3 := hide hz3
              clear ej hrr3 hg3 bU HEJ hp hpl1 l0 l1 l2 l3 l4 hjl hltU hz3
              gi_wp2
              refine region_rw (by kernel_rfl) (by kernel_rfl) (by kernel_rfl) ?_
              refine wrv (u := .int .i64 ((p2 : Int) + 1)) (by kernel_rfl) (fun v hv => by kernel_rfl) ?_
              simp only [Act.put, List.setIfInBounds_toArray, List.set_cons_zero, List.set_cons_succ]
              refine wrv (u := .int .i64 ((s : Int) + 1)) (by kernel_rfl) (fun v hv => by have c0 := (KC.out v hv).2.1; go_simp) ?_
              simp only [Act.put, List.setIfInBounds_toArray, List.set_cons_zero, List.set_cons_succ]
              refine wrv (u := .int .i64 (j : Int)) (by kernel_rfl) (fun v hv => by have c0 := (KC.out v hv).2.2.1; go_simp) ?_
              simp only [Act.put, List.setIfInBounds_toArray, List.set_cons_zero, List.set_cons_succ]
              refine wrv (u := .int .i64 ((p2 : Int) + 1)) (by kernel_rfl) (fun v hv => by go_simp) ?_
              simp only [Act.put, List.setIfInBounds_toArray, List.set_cons_zero, List.set_cons_succ]
              refine wrv (u := .bool false) (by kernel_rfl) (fun v hv => by go_simp) ?_
              simp only [Act.put, List.setIfInBounds_toArray, List.set_cons_zero, List.set_cons_succ]
              refine wrv (u := .bool false) (by kernel_rfl) (fun v hv => by kernel_rfl) ?_
              simp only [Act.put, List.setIfInBounds_toArray, List.set_cons_zero, List.set_cons_succ]
              refine wrv (u := .int .i64 ((p2 : Int) + 1)) (by kernel_rfl) (fun v hv => by kernel_rfl) ?_
              simp only [Act.put, List.setIfInBounds_toArray, List.set_cons_zero, List.set_cons_succ]
              refine wrv (u := .slice (some ⟨q, o, none⟩) D.length c) (by kernel_rfl) (fun v hv => by have c0 := (KC.out v hv).1; go_simp) ?_
              simp only [Act.put, List.setIfInBounds_toArray, List.set_cons_zero, List.set_cons_succ]
              refine wrv (u := .int .i64 (D.length : Int)) (by kernel_rfl) (fun v hv => by go_simp) ?_
              simp only [Act.put, List.setIfInBounds_toArray, List.set_cons_zero, List.set_cons_succ]
              refine wrv (u := .bool false) (by kernel_rfl) (fun v hv => by go_simp) ?_
              simp only [Act.put, List.setIfInBounds_toArray, List.set_cons_zero, List.set_cons_succ]
              refine wrv (u := .bool false) (by kernel_rfl) (fun v hv => by kernel_rfl) ?_
              simp only [Act.put, List.setIfInBounds_toArray, List.set_cons_zero, List.set_cons_succ]
              refine wrv (u := .bool false) (by kernel_rfl) (fun v hv => by kernel_rfl) ?_
              simp only [Act.put, List.setIfInBounds_toArray, List.set_cons_zero, List.set_cons_succ]
              refine wrv (u := .agg #[.int .i64 yc, .int .i64 yn, .int .i64 yk, .int .i64 ys, .string yv]) (by kernel_rfl) (fun v hv => by obtain ⟨c0, c1, c2, c3, c4⟩ := (KC.out v hv).2.2.2.1; go_simp) ?_
              simp only [Act.put, List.setIfInBounds_toArray, List.set_cons_zero, List.set_cons_succ]
              refine wrv (u := .slice (some ⟨q, o, none⟩) D.length c) (by kernel_rfl) (fun v hv => by have c0 := (KC.out v hv).1; go_simp) ?_
              simp only [Act.put, List.setIfInBounds_toArray, List.set_cons_zero, List.set_cons_succ]
              refine wrv (u := .int .i64 ((p2 : Int) + 1)) (by kernel_rfl) (fun v hv => by kernel_rfl) ?_
              simp only [Act.put, List.setIfInBounds_toArray, List.set_cons_zero, List.set_cons_succ]
              refine wrv (u := .int .i64 (p2 : Int)) (by kernel_rfl) (fun v hv => by go_simp) ?_
              simp only [Act.put, List.setIfInBounds_toArray, List.set_cons_zero, List.set_cons_succ]
              refine wrv (u := .pointer (some ⟨q, o + p2 * 5, none⟩)) (by kernel_rfl) (fun v hv => by go_simp) ?_
              simp only [Act.put, List.setIfInBounds_toArray, List.set_cons_zero, List.set_cons_succ]
              refine wrv (u := .agg #[.int .i64 yc, .int .i64 yn, .int .i64 yk, .int .i64 ys, .string yv]) (by kernel_rfl) (fun v hv => by obtain ⟨c0, c1, c2, c3, c4⟩ := (KC.out v hv).2.2.2.2; go_simp) ?_
              simp only [Act.put, List.setIfInBounds_toArray, List.set_cons_zero, List.set_cons_succ]
              refine wrn (by kernel_rfl) rfl (.agg #[.int .i64 yc, .int .i64 yn, .int .i64 yk, .int .i64 ys, .string yv]) (.agg #[.int .i64 yc, .int .i64 yn, .int .i64 yk, .int .i64 ys, .string yv]) (.bool false) (by kernel_rfl) (by kernel_rfl) (neqEn9 yc yn yk ys yv _ _) ?_
              simp only [Act.put, List.setIfInBounds_toArray, List.set_cons_zero, List.set_cons_succ]
              refine wrv (u := .bool false) (by kernel_rfl) (fun v hv => by kernel_rfl) ?_
              simp only [Act.put, List.setIfInBounds_toArray, List.set_cons_zero, List.set_cons_succ]
              refine wrnil ?_
              intro u0 hu0
              obtain ⟨nd2, hnd2⟩ := hu0
              have bd2 : Upd (fun _ => False) U2 u0 := by rw [hnd2]; exact (Upd.refl _ U2).drewN nd2
              have mn := (show ∀ p, u0.cell? p = U2.cell? p from fun p => by rw [hnd2]; rfl) _ |>.trans mn
              have mf := (show ∀ p, u0.frozen? p = U2.frozen? p from fun p => by rw [hnd2]; rfl) _ |>.trans mf
              have HEU0 : Hid (EI V3 v0.heap.size j u0) := hide ⟨HEJ2.out.upd.trans (bd2.mono (fun _ _ h => h.elim)), mn, mf⟩
              have hkb1 := hide (show ∀ k : Nat, u0.heap[k]? = U2.heap[k]? from fun k => by rw [hnd2]; rfl)
              clear hnd2 bd2 KC hw2 hw3 hw4 hd1 HEJ2
              gi_wp2
              have hz3 := HZ3.out
              exact ⟨fun q hq => (Below.heap_setCell _ _ _ _ (by show q ≠ v0.heap.size; omega)).trans (hkb1.out q), HEU0.out.set (by omega)⟩
            case done2 =>
              intro U eU
              have hz3 := z3.out
              have bU : Below w8.heap.size w8 U := bV3.trans (eU.upd.below (by omega) (fun q e => by omega))
              have m2 := (bU.cell (p := ⟨w.heap.size, 0, none⟩) (by show w.heap.size < _; omega)).trans HC.out.1
              have mF := (bU.cell (p := ⟨pf, 0, none⟩) hpl).trans HC.out.2.2.2.2.2
              rw [HHP.out.2.2] at mF
              have mn := eU.cell
              rw [hKL.out] at mn
              have hwa : IntKind.i64.wrap ((D.length : Int) - ((s : Int) + 1)) = (D.length : Int) - ((s : Int) + 1) := wrap_id (by omega) (by omega)
              have hwb : IntKind.i64.wrap ((D.length : Int) - ((s : Int) + 1) + 1) = ((D.length - s : Nat) : Int) := by rw [show (D.length : Int) - ((s : Int) + 1) + 1 = ((D.length - s : Nat) : Int) by omega]; exact wrap_id (by omega) (by omega)
              have HEU := hide eU
              have HZ3 := hide hz3
              clear eU bU hz3
              gi_wp2
              have hz3 := HZ3.out
              have := HZV.out
              exact ⟨fun q hq => (HEU.out.upd.block q (by omega) (by omega)).trans (HKB.out q hq (by omega)), HN.out.on HEU.out.upd (by omega) (by omega)⟩
            case stop2 => exact fun _ _ _ _ h => h.elim
          case done =>
            intro V ei hK
            have hzR := zR.out
            have bV : Below w8.heap.size w8 V := bR.trans (ei.upd.below (by omega) (fun q e => by omega))
            have m2 := (bV.cell (p := ⟨w.heap.size, 0, none⟩) (by show w.heap.size < _; omega)).trans HC.out.1
            have mF := (bV.cell (p := ⟨pf, 0, none⟩) hpl).trans HC.out.2.2.2.2.2
            have mn := ei.cell
            have mt := (ei.upd.cell (p := ⟨pt, 0, none⟩) (by show pt < _; omega) (by show pt ≠ _; omega)).trans HTR.out.1
            have mtf := (ei.upd.frozen (p := ⟨pt, 0, none⟩) (by show pt < _; omega) (by show pt ≠ _; omega)).trans HTR.out.2
            have hsz := ei.upd.size
            have HEV := hide ei
            have HBV := hide bV
            have HKV := hide hK
            have kv2 : w.heap.size < V.heap.size := by omega
            have kvt : pt < V.heap.size := by omega
            have kvn : W.heap.size < V.heap.size := by omega
            rw [hKL.out] at mn
            have hmn := HMM2.out.1
            have hwa : IntKind.i64.wrap ((D.length : Int) - ((s : Int) + 1)) = (D.length : Int) - ((s : Int) + 1) := wrap_id (by omega) (by omega)
            have hwb : IntKind.i64.wrap ((D.length : Int) - ((s : Int) + 1) + 1) = ((D.length - s : Nat) : Int) := by rw [show (D.length : Int) - ((s : Int) + 1) + 1 = ((D.length - s : Nat) : Int) by omega]; exact wrap_id (by omega) (by omega)
            have hmx0 : max (0 : Int) ((D.length - s : Nat) : Int) = ((D.length - s : Nat) : Int) := by omega
            clear ei bV hK hzR
            gi_wp2
            all_goals have hzR := zR.out
            all_goals
              refine HK.out _ _ ⟨t + 1, V.heap.size, wR.heap.size :: rs, { target := .collected wR.heap.size, args := #[] } :: ds, ?_⟩ ?_
              · rw [hzR]
                (repeat apply Exists.intro)
                refine ⟨⟨by omega, by omega, by go_simp, by go_simp, HBV.out.alloc (by omega) _, ?_, ?_⟩, rfl⟩
                · have hin : ∀ r, r ∈ rs → r < W.heap.size := fun r hr => (Array.getElem?_eq_some_iff.1 (HTI.out.marks.at r hr)).1
                  refine Marks.cons (HTI.out.marks.on (fun r hr e => ?_)) ?_ (fun h => by have := hin _ h; omega)
                  · have hl := hin r hr
                    rw [Below.heap_alloc _ _ _ (by omega), HEV.out.upd.block r (by omega) (by omega), bWR.block r hl]
                    exact e
                  · rw [Below.heap_alloc _ _ _ (by have := (Array.getElem?_eq_some_iff.1 HKV.out).1; omega), ← hzR]
                    exact HKV.out
                · intro r hr
                  rcases List.mem_cons.1 hr with rfl | hr
                  · omega
                  · exact HTI.out.low r hr
              · simp [tmeas11, intOf, HTI.out.cell]
                omega
          case stop =>
            rintro cd i V hi ⟨rfl, h1, ei⟩ hK
            have hzR := zR.out
            have bV : Below w8.heap.size w8 V := bR.trans (ei.upd.below (by omega) (fun q e => by omega))
            have m2 := (bV.cell (p := ⟨w.heap.size, 0, none⟩) (by show w.heap.size < _; omega)).trans HC.out.1
            have mF := (bV.cell (p := ⟨pf, 0, none⟩) hpl).trans HC.out.2.2.2.2.2
            have mn := ei.cell
            have mt := (ei.upd.cell (p := ⟨pt, 0, none⟩) (by show pt < _; omega) (by show pt ≠ _; omega)).trans HTR.out.1
            have mtf := (ei.upd.frozen (p := ⟨pt, 0, none⟩) (by show pt < _; omega) (by show pt ≠ _; omega)).trans HTR.out.2
            have hsz := ei.upd.size
            have HEV := hide ei
            have HBV := hide bV
            have HKV := hide hK
            have kv2 : w.heap.size < V.heap.size := by omega
            have kvt : pt < V.heap.size := by omega
            have kvn : W.heap.size < V.heap.size := by omega
            have ht1 : ((t : Int) = 1) := by omega
            clear ei bV hK hzR
            gi_wp2
            all_goals have hzR := zR.out
            all_goals
              refine HK.out _ _ ⟨t + 1, V.heap.size, wR.heap.size :: rs, { target := .collected wR.heap.size, args := #[] } :: ds, ?_⟩ ?_
              · rw [hzR]
                (repeat apply Exists.intro)
                refine ⟨⟨by omega, by omega, by go_simp, by go_simp, HBV.out.alloc (by omega) _, ?_, ?_⟩, rfl⟩
                · have hin : ∀ r, r ∈ rs → r < W.heap.size := fun r hr => (Array.getElem?_eq_some_iff.1 (HTI.out.marks.at r hr)).1
                  refine Marks.cons (HTI.out.marks.on (fun r hr e => ?_)) ?_ (fun h => by have := hin _ h; omega)
                  · have hl := hin r hr
                    rw [Below.heap_alloc _ _ _ (by omega), HEV.out.upd.block r (by omega) (by omega), bWR.block r hl]
                    exact e
                  · rw [Below.heap_alloc _ _ _ (by have := (Array.getElem?_eq_some_iff.1 HKV.out).1; omega), ← hzR]
                    exact HKV.out
                · intro r hr
                  rcases List.mem_cons.1 hr with rfl | hr
                  · omega
                  · exact HTI.out.low r hr
              · simp [tmeas11, intOf, HTI.out.cell]
                omega
        · have hti := HTI.out.le
          have ht3 : decide ((t : Int) < 3) = false := by simp; omega
          gi_wp2
          go_wp2_with fail
          refine (works6_any W).mono ?_
          rintro e w9 ⟨rfl, b9⟩
          have e4 := (b9.cell (p := ⟨w.heap.size + 1 + 1, 0, none⟩) (by show w.heap.size + 1 + 1 < _; omega)).trans e4
          have h4 := (b9.frozen (p := ⟨w.heap.size + 1 + 1, 0, none⟩) (by show w.heap.size + 1 + 1 < _; omega)).trans h4
          have HB9 := hide b9
          have hz9 := b9.size
          clear b9
          go_wp2
          have hin : ∀ r, r ∈ rs → r < W.heap.size := fun r hr => (Array.getElem?_eq_some_iff.1 (HTI.out.marks.at r hr)).1
          refine Marks.leave (rs := rs) (HTI.out.marks.on (fun r hr e => ?_)) (fun w' hu => ?_)
          · have hl := hin r hr
            have hw := HTI.out.low r hr
            rw [Below.heap_setCell _ _ _ _ (by show r ≠ w.heap.size + 1 + 1; omega), HB9.out.block r hl]
            exact e
          · have hc5 : w'.cell? ⟨w.heap.size + 1 + 1, 0, none⟩ = some (.bool true) := (hu.cell (p := ⟨w.heap.size + 1 + 1, 0, none⟩) (by simp; omega) (fun h => by have := HTI.out.low _ h; dsimp only at this; omega)).trans (setc_eq e4)
            refine ⟨.bool true, ?_, rfl, ?_⟩
            · simp [results, Try.f4, go_sem, hc5]
            · have hb0 : Below w.heap.size w w9 := (HB.out.trans (HTI.out.bel.mono (by omega))).trans (HB9.out.mono (by omega))
              exact (hb0.setCell (by show w.heap.size ≤ w.heap.size + 1 + 1; omega) _).trans (hu.below (by simp; omega) (fun r hr => by have := HTI.out.low r hr; omega))
theorem each6_came (a0 : Option Addr) (len0 cap0 : Nat) (a1 a2 : Int) (W : World) (h0 : CameE W a0 len0 cap0) (hf : (Lit.int .i64 a1).wf = true) (hs : (Lit.int .i64 a2).wf = true) :
    Calls Try.prog 4 #[.slice a0 len0 cap0, .int .i64 a1, .int .i64 a2] W fun e w' => e = .returned (.bool true) ∧ Below W.heap.size W w' := by
  obtain ⟨D, hD, hDf, hDl⟩ := h0
  obtain rfl := hD.len
  exact each6_walk D a0 cap0 a1 a2 W hD hDf hDl hf hs

end Go.Proofs.Ytolnkoneilipeaa
