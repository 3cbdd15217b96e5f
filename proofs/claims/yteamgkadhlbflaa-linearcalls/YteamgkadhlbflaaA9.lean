import Derived.Deep.SlicePairs
import Derived.ChangeOld
import Derived.ProofKit
import Derived.OpenShut
import Derived.SizedLaws
import Derived.Test.YteamgkadhlbflaaA8
set_option maxRecDepth 100000
set_option linter.unusedVariables false
set_option linter.unusedSimpArgs false
namespace Go.Proofs.Yteamgkadhlbflaa
open Go.ChangeShapes Go.WideShapes Go.ChangeAt Go.RowKit Go.Maps
open Classical
/-! What was seen, as it came in: slices within rows by their weights. -/
theorem weights_in79 {H : Type} {P : Program} {e : TypeId} : ∀ {ds : List (DataW H)} {d : DataW H}, d ∈ ds → ∀ m, m ∈ d.weights P e → m ∈ DataW.weightsAll P e ds
  | x :: r, d, hd, m, hm => by
    simp only [DataW.weightsAll, List.mem_append]
    rcases List.mem_cons.1 hd with rfl | hd
    · exact .inl hm
    · exact .inr (weights_in79 hd m hm)
  | [], _, hd, _, _ => by cases hd
theorem rows_w79 {α : Type} [Inhabited α] {Y : Lay α} (K : Y.Ok) (F : α → Prop) (hT : Try.prog.cellsOf Y.T = Y.k) (hby : Try.prog.bytesOf Y.T = Y.by_) {H : Type} {enc : TypeId × Value → H} {W : World} {v : Value} {d : DataW H} {p : List MemPlace} {fuel : Nat}
    (hop : ∀ {m : Nat} {cs : List Value} {D : DataW H} {q : List MemPlace}, DataW.trod enc Try.prog W 0 (fun _ => true) true m Y.T cs = some (D, q) → (∀ k, k ∈ D.weights Try.prog Y.T → k ≤ reachBytes) → ∃ e : α, F e ∧ cs = Y.cs e)
    (h : DataW.trod enc Try.prog W 0 (fun _ => true) true fuel Y.ST [v] = some (d, p)) (hw : ∀ m, m ∈ d.weights Try.prog Y.ST → m ≤ reachBytes) :
    ∃ a len cap, v = .slice a len cap ∧ ∃ P : List α, SlY Y W a len cap P ∧ (∀ e ∈ P, F e) ∧ len * Y.by_ ≤ 140737488351232 := by
  rcases Go.Deep.open_slice K.und h with ⟨hcs, hx⟩ | ⟨y, n, c, m, k, D, Pl, hcs, hb, hl, hm, hmm, hx, hall⟩
  · have e := (List.cons_eq_cons.1 hcs).1
    exact ⟨none, 0, 0, e, [], ⟨rfl, Nat.le_refl _, by unfold maxLen; omega, fun _ => ⟨rfl, rfl⟩, fun x hx => .inl rfl⟩, by simp, by omega⟩
  · have e := (List.cons_eq_cons.1 hcs).1
    refine ⟨some y, n, c, e, ?_⟩
    have hlm : n ≤ m := by rw [hmm]; split <;> omega
    have hd := congrArg Prod.fst hx
    dsimp only at hd
    have hsz : n * Y.by_ ≤ 140737488351232 := by
      have := hw _ (by
        rw [hd]
        simp only [DataW.weights, K.und, hby]
        exact List.mem_cons_self)
      simp only [List.length_map, List.length_range, reachBytes] at this
      rw [Nat.add_mul] at this
      omega
    have each : ∀ i, i < n → ∃ q : α, F q ∧ (∀ j, j < Y.k → W.cell? ((y.add (i * Y.k)).add j) = (Y.cs q)[j]?) := by
      intro i hi
      obtain ⟨cs', h1, h2⟩ := hall i (by omega)
      rw [hT] at h1
      obtain ⟨q, hf, rfl⟩ := hop h2 (fun k hk => hw k (by
        rw [hd]
        simp only [DataW.weights, K.und]
        exact List.mem_cons_of_mem _ (List.mem_append_left _ (weights_in79 (List.mem_map_of_mem (List.mem_range.2 hi)) k hk))))
      obtain ⟨_, _, hcell⟩ := World.cells?_some h1
      exact ⟨q, hf, hcell⟩
    obtain ⟨q, hq⟩ := Go.Deep.choose_lt each
    refine ⟨(List.range n).map q, ⟨by simp, hl, hm, (fun e => by cases e), fun x hx => ?_⟩, ?_, hsz⟩
    · cases hx
      by_cases hn0 : n = 0
      · subst hn0
        exact .inl rfl
      · obtain ⟨b, o, s⟩ := y
        have z0 := (hq 0 (by omega)).2 0 K.kp
        have z1 := z0.trans (List.getElem?_eq_getElem (by rw [K.len]; exact K.kp))
        have hs := World.cell?_spot z1
        obtain rfl : s = none := by
          rw [Nat.zero_mul] at hs
          simpa [Addr.add] using hs
        refine .inr ⟨b, o, rfl, ?_, fun i x hx j u hu => ?_⟩
        · rw [Addr.add_lit, Addr.add_lit] at z1
          exact World.block_lt_of_cell? _ _ z1
        · have hi : i < n := by
            have := (List.getElem?_eq_some_iff.1 hx).1
            simpa using this
          have e : q i = x := by
            simp [hi] at hx
            exact hx
          subst e
          have hj : j < Y.k := by have := (List.getElem?_eq_some_iff.1 hu).1; rwa [K.len] at this
          have := (hq i hi).2 j hj
          rw [Addr.add_lit, Addr.add_lit] at this
          exact this.trans hu
    · intro z hz
      obtain ⟨i, hi, rfl⟩ := List.mem_map.1 hz
      exact (hq i (List.mem_range.1 hi)).1
theorem cellsEn79 : Try.prog.cellsOf 76 = 5 := by kernel_rfl
theorem bytesEn79 : Try.prog.bytesOf 76 = 48 := by kernel_rfl
theorem cellsU79 : Try.prog.cellsOf 5 = 1 := by kernel_rfl
theorem bytesU79 : Try.prog.bytesOf 5 = 1 := by kernel_rfl
theorem cellsDr79 : Try.prog.cellsOf 74 = 2 := by kernel_rfl
theorem cellsQ79 : Try.prog.cellsOf 72 = 1 := by kernel_rfl
theorem cellsPk79 : Try.prog.cellsOf 80 = 3 := by kernel_rfl
theorem cellsKd79 : Try.prog.cellsOf 71 = 1 := by kernel_rfl
theorem cellsEs79 : Try.prog.cellsOf 77 = 1 := by kernel_rfl
theorem cellsBy79 : Try.prog.cellsOf 78 = 1 := by kernel_rfl
section
variable {H : Type} {enc : TypeId × Value → H} {W : World}
theorem open_enc79 {n : Nat} {cs : List Value} {x : DataW H × List MemPlace} (h : DataW.trod enc Try.prog W 0 (fun _ => true) true n 76 cs = some x) :
    ∃ p : En18, p.fits ∧ cs = p.cs := by
  obtain ⟨xs, k, hk, hxy, hlen, hxl, hf⟩ := DataW.trod_struct Try.underlying76 h
  rw [cellsEn79] at hlen
  have hxl : xs.length = 3 := hxl
  match xs, hxl, cs, hlen with
  | [y0, y1, y2], _, [v0, v1, v2, v3, v4], _ =>
    have g0 := hf 0 _ rfl
    have g1 := hf 1 _ rfl
    have g2 := hf 2 _ rfl
    simp [intCells, opCells] at g0 g1 g2
    obtain ⟨K, hK, hx0, hw0⟩ := DataW.trod_int Try.underlying3 g0
    obtain ⟨N, hN, hx2, hw2⟩ := DataW.trod_int Try.underlying3 g1
    obtain ⟨o, ho, e⟩ := open_opc g2
    refine ⟨⟨K, N, o⟩, ⟨hw0, hw2, ho⟩, ?_⟩
    have e0 := (List.cons_eq_cons.1 hK).1
    have e1 := (List.cons_eq_cons.1 hN).1
    simp at e
    obtain ⟨e2, e3, e4⟩ := e
    subst e0 e1 e2 e3 e4
    rfl
theorem open_by79 {n : Nat} {cs : List Value} {x : DataW H × List MemPlace} (h : DataW.trod enc Try.prog W 0 (fun _ => true) true n 5 cs = some x) : ∃ p : Int, True ∧ cs = yB73.cs p := by
  obtain ⟨K, hK, _, _⟩ := DataW.trod_int Try.underlying5 h
  exact ⟨K, trivial, hK⟩
theorem open_dr79 {n : Nat} {cs : List Value} {x : DataW H × List MemPlace} (h : DataW.trod enc Try.prog W 0 (fun _ => true) true n 74 cs = some x) : ∃ a b : Int, cs = [.int .u64 a, .int .u64 b] := by
  obtain ⟨xs, k, hk, hxy, hlen, hxl, hf⟩ := DataW.trod_struct Try.underlying74 h
  rw [cellsDr79] at hlen
  have hxl : xs.length = 2 := hxl
  match xs, hxl, cs, hlen with
  | [y0, y1], _, [v0, v1], _ =>
    have g0 := hf 0 _ rfl
    have g1 := hf 1 _ rfl
    simp [cellsQ79] at g0 g1
    obtain ⟨K, hK, _, _⟩ := DataW.trod_int Try.underlying72 g0
    obtain ⟨N, hN, _, _⟩ := DataW.trod_int Try.underlying72 g1
    exact ⟨K, N, by rw [(List.cons_eq_cons.1 hK).1, (List.cons_eq_cons.1 hN).1]⟩
theorem open_pk79 {n : Nat} {cs : List Value} {x : DataW H × List MemPlace} (h : DataW.trod enc Try.prog W 0 (fun _ => true) true n 80 cs = some x) (hw : ∀ k, k ∈ x.1.weights Try.prog 80 → k ≤ reachBytes) :
    ∃ (f t : Int) (b : SV Int), SlY yB73 W b.a b.D.length b.c b.D ∧ b.D.length * 1 ≤ 140737488351232 ∧ cs = [.int .i64 f, .int .i64 t, .slice b.a b.D.length b.c] := by
  obtain ⟨xs, k, hk, hxy, hlen, hxl, hf⟩ := DataW.trod_struct Try.underlying80 h
  rw [cellsPk79] at hlen
  have hxl : xs.length = 3 := hxl
  match xs, hxl, cs, hlen with
  | [y0, y1, y2], _, [v0, v1, v2], _ =>
    have hd : x.1 = .agg ([y0, y1, y2].map Prod.fst) := congrArg Prod.fst hxy
    have g0 := hf 0 _ rfl
    have g1 := hf 1 _ rfl
    have g2 := hf 2 _ rfl
    simp [intCells, cellsBy79] at g0 g1 g2
    obtain ⟨K, hK, _, _⟩ := DataW.trod_int Try.underlying3 g0
    obtain ⟨N, hN, _, _⟩ := DataW.trod_int Try.underlying3 g1
    obtain ⟨D2, P2⟩ := y2
    obtain ⟨a, n2, c, e, P, s, _, hb⟩ := rows_w79 kB73 (fun _ => True) cellsU79 bytesU79 (fun {m cs D q} h hw => open_by79 h) g2 (fun k hk => hw k (by
      rw [hd]
      simp only [DataW.weights, Try.underlying80]
      exact DataW.weights_mem_each (j := 2) (t := 78) (d := D2) rfl rfl _ hk))
    have hl := s.len
    subst hl
    refine ⟨K, N, ⟨a, c, P⟩, s, hb, ?_⟩
    rw [(List.cons_eq_cons.1 hK).1, (List.cons_eq_cons.1 hN).1, e]
theorem open_sn79 {n : Nat} {cs : List Value} {x : DataW H × List MemPlace} (h : DataW.trod enc Try.prog W 0 (fun _ => true) true n 82 cs = some x) (hw : ∀ k, k ∈ x.1.weights Try.prog 82 → k ≤ reachBytes) :
    ∃ p : Sn, (SnIn W p ∧ p.en.fits) ∧ cs = ySn.cs p := by
  obtain ⟨xs, k, hk, hxy, hlen, hxl, hf⟩ := DataW.trod_struct Try.underlying82 h
  rw [snCells] at hlen
  have hxl : xs.length = 10 := hxl
  match xs, hxl, cs, hlen with
  | [y0, y1, y2, y3, y4, y5, y6, y7, y8, y9], _, [v0, v1, v2, v3, v4, v5, v6, v7, v8, v9, v10, v11, v12, v13, v14, v15, v16, v17, v18], _ =>
    have hd : x.1 = .agg ([y0, y1, y2, y3, y4, y5, y6, y7, y8, y9].map Prod.fst) := congrArg Prod.fst hxy
    have g0 := hf 0 _ rfl
    have g1 := hf 1 _ rfl
    have g2 := hf 2 _ rfl
    have g3 := hf 3 _ rfl
    have g4 := hf 4 _ rfl
    have g5 := hf 5 _ rfl
    have g6 := hf 6 _ rfl
    have g7 := hf 7 _ rfl
    have g8 := hf 8 _ rfl
    have g9 := hf 9 _ rfl
    simp [intCells, cellsKd79, cellsDr79, cellsEn79, rsCells18, cellsEs79, cellsPk79] at g0 g1 g2 g3 g4 g5 g6 g7 g8 g9
    obtain ⟨kd, h0, _, _⟩ := DataW.trod_int Try.underlying71 g0
    obtain ⟨ev, h1, _, _⟩ := DataW.trod_int Try.underlying3 g1
    obtain ⟨nd, h2, _, _⟩ := DataW.trod_int Try.underlying3 g2
    obtain ⟨vw, h3, _, _⟩ := DataW.trod_int Try.underlying3 g3
    obtain ⟨pl, h4, _, _⟩ := DataW.trod_int Try.underlying3 g4
    obtain ⟨dh, dl, h5⟩ := open_dr79 g5
    obtain ⟨en, f6, h6⟩ := open_enc79 g6
    obtain ⟨r, f7, h7⟩ := open_rsc18 g7
    obtain ⟨D8, P8⟩ := y8
    haveI : Inhabited En18 := ⟨zE18⟩
    obtain ⟨a, n8, c, e8, P, s8, _, b8⟩ := rows_w79 kE18 (fun _ => True) cellsEn79 bytesEn79 (fun {m cs D q} h hw => by obtain ⟨p, _, e⟩ := open_enc79 h; exact ⟨p, trivial, e⟩) g8 (fun k hk => hw k (by
      rw [hd]
      simp only [DataW.weights, Try.underlying82]
      exact DataW.weights_mem_each (j := 8) (t := 77) (d := D8) rfl rfl _ hk))
    obtain ⟨pf, pt, bt, s9, b9, h9⟩ := open_pk79 g9 (fun k hk => hw k (by
      rw [hd]
      simp only [DataW.weights, Try.underlying82]
      exact DataW.weights_mem_each (j := 9) (t := 80) (d := y9.1) rfl rfl _ hk))
    have hl := s8.len
    subst hl
    have b8 : P.length * 48 ≤ 140737488351232 := b8
    refine ⟨⟨kd, ev, nd, vw, pl, dh, dl, en, r, ⟨a, c, P⟩, pf, pt, bt⟩, ⟨⟨s8, s9, by show P.length * 48 ≤ _; omega, by show bt.D.length ≤ _; omega⟩, f6⟩, ?_⟩
    have i0 := (List.cons_eq_cons.1 h0).1
    have i1 := (List.cons_eq_cons.1 h1).1
    have i2 := (List.cons_eq_cons.1 h2).1
    have i3 := (List.cons_eq_cons.1 h3).1
    have i4 := (List.cons_eq_cons.1 h4).1
    unfold En18.cs at h6
    simp at h5 h6 h7 h9
    obtain ⟨i5, i6⟩ := h5
    obtain ⟨i7, i8, i9, i10, i11⟩ := h6
    obtain ⟨i12, i13, i14⟩ := h7
    obtain ⟨i16, i17, i18⟩ := h9
    subst i0 i1 i2 i3 i4 i5 i6 i7 i8 i9 i10 i11 i12 i13 i14 e8 i16 i17 i18
    rfl
def CameSn (W : World) (a : Option Addr) (n c : Nat) : Prop := ∃ P : List Sn, SlY ySn W a n c P ∧ (∀ x ∈ P, SnIn W x ∧ x.en.fits) ∧ n * 200 ≤ 140737488351232
theorem open_snsW {base : Nat} {v : Value} {d : DataW H} {p : List MemPlace} (hv : Value.okWide Try.prog W .any base 22 v) (h : DataW.Trod enc Try.prog W 0 (fun _ => true) true 22 v d p)
    (hw : ∀ m, m ∈ d.weights Try.prog 22 → m ≤ reachBytes) : ∃ a n c, v = .slice a n c ∧ CameSn W a n c := by
  haveI : Inhabited Sn := ⟨zSn⟩
  obtain ⟨a, n, c, rfl⟩ := okWide_slice Try.underlying22 hv
  obtain ⟨fuel, h⟩ := h
  simp only [Value.cells] at h
  obtain ⟨a2, n2, c2, e, P, s, f, hb⟩ := rows_w79 kSn (fun q : Sn => SnIn W q ∧ q.en.fits) snCells snBytes (fun {m cs D q} h hw => open_sn79 h hw) h hw
  cases e
  exact ⟨a, n, c, rfl, P, s, f, hb⟩
end
/-! The law. -/
theorem cls_copy : ∀ (L D : List Sn), D.length = L.length → (∀ (i : Nat) (x y : Sn), L[i]? = some x → D[i]? = some y → y.kd = x.kd ∧ y.en = x.en ∧ y.r = x.r) → ∀ (j : Nat) (l : List Kl), cls D j l = cls L j l
  | [], [], _, _, j, l => rfl
  | x :: L, y :: D, hl, h, j, l => by
    obtain ⟨e1, e2, e3⟩ := h 0 x y rfl rfl
    have ih := cls_copy L D (by simpa using hl) (fun i x y hx hy => h (i + 1) x y hx hy)
    rw [cls_cons, cls_cons, e1, e2, e3]
    simp only [ih]
  | [], y :: D, hl, _, _, _ => by simp at hl
  | x :: L, [], hl, _, _, _ => by simp at hl
theorem cls_len : ∀ (L : List Sn) (j : Nat) (l : List Kl), (cls L j l).1.length ≤ l.length + L.length
  | [], j, l => Nat.le_refl _
  | x :: L, j, l => by
    rw [cls_cons]
    split
    · split
      · exact Nat.zero_le _
      · split
        · exact Nat.zero_le _
        · refine Nat.le_trans (cls_len L (j + 1) _) ?_
          simp
          try omega
    · split
      · split
        · exact Nat.zero_le _
        · split
          · exact Nat.zero_le _
          · refine Nat.le_trans (cls_len L (j + 1) _) ?_
            simp
            try omega
      · refine Nat.le_trans (cls_len L (j + 1) l) ?_
        simp
        try omega
theorem SnIn.later79 {w w' : World} {x : Sn} (h : SnIn w x) (b : Below w.heap.size w w') : SnIn w' x := ⟨h.lg.later b, h.bt.later b, h.nl, h.nb⟩
set_option maxHeartbeats 2000000 in
theorem calls79 (L : List Sn) (a : Option Addr) (c : Nat) (w : World) (h : SlY ySn w a L.length c L) (hin : ∀ x ∈ L, SnIn w x) (hf : ∀ x ∈ L, x.en.fits) (hn : L.length * 200 ≤ 140737488351232) :
    Calls Try.prog 3 #[.slice a L.length c] w fun e w' => e = .returned (.bool true) ∧ Below w.heap.size w w' := by
  go_enter Try.func3, Try.ntmps3
  go_upto_region 0 with fail
  refine wp_region_lit ?_
  refine vl_gen (fun T => Rp T 36 [(0, gw true (.slice a L.length c))]) ((Rp.nil rfl).cons rfl) (fun Z0 q0 => ?_)
  refine q0.t (.bool false) (ex_assign rfl rfl) fun _ q1 => ?_;clear q0
  refine wpList_nil ?_
  go_upto_region 1 with fail
  refine wp_region_lit ?_
  refine q1.t (.slice a L.length c) (ex_move rfl (q1.e (j := 0) rfl)) fun _ q2 => ?_;clear q1
  refine vcallP (want_none rfl) (ex_call rfl (by simp only [List.map_toArray, List.map_cons, List.map_nil, (q2.e (j := 8) rfl), evc] <;> rfl) rfl) (copySeen74 L a c w h hin hn) rfl q2.z (by decide) ?_
  rintro e w1 ⟨v3, D, rfl, o3, hDL, hcp, b1⟩
  refine ⟨_, rfl, q2.k fun _ q3 => ?_⟩;clear q2
  have y1 := b1.size
  obtain ⟨a3, c3, hv3, _, _, _, _⟩ := o3.form
  subst hv3
  have s3 := o3.sl' kSn
  have hall : ∀ (i : Nat) (x y : Sn), L[i]? = some x → D[i]? = some y → y.kd = x.kd ∧ y.en = x.en ∧ y.r = x.r := fun i x y hx hy => by
    have := (hcp i x y hx hy).eq
    rw [this]
    exact ⟨rfl, rfl, rfl⟩
  have hfD : ∀ x ∈ D, x.en.fits := fun x hx => by
    obtain ⟨i, hi, e⟩ := List.mem_iff_getElem.1 hx
    have h9 := hall i _ x (List.getElem?_eq_getElem (by omega)) (by rw [← e]; exact List.getElem?_eq_getElem hi)
    rw [h9.2.1]
    exact hf _ (List.getElem_mem _)
  have hcD := calls18 D a3 c3 w1 s3 hfD (by rw [hDL]; exact hn)
  rw [cls_copy L D hDL hall] at hcD
  have hCl := cls_len L 0 []
  rw [List.length_nil, Nat.zero_add] at hCl
  have h1 := h.later b1
  have hcL := fun w => refcalls18 L a c w
  obtain ⟨C, hC⟩ : ∃ z, z = (cls L 0 []).1 := ⟨_, rfl⟩
  obtain ⟨E, hE⟩ : ∃ z, z = (cls L 0 []).2 := ⟨_, rfl⟩
  rw [← hC, ← hE] at hcD
  rw [← hC] at hCl
  refine q3.t (.slice a3 D.length c3) (ex_assign rfl (q3.e (j := 9) rfl)) fun _ q4 => ?_;clear q3
  refine wpList_nil ?_
  go_upto_region 2 with fail
  refine wp_region_lit ?_
  refine q4.t (.slice a3 D.length c3) (ex_move rfl (q4.e (j := 3) rfl)) fun _ q5 => ?_;clear q4
  refine vcallP (want_none rfl) (ex_call rfl (by simp only [List.map_toArray, List.map_cons, List.map_nil, (q5.e (j := 11) rfl), evc] <;> rfl) rfl) (hcD) rfl q5.z (by decide) ?_
  rintro e w2 ⟨v4, rfl, o4, b2⟩
  refine ⟨_, rfl, q5.k fun _ q6 => ?_⟩;clear q5
  have y2 := b2.size
  obtain ⟨a4, c4, hv4, _, _, _, _⟩ := o4.form
  subst hv4
  refine q6.t (.tuple #[.slice a4 C.length c4, .int .i64 E]) (ex_move rfl (q6.e (j := 12) rfl)) fun _ q7 => ?_;clear q6
  refine q7.t (.slice a4 C.length c4) (ex_ext18 rfl (q7.e (j := 10) rfl) rfl) fun _ q8 => ?_;clear q7
  refine q8.t (.int .i64 E) (ex_ext18 rfl (q8.e (j := 10) rfl) rfl) fun _ q9 => ?_;clear q8
  refine q9.t (.slice a4 C.length c4) (ex_assign rfl (q9.e (j := 13) rfl)) fun _ q10 => ?_;clear q9
  refine q10.t (.int .i64 E) (ex_assign rfl (q10.e (j := 14) rfl)) fun _ q11 => ?_;clear q10
  refine wpList_nil ?_
  go_upto_region 3 with fail
  refine wp_region_lit ?_
  refine q11.t (.slice a L.length c) (ex_move rfl (q11.e (j := 0) rfl)) fun _ q12 => ?_;clear q11
  have hcR := hcL w2 (h1.later b2) (fun x hx => (hf x hx).ow) hn
  rw [← hC, ← hE] at hcR
  refine vcallP (want_none rfl) (ex_call rfl (by simp only [List.map_toArray, List.map_cons, List.map_nil, (q12.e (j := 16) rfl), evc] <;> rfl) rfl) (hcR) rfl q12.z (by decide) ?_
  rintro e w3 ⟨v6, rfl, o6, b3⟩
  refine ⟨_, rfl, q12.k fun _ q13 => ?_⟩;clear q12
  have y3 := b3.size
  obtain ⟨a6, c6, hv6, _, _, _, _⟩ := o6.form
  subst hv6
  refine q13.t (.tuple #[.slice a6 C.length c6, .int .i64 E]) (ex_move rfl (q13.e (j := 17) rfl)) fun _ q14 => ?_;clear q13
  refine q14.t (.slice a6 C.length c6) (ex_ext18 rfl (q14.e (j := 15) rfl) rfl) fun _ q15 => ?_;clear q14
  refine q15.t (.int .i64 E) (ex_ext18 rfl (q15.e (j := 15) rfl) rfl) fun _ q16 => ?_;clear q15
  refine q16.t (.slice a6 C.length c6) (ex_assign rfl (q16.e (j := 18) rfl)) fun _ q17 => ?_;clear q16
  refine q17.t (.int .i64 E) (ex_assign rfl (q17.e (j := 19) rfl)) fun _ q18 => ?_;clear q17
  refine wpList_nil ?_
  go_upto_region 4 with fail
  refine wp_region_lit ?_
  refine q18.t (.int .i64 E) (ex_move rfl (q18.e (j := 5) rfl)) fun _ q19 => ?_;clear q18
  refine q19.t (.int .i64 E) (ex_move rfl (q19.e (j := 7) rfl)) fun _ q20 => ?_;clear q19
  refine q20.t (.bool true) (ex_bin rfl (q20.e (j := 20) rfl) (q20.e (j := 21) rfl) (eqlSe _ _ _ _)) fun _ q21 => ?_;clear q20
  refine q21.t (.bool true) (ex_move rfl (q21.e (j := 22) rfl)) fun _ q22 => ?_;clear q21
  refine vl _ (.slice a4 C.length c4) (want_g rfl rfl (q22.a 23 rfl)) (fun hc => ex_move rfl (q22.e (j := 4) rfl)) rfl q22.z (by decide) (q22.k fun _ q23 => ?_);clear q22
  refine vl _ (.slice a6 C.length c6) (want_g rfl rfl (q23.a 23 rfl)) (fun hc => ex_move rfl (q23.e (j := 6) rfl)) rfl q23.z (by decide) (q23.k fun _ q24 => ?_);clear q23
  refine vcallP (show Region.wanted _ _ = (true && (true == true)) from want_g rfl rfl (q24.a 23 rfl)) (ex_call rfl (by simp only [List.map_toArray, List.map_cons, List.map_nil, (ev (q24.a 24 rfl) rfl), (ev (q24.a 25 rfl) rfl), evc] <;> rfl) rfl) (same18 C a4 a6 c4 c6 w3 ((o4.grow b3).sl' kK) (o6.sl' kK) (by omega)) rfl q24.z (by decide) ?_
  rintro e w4 ⟨rfl, b4⟩
  refine ⟨_, rfl, q24.k fun _ q25 => ?_⟩;clear q24
  have y4 := b4.size
  refine q25.t (.bool true) (ex_and (c := true) (b := true) (z := true) rfl (q25.a 23 rfl) (q25.a 26 rfl) rfl) fun _ q26 => ?_;clear q25
  refine q26.t (.bool true) (ex_move rfl (q26.e (j := 27) rfl)) fun _ q27 => ?_;clear q26
  refine vl _ (.slice a3 D.length c3) (want_g rfl rfl (q27.a 28 rfl)) (fun hc => ex_move rfl (q27.e (j := 3) rfl)) rfl q27.z (by decide) (q27.k fun _ q28 => ?_);clear q27
  refine vl _ (.slice a L.length c) (want_g rfl rfl (q28.a 28 rfl)) (fun hc => ex_move rfl (q28.e (j := 0) rfl)) rfl q28.z (by decide) (q28.k fun _ q29 => ?_);clear q28
  have b14 : Below w1.heap.size w1 w4 := (b2.trans (b3.mono (by omega))).trans (b4.mono (by omega))
  have b04 : Below w.heap.size w w4 := b1.trans (b14.mono (by omega))
  have s4 := s3.later b14
  have h4 := h.later b04
  have hcp4 : ∀ (i : Nat) (x y : Sn), L[i]? = some x → D[i]? = some y → SnCp w.heap.size w4 x y := fun i x y hx hy => (hcp i x y hx hy).grow b14
  have hin4 : ∀ x ∈ L, SnIn w4 x := fun x hx => (hin x hx).later79 b04
  rw [← hDL] at h4
  rw [← hDL] at q29
  refine vcallP (show Region.wanted _ _ = (true && (true == true)) from want_g rfl rfl (q29.a 28 rfl)) (ex_call rfl (by simp only [List.map_toArray, List.map_cons, List.map_nil, (ev (q29.a 29 rfl) rfl), (ev (q29.a 30 rfl) rfl), evc] <;> rfl) rfl) (sameSeen75 L D a3 a c3 c w.heap.size w4 s4 h4 hin4 hDL hcp4 hn) rfl q29.z (by decide) ?_
  rintro e w5 ⟨rfl, b5⟩
  refine ⟨_, rfl, q29.k fun _ q30 => ?_⟩;clear q29
  have y5 := b5.size
  refine q30.t (.bool true) (ex_and (c := true) (b := true) (z := true) rfl (q30.a 28 rfl) (q30.a 31 rfl) rfl) fun _ q31 => ?_;clear q30
  refine q31.t (.bool true) (ex_move rfl (q31.e (j := 32) rfl)) fun _ q32 => ?_;clear q31
  refine vcallP (show Region.wanted _ _ = (true && (true == true)) from want_g rfl rfl (q32.a 33 rfl)) (ex_call (args := #[]) rfl (by simp) rfl) (works18_any w5) rfl q32.z (by decide) ?_
  rintro e w6 ⟨rfl, b6⟩
  refine ⟨_, rfl, q32.k fun _ q33 => ?_⟩;clear q32
  refine q33.t (.bool true) (ex_and (c := true) (b := true) (z := true) rfl (q33.a 33 rfl) (q33.a 34 rfl) rfl) fun _ q34 => ?_;clear q33
  refine q34.t (.bool true) (ex_assign rfl (q34.e (j := 35) rfl)) fun _ q35 => ?_;clear q34
  refine wpList_nil ?_
  go_wp2
  refine bodyPost_ret (results_tmp rfl _ _ _) rfl ?_
  rw [getD_of (q35.a 2 rfl)]
  exact ⟨rfl, (b04.trans (b5.mono (by omega))).trans (b6.mono (by omega))⟩
theorem calls_came18 (a : Option Addr) (n c : Nat) (W : World) (h : CameSn W a n c) :
    Calls Try.prog 3 #[.slice a n c] W fun e w' => e = .returned (.bool true) ∧ Below W.heap.size W w' := by
  obtain ⟨P, s, f, hn⟩ := h
  have hl := s.len
  subst hl
  exact calls79 P a c W s (fun x hx => (f x hx).1) (fun x hx => (f x hx).2) hn
end Go.Proofs.Yteamgkadhlbflaa
