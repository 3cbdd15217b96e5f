import Derived.Test.YtjedpnhdpnknoaaMc
import Derived.Test.YtjedpnhdpnknoaaLo
namespace Go.Proofs.Ytjedpnhdpnknoaa
open Go.RowKit
set_option linter.unusedVariables false

/-- Three cells at a block. -/
def At3 (w : World) (g : Nat) (a b : Int) (c : ByteArray) : Prop := w.cell? ⟨g, 0, none⟩ = some (.int .i64 a) ∧ w.cell? ⟨g, 1, none⟩ = some (.int .i64 b) ∧ w.cell? ⟨g, 2, none⟩ = some (.string c)
theorem At3.new (w : World) (a b : Int) (c : ByteArray) (T : TypeId) : At3 (w.alloc (.cells #[.int .i64 a, .int .i64 b, .string c] T)) w.heap.size a b c := by
  refine ⟨?_, ?_, ?_⟩
  all_goals go_simp
theorem At3.on {w w' : World} {g : Nat} {a b : Int} {c : ByteArray} (h : At3 w g a b c) {B : Nat} (hb : Below B w w') (hg : g < B) : At3 w' g a b c :=
  ⟨(hb.cell (p := ⟨g, 0, none⟩) hg).trans h.1, (hb.cell (p := ⟨g, 1, none⟩) hg).trans h.2.1, (hb.cell (p := ⟨g, 2, none⟩) hg).trans h.2.2⟩
set_option maxRecDepth 100000 in
set_option maxHeartbeats 2000000 in
theorem plays_any (b : Nat) (m : Option Nat) (L : List Cl) (P : List Opn) (a : Option Addr) (cap : Nat) (ac : Option Addr) (cc : Nat) (sl : Int) (hsl : (Lit.int .i64 sl).wf = true) (w : World) (h : Led w b m L) (hc : SlC w (.slice ac L.length cc) L ac cc) (hcb : ∀ z, ac = some z → L ≠ [] → z.block ≠ b) (hP : Ops w a P) (hPb : ∀ z, a = some z → P ≠ [] → z.block ≠ b) (hf : ∀ p ∈ P, p.fits) (hl : P.length * 32 ≤ 140737488351232) :
    Calls Try.prog 14 #[.pointer (some ⟨b, 0, none⟩), .slice ac L.length cc, .slice a P.length cap, .int .i64 sl] w fun e w' => ∃ a' c', e = .returned (.tuple #[.slice a' (pl L P).length c', .bool true]) ∧ Took w b m (pl L P) w' ∧ SlC w' (.slice a' (pl L P).length c') (pl L P) a' c' ∧ (∀ z, a' = some z → pl L P ≠ [] → z.block ≠ b) := by
  have hlz : (P.length : Int) ≤ 9223372036854775807 := by omega
  have HL := hide h
  have HC := hide hc
  have HCB := hide hcb
  have HP := hide hP
  have HPB := hide hPb
  have HF := hide hf
  clear h hc hcb hP hPb hf
  go_enter Try.func14, Try.ntmps14
  go_wp2
  go_loopw [10, 1] (fun i v wr => ∃ (j : Nat) (aj : Option Addr) (cj : Nat), i = .int .i64 (j : Int) ∧ v = .slice aj (pl L (P.take j)).length cj ∧ j ≤ P.length ∧ Took w b m (pl L (P.take j)) wr ∧ SlC wr (.slice aj (pl L (P.take j)).length cj) (pl L (P.take j)) aj cj ∧ (∀ z, aj = some z → pl L (P.take j) ≠ [] → z.block ≠ b)) (fun i _ _ => P.length - (intOf i).toNat)
  case atStart => exact ⟨0, ac, cc, rfl, rfl, Nat.zero_le _, Took.refl HL.out, HC.out, HCB.out⟩
  case round =>
    obtain ⟨j, aj, cj, rfl, rfl, hj, T, hs, hsb⟩ := hrel
    by_cases hlt : j < P.length
    · have hg : P[j]? = some P[j] := List.getElem?_eq_getElem hlt
      have hne : P ≠ [] := by rintro rfl; simp at hlt
      have ht := pl_take L hg
      have hfj := HF.out P[j] (List.getElem_mem hlt)
      obtain ⟨q, o, ea, c0, c1, c2⟩ := HP.out j hlt
      have hqb : q ≠ b := HPB.out _ ea hne
      have hK := T.keep HL.out
      have c0 := hK _ _ _ hqb c0
      have c1 := hK _ _ _ hqb c1
      have c2 := hK _ _ _ hqb c2
      have hql := World.block_lt_of_cell? _ _ c0
      dsimp only at hql
      generalize P[j] = p at *
      obtain ⟨k, s, v⟩ := p
      subst ea
      dsimp only at c0 c1 c2 ht
      have hth := hide ht
      generalize pl L (P.take j) = Lj at *
      clear ht hg hK hne
      have hTh := hide T
      obtain ⟨mj, lj, hmj, huj⟩ := T
      have hokj := lj.ok
      have hblt := lj.lt
      have hww := wd_wf hokj (k := k) (s := s) (v := v) hfj.sw
      have cdo := fun W hW => refdo_any Lj aj cj k s v hfj W hW hokj
      have hn2 := fun W => neq_same (wd Lj k s v) W
      have cwd := fun W hW => would3 b mj Lj k s v hfj W hW
      have cd := fun W hW => do3 b mj Lj k s v hfj W hW
      have hljh := hide lj
      have hshh := hide hs
      have hsbh := hide hsb
      have hmjh := hide hmj
      have hujh := hide huj
      clear lj hs hsb hmj huj hTh
      generalize hwd : wd Lj k s v = r at *
      generalize hdn : dn Lj k s v = L' at *
      obtain ⟨rc, rs, rv⟩ := r
      dsimp only [rV] at cdo hn2 cwd cd hww
      go_wp2_with (go_at_call 31; refine (cdo _ hshh.out).mono ?_; rintro e w1 ⟨a1, q1, rfl, sl1, b1, hz1⟩)
      obtain ⟨w2, hw2⟩ : ∃ w2, w1.alloc (.cells #[.int .i64 rc, .int .i64 rs, .string rv] 57) = w2 := ⟨_, rfl⟩
      have z := At3.new w1 rc rs rv 57
      have b2 : Below w1.heap.size w1 w2 := by rw [← hw2]; exact (Below.refl _ w1).alloc (Nat.le_refl _) _
      have s2 : w2.heap.size = w1.heap.size + 1 := by rw [← hw2]; simp
      have b12 : Below wr.heap.size wr w2 := b1.trans (b2.mono b1.size)
      have hs1 := b1.size
      rw [hw2] at z ⊢
      have c0 := (b12.cell (p := ⟨q, o + j * 3, none⟩) hql).trans c0
      have c1 := (b12.cell (p := ⟨q, o + j * 3 + 1, none⟩) hql).trans c1
      have c2 := (b12.cell (p := ⟨q, o + j * 3 + 2, none⟩) hql).trans c2
      have l2 := hide (hljh.out.upd (S := fun _ => False) (Upd.of_below b12) id (fun _ _ => id))
      have sj2 := hide (hshh.out.later b12)
      have sl2 := hide (sl1.later b2)
      have hzb : ∀ x, a1 = some x → L' ≠ [] → x.block ≠ b := fun x hx hne => by
        rcases hz1 with ⟨e, eL⟩ | e
        · exact hsbh.out x (by rw [← e]; exact hx) (by rw [← eL]; exact hne)
        · have := e x hx; omega
      have hzbh := hide hzb
      have hgb : w1.heap.size ≠ b := by omega
      have hg2 : w1.heap.size < w2.heap.size := by omega
      generalize w1.heap.size = g at *
      obtain ⟨z0, z1, z2⟩ := z
      have hq2 : q < w2.heap.size := by omega
      have KS : ∀ v', Below w2.heap.size w2 v' → (v'.cell? ⟨q, o + j * 3, none⟩ = some (.int .i64 k) ∧ v'.cell? ⟨q, o + j * 3 + 1, none⟩ = some (.int .i64 s) ∧ v'.cell? ⟨q, o + j * 3 + 2, none⟩ = some (.string v) ∧ v'.cell? ⟨g, 0, none⟩ = some (.int .i64 rc) ∧ v'.cell? ⟨g, 1, none⟩ = some (.int .i64 rs) ∧ v'.cell? ⟨g, 2, none⟩ = some (.string rv)) := fun v' b' =>
        ⟨(b'.cell (p := ⟨q, o + j * 3, none⟩) hq2).trans c0, (b'.cell (p := ⟨q, o + j * 3 + 1, none⟩) hq2).trans c1, (b'.cell (p := ⟨q, o + j * 3 + 2, none⟩) hq2).trans c2, (b'.cell (p := ⟨g, 0, none⟩) hg2).trans z0, (b'.cell (p := ⟨g, 1, none⟩) hg2).trans z1, (b'.cell (p := ⟨g, 2, none⟩) hg2).trans z2⟩
      have KH := hide KS
      have b12h := hide b12
      clear KS hw2 b2 s2 b1 sl1 hzb hz1 b12 hs1
      have upl : ∀ W, Below w2.heap.size w2 W → Led W b mj Lj := fun W hW => l2.out.upd (S := fun _ => False) (Upd.of_below hW) id (fun _ _ => id)
      have uph := hide upl
      clear upl
      go_wp2_with fail
      go_region_held3 (fun v' => v'.cell? ⟨q, o + j * 3, none⟩ = some (.int .i64 k) ∧ v'.cell? ⟨q, o + j * 3 + 1, none⟩ = some (.int .i64 s) ∧ v'.cell? ⟨q, o + j * 3 + 2, none⟩ = some (.string v) ∧ v'.cell? ⟨g, 0, none⟩ = some (.int .i64 rc) ∧ v'.cell? ⟨g, 1, none⟩ = some (.int .i64 rs) ∧ v'.cell? ⟨g, 2, none⟩ = some (.string rv))
        (first | exact KH.out _ (Below.refl _ _).drew | exact KH.out _ (by assumption) | assumption)
        (first
          | (go_at_call 32; refine (cwd _ (uph.out _ (Below.refl _ _).drew)).mono ?_; rintro e v3 ⟨rfl, bv⟩; have bb3 : Below w2.heap.size w2 v3 := (Below.refl _ w2).drew.trans bv; clear bv)
          | (go_at_call 13; refine (asks_any b mj Lj aj cj s hfj.sw _ (uph.out _ bb3) (sj2.out.later bb3)).mono ?_; rintro e v4 ⟨rfl, bv⟩; have bb4 : Below w2.heap.size w2 v4 := bb3.trans (bv.mono bb3.size); clear bv bb3)
          | (go_at_call 24; refine (cd _ (uph.out _ bb4)).mono ?_; rintro e v8 ⟨rfl, T8⟩; have K8 := T8.keep (uph.out _ bb4); have hk8 : v8.cell? ⟨q, o + j * 3, none⟩ = some (.int .i64 k) ∧ v8.cell? ⟨q, o + j * 3 + 1, none⟩ = some (.int .i64 s) ∧ v8.cell? ⟨q, o + j * 3 + 2, none⟩ = some (.string v) ∧ v8.cell? ⟨g, 0, none⟩ = some (.int .i64 rc) ∧ v8.cell? ⟨g, 1, none⟩ = some (.int .i64 rs) ∧ v8.cell? ⟨g, 2, none⟩ = some (.string rv) := (by obtain ⟨h0, h1, h2, h3, h4, h5⟩ := KH.out _ bb4; exact ⟨K8 _ _ _ hqb h0, K8 _ _ _ hqb h1, K8 _ _ _ hqb h2, K8 _ _ _ hgb h3, K8 _ _ _ hgb h4, K8 _ _ _ hgb h5⟩); have s8 := T8.upd.size; have sl8 := (sl2.out.later bb4).kept K8 s8 hzbh.out))
      have T9 : Took w b m L' v8 := by
        have hu4 : Upd (LS b m) w _ := (hujh.out.trans (Upd.of_below b12h.out)).trans (Upd.of_below bb4)
        exact Took.trans (L := Lj) hmjh.out hu4 T8
      have T9h := hide T9
      obtain ⟨m8, l8, hm8, hu8⟩ := T8
      have l8h := hide l8
      have sl8h := hide sl8
      obtain ⟨k0, k1, k2, k3, k4, k5⟩ := hk8
      have kql := World.block_lt_of_cell? _ _ k0
      have kgl := World.block_lt_of_cell? _ _ k3
      dsimp only at kql kgl
      clear T9 l8 sl8 hm8 hu8 K8 s8 bb4
      have up8 : ∀ W, Below v8.heap.size v8 W → Led W b m8 L' := fun W hW => l8h.out.upd (S := fun _ => False) (Upd.of_below hW) id (fun _ _ => id)
      have up8h := hide up8
      clear up8
      go_wp2_with fail
      refine (asks_any b m8 L' a1 q1 sl hsl v8 l8h.out sl8h.out).mono ?_
      rintro e v9 ⟨rfl, b9⟩
      have k1' := (b9.cell (p := ⟨q, o + j * 3 + 1, none⟩) kql).trans k1
      go_wp2_with fail
      refine (asks_any b m8 L' a1 q1 s hfj.sw v9 (up8h.out _ b9) (sl8h.out.later b9)).mono ?_
      rintro e v10 ⟨rfl, bv⟩
      have b10 := b9.trans (bv.mono b9.size)
      have k4' := (b10.cell (p := ⟨g, 1, none⟩) kgl).trans k4
      clear bv
      go_wp2_with fail
      refine (asks_any b m8 L' a1 q1 rs hww v10 (up8h.out _ b10) (sl8h.out.later b10)).mono ?_
      rintro e v11 ⟨rfl, bv⟩
      have b11 := hide (b10.trans (bv.mono b10.size))
      clear bv b10 b9 k1' k4'
      go_wp2
      go_round
      case rel => exact ⟨j + 1, a1, q1, by go_num, by rw [hth.out], by omega, by rw [hth.out]; exact T9h.out.on b11.out, by rw [hth.out]; exact sl8h.out.later b11.out, by rw [hth.out]; exact hzbh.out⟩
      case measure => simp [intOf]; omega
    · obtain rfl : j = P.length := by omega
      rw [List.take_of_length_le (Nat.le_refl _)] at T hs hsb ⊢
      go_wp2
      go_ret2
      exact ⟨_, _, rfl, T, hs, hsb⟩

end Go.Proofs.Ytjedpnhdpnknoaa
