import Derived.Test.YtacalgpdhgpmbaaLb
import Derived.Test.YtacalgpdhgpmbaaCx
import Derived.ChangeOld
import Derived.ProofKit
import Derived.OpenShut
import Derived.Deep.SlicePairs
import Derived.SizedLaws
import Derived.Test.YtacalgpdhgpmbaaGMa
import Derived.Laws.AppendOwnNone
namespace Go.Proofs.Ytacalgpdhgpmbaa
open Go.ChangeShapes Go.WideShapes Go.ChangeAt Go.RowKit
open Classical
set_option linter.unusedVariables false

/-- Operations that came in. -/
def CameO (W : World) (a : Option Addr) (len cap : Nat) : Prop := ∃ P : List Opn, P.length = len ∧ Ops W a P ∧ (∀ p ∈ P, p.fits) ∧ len * 32 ≤ 140737488351232 ∧ len ≤ cap ∧ cap ≤ maxLen
set_option maxRecDepth 100000 in
theorem open_ops {H : Type} {enc : TypeId × Value → H} {W : World} {base : Nat} {v : Value} {d : DataW H} {p : List MemPlace} (hv : Value.okWide Try.prog W .any base 29 v) (h : DataW.Trod enc Try.prog W 0 (fun _ => true) true 29 v d p)
    (hs : ∀ el sp, d = .slice el sp → (el.length + sp.length) * Try.prog.bytesOf 23 ≤ reachBytes) :
    ∃ a len cap, v = .slice a len cap ∧ CameO W a len cap := by
  obtain ⟨a, n, c, rfl⟩ := okWide_slice Try.underlying29 hv
  refine ⟨a, n, c, rfl, ?_⟩
  obtain ⟨fuel, h⟩ := h
  simp only [Value.cells] at h
  rcases Go.Deep.open_slice Try.underlying29 h with ⟨hcs, hx⟩ | ⟨y, ln, cp, m, k, D, Pl, hcs, hb, hl, hm, hmm, hx, hall⟩
  · have e := (List.cons_eq_cons.1 hcs).1
    cases e
    exact ⟨[], rfl, fun i hi => by (simp at hi), by simp, by omega, Nat.le_refl _, by unfold maxLen; omega⟩
  · have e := (List.cons_eq_cons.1 hcs).1
    cases e
    have hlm : n ≤ m := by rw [hmm]; split <;> omega
    have each : ∀ i, i < n → ∃ p : Opn, p.fits ∧ (∀ j, j < 3 → W.cell? ((y.add (i * 3)).add j) = [Value.int .i64 p.k, .int .i64 p.s, .string p.v][j]?) := by
      intro i hi
      obtain ⟨cs', h1, h2⟩ := hall i (by omega)
      rw [opCells] at h1
      obtain ⟨p, hf, rfl⟩ := open_opc h2
      obtain ⟨_, _, hcell⟩ := World.cells?_some h1
      exact ⟨p, hf, hcell⟩
    haveI : Inhabited Opn := ⟨⟨0, 0, ⟨#[]⟩⟩⟩
    obtain ⟨p, hp⟩ := Go.Deep.choose_lt each
    have hd := hs _ _ (congrArg Prod.fst hx)
    rw [opBytes] at hd
    simp only [List.length_map, List.length_range, reachBytes] at hd
    refine ⟨(List.range n).map p, by simp, ?_, ?_, by omega, hl, hm⟩
    · intro i hi
      have hi2 : i < n := by simpa using hi
      have e : ((List.range n).map p)[i] = p i := by simp
      rw [e]
      obtain ⟨hf, hcell⟩ := hp i hi2
      have z0 := (hp 0 (by omega)).2 0 (by omega)
      obtain ⟨b, o, s⟩ := y
      have hs := World.cell?_spot z0
      obtain rfl : s = none := by
        rw [Nat.zero_mul] at hs
        simpa [Addr.add] using hs
      have c0 := hcell 0 (by omega)
      have c1 := hcell 1 (by omega)
      have c2 := hcell 2 (by omega)
      rw [Addr.add_lit, Addr.add_lit] at c0 c1 c2
      exact ⟨b, o, rfl, c0, c1, c2⟩
    · intro q hq
      obtain ⟨i, hi, rfl⟩ := List.mem_map.1 hq
      exact (hp i (List.mem_range.1 hi)).1

end Go.Proofs.Ytacalgpdhgpmbaa

namespace Go.Proofs.Ytacalgpdhgpmbaa
open Go.RowKit
set_option linter.unusedVariables false

/-- Three cells at a block. -/
def At3 (w : World) (g : Nat) (a b : Int) (c : ByteArray) : Prop := w.cell? ⟨g, 0, none⟩ = some (.int .i64 a) ∧ w.cell? ⟨g, 1, none⟩ = some (.int .i64 b) ∧ w.cell? ⟨g, 2, none⟩ = some (.string c)
theorem At3.new (w : World) (a b : Int) (c : ByteArray) (T : TypeId) : At3 (w.alloc (.cells #[.int .i64 a, .int .i64 b, .string c] T)) w.heap.size a b c := by
  refine ⟨?_, ?_, ?_⟩
  all_goals go_simp
theorem At3.on {w w' : World} {g : Nat} {a b : Int} {c : ByteArray} (h : At3 w g a b c) {B : Nat} (hb : Below B w w') (hg : g < B) : At3 w' g a b c :=
  ⟨(hb.cell (p := ⟨g, 0, none⟩) hg).trans h.1, (hb.cell (p := ⟨g, 1, none⟩) hg).trans h.2.1, (hb.cell (p := ⟨g, 2, none⟩) hg).trans h.2.2⟩
set_option maxRecDepth 100000 in
set_option maxHeartbeats 2000000 in
theorem plays_any (b : Nat) (m : Option Nat) (L : List Cl) (P : List Opn) (a : Option Addr) (cap : Nat) (ac : Option Addr) (cc : Nat) (sl : Int) (hsl : (Lit.int .i64 sl).wf = true) (w : World) (h : Led w b m L) (hc : SlC w (.slice ac L.length cc) L ac cc) (hcb : ∀ z, ac = some z → L ≠ [] → z.block ≠ b) (hP : Ops w a P) (hPb : ∀ z, a = some z → P ≠ [] → z.block ≠ b) (hf : ∀ p ∈ P, p.fits) (hl : P.length * 32 ≤ 140737488351232) :
    Calls Try.prog 19 #[.pointer (some ⟨b, 0, none⟩), .slice ac L.length cc, .slice a P.length cap, .int .i64 sl] w fun e w' => ∃ a' c', e = .returned (.tuple #[.slice a' (pl L P).length c', .bool true]) ∧ Took w b m (pl L P) w' ∧ SlC w' (.slice a' (pl L P).length c') (pl L P) a' c' ∧ (∀ z, a' = some z → pl L P ≠ [] → z.block ≠ b) := by
  have hlz : (P.length : Int) ≤ 9223372036854775807 := by omega
  have HL := hide h
  have HC := hide hc
  have HCB := hide hcb
  have HP := hide hP
  have HPB := hide hPb
  have HF := hide hf
  clear h hc hcb hP hPb hf
  go_enter Try.func19, Try.ntmps19
  go_wp2
  go_loopw [10, 1] (fun i v wr => ∃ (j : Nat) (aj : Option Addr) (cj : Nat), i = .int .i64 (j : Int) ∧ v = .slice aj (pl L (P.take j)).length cj ∧ j ≤ P.length ∧ Took w b m (pl L (P.take j)) wr ∧ SlC wr (.slice aj (pl L (P.take j)).length cj) (pl L (P.take j)) aj cj ∧ (∀ z, aj = some z → pl L (P.take j) ≠ [] → z.block ≠ b)) (fun i _ _ => P.length - (intOf i).toNat)
  case atStart => exact ⟨0, ac, cc, rfl, rfl, Nat.zero_le _, Took.refl HL.out, HC.out, HCB.out⟩
  case round =>
    obtain ⟨j, aj, cj, rfl, rfl, hj, T, hs, hsb⟩ := hrel
    by_cases hlt : j < P.length
    · have hg : P[j]? = some P[j] := List.getElem?_eq_getElem hlt
      have hne : P ≠ [] := by rintro rfl; simp at hlt
      have ht := pl_take L hg
      have hfj := HF.out P[j] (List.getElem_mem hlt)
      obtain ⟨q, o, ea, c0, c1, c2⟩ := HP.out j hlt
      have hqb : q ≠ b := HPB.out _ ea hne
      have hK := T.keep HL.out
      have c0 := hK _ _ _ hqb c0
      have c1 := hK _ _ _ hqb c1
      have c2 := hK _ _ _ hqb c2
      have hql := World.block_lt_of_cell? _ _ c0
      dsimp only at hql
      generalize P[j] = p at *
      obtain ⟨k, s, v⟩ := p
      subst ea
      dsimp only at c0 c1 c2 ht
      have hth := hide ht
      generalize pl L (P.take j) = Lj at *
      clear ht hg hK hne
      have hTh := hide T
      obtain ⟨mj, lj, hmj, huj⟩ := T
      have hokj := lj.ok
      have hblt := lj.lt
      have hww := wd_wf hokj (k := k) (s := s) (v := v) hfj.sw
      have cdo := fun W hW => refdo_any Lj aj cj k s v hfj W hW hokj
      have hn2 := fun W => neq_same (wd Lj k s v) W
      have cwd := fun W hW => would3 b mj Lj k s v hfj W hW
      have cd := fun W hW => do3 b mj Lj k s v hfj W hW
      have hljh := hide lj
      have hshh := hide hs
      have hsbh := hide hsb
      have hmjh := hide hmj
      have hujh := hide huj
      clear lj hs hsb hmj huj hTh
      generalize hwd : wd Lj k s v = r at *
      generalize hdn : dn Lj k s v = L' at *
      obtain ⟨rc, rs, rv⟩ := r
      dsimp only [rV] at cdo hn2 cwd cd hww
      go_wp2_with (go_at_call 42; refine (cdo _ hshh.out).mono ?_; rintro e w1 ⟨a1, q1, rfl, sl1, b1, hz1⟩)
      obtain ⟨w2, hw2⟩ : ∃ w2, w1.alloc (.cells #[.int .i64 rc, .int .i64 rs, .string rv] 53) = w2 := ⟨_, rfl⟩
      have z := At3.new w1 rc rs rv 53
      have b2 : Below w1.heap.size w1 w2 := by rw [← hw2]; exact (Below.refl _ w1).alloc (Nat.le_refl _) _
      have s2 : w2.heap.size = w1.heap.size + 1 := by rw [← hw2]; simp
      have b12 : Below wr.heap.size wr w2 := b1.trans (b2.mono b1.size)
      have hs1 := b1.size
      rw [hw2] at z ⊢
      have c0 := (b12.cell (p := ⟨q, o + j * 3, none⟩) hql).trans c0
      have c1 := (b12.cell (p := ⟨q, o + j * 3 + 1, none⟩) hql).trans c1
      have c2 := (b12.cell (p := ⟨q, o + j * 3 + 2, none⟩) hql).trans c2
      have l2 := hide (hljh.out.upd (S := fun _ => False) (Upd.of_below b12) id (fun _ _ => id))
      have sj2 := hide (hshh.out.later b12)
      have sl2 := hide (sl1.later b2)
      have hzb : ∀ x, a1 = some x → L' ≠ [] → x.block ≠ b := fun x hx hne => by
        rcases hz1 with ⟨e, eL⟩ | e
        · exact hsbh.out x (by rw [← e]; exact hx) (by rw [← eL]; exact hne)
        · have := e x hx; omega
      have hzbh := hide hzb
      have hgb : w1.heap.size ≠ b := by omega
      have hg2 : w1.heap.size < w2.heap.size := by omega
      generalize w1.heap.size = g at *
      obtain ⟨z0, z1, z2⟩ := z
      have hq2 : q < w2.heap.size := by omega
      have KS : ∀ v', Below w2.heap.size w2 v' → (v'.cell? ⟨q, o + j * 3, none⟩ = some (.int .i64 k) ∧ v'.cell? ⟨q, o + j * 3 + 1, none⟩ = some (.int .i64 s) ∧ v'.cell? ⟨q, o + j * 3 + 2, none⟩ = some (.string v) ∧ v'.cell? ⟨g, 0, none⟩ = some (.int .i64 rc) ∧ v'.cell? ⟨g, 1, none⟩ = some (.int .i64 rs) ∧ v'.cell? ⟨g, 2, none⟩ = some (.string rv)) := fun v' b' =>
        ⟨(b'.cell (p := ⟨q, o + j * 3, none⟩) hq2).trans c0, (b'.cell (p := ⟨q, o + j * 3 + 1, none⟩) hq2).trans c1, (b'.cell (p := ⟨q, o + j * 3 + 2, none⟩) hq2).trans c2, (b'.cell (p := ⟨g, 0, none⟩) hg2).trans z0, (b'.cell (p := ⟨g, 1, none⟩) hg2).trans z1, (b'.cell (p := ⟨g, 2, none⟩) hg2).trans z2⟩
      have KH := hide KS
      have b12h := hide b12
      clear KS hw2 b2 s2 b1 sl1 hzb hz1 b12 hs1
      have upl : ∀ W, Below w2.heap.size w2 W → Led W b mj Lj := fun W hW => l2.out.upd (S := fun _ => False) (Upd.of_below hW) id (fun _ _ => id)
      have uph := hide upl
      clear upl
      go_wp2_with fail
      go_region_held3 (fun v' => v'.cell? ⟨q, o + j * 3, none⟩ = some (.int .i64 k) ∧ v'.cell? ⟨q, o + j * 3 + 1, none⟩ = some (.int .i64 s) ∧ v'.cell? ⟨q, o + j * 3 + 2, none⟩ = some (.string v) ∧ v'.cell? ⟨g, 0, none⟩ = some (.int .i64 rc) ∧ v'.cell? ⟨g, 1, none⟩ = some (.int .i64 rs) ∧ v'.cell? ⟨g, 2, none⟩ = some (.string rv))
        (first | exact KH.out _ (Below.refl _ _).drew | exact KH.out _ (by assumption) | assumption)
        (first
          | (go_at_call 34; refine (cwd _ (uph.out _ (Below.refl _ _).drew)).mono ?_; rintro e v3 ⟨rfl, bv⟩; have bb3 : Below w2.heap.size w2 v3 := (Below.refl _ w2).drew.trans bv; clear bv)
          | (go_at_call 18; refine (asks_any b mj Lj aj cj s hfj.sw _ (uph.out _ bb3) (sj2.out.later bb3)).mono ?_; rintro e v4 ⟨rfl, bv⟩; have bb4 : Below w2.heap.size w2 v4 := bb3.trans (bv.mono bb3.size); clear bv bb3)
          | (go_at_call 28; refine (cd _ (uph.out _ bb4)).mono ?_; rintro e v8 ⟨rfl, T8⟩; have K8 := T8.keep (uph.out _ bb4); have hk8 : v8.cell? ⟨q, o + j * 3, none⟩ = some (.int .i64 k) ∧ v8.cell? ⟨q, o + j * 3 + 1, none⟩ = some (.int .i64 s) ∧ v8.cell? ⟨q, o + j * 3 + 2, none⟩ = some (.string v) ∧ v8.cell? ⟨g, 0, none⟩ = some (.int .i64 rc) ∧ v8.cell? ⟨g, 1, none⟩ = some (.int .i64 rs) ∧ v8.cell? ⟨g, 2, none⟩ = some (.string rv) := (by obtain ⟨h0, h1, h2, h3, h4, h5⟩ := KH.out _ bb4; exact ⟨K8 _ _ _ hqb h0, K8 _ _ _ hqb h1, K8 _ _ _ hqb h2, K8 _ _ _ hgb h3, K8 _ _ _ hgb h4, K8 _ _ _ hgb h5⟩); have s8 := T8.upd.size; have sl8 := (sl2.out.later bb4).kept K8 s8 hzbh.out))
      have T9 : Took w b m L' v8 := by
        have hu4 : Upd (LS b m) w _ := (hujh.out.trans (Upd.of_below b12h.out)).trans (Upd.of_below bb4)
        exact Took.trans (L := Lj) hmjh.out hu4 T8
      have T9h := hide T9
      obtain ⟨m8, l8, hm8, hu8⟩ := T8
      have l8h := hide l8
      have sl8h := hide sl8
      obtain ⟨k0, k1, k2, k3, k4, k5⟩ := hk8
      have kql := World.block_lt_of_cell? _ _ k0
      have kgl := World.block_lt_of_cell? _ _ k3
      dsimp only at kql kgl
      clear T9 l8 sl8 hm8 hu8 K8 s8 bb4
      have up8 : ∀ W, Below v8.heap.size v8 W → Led W b m8 L' := fun W hW => l8h.out.upd (S := fun _ => False) (Upd.of_below hW) id (fun _ _ => id)
      have up8h := hide up8
      clear up8
      go_wp2_with fail
      refine (asks_any b m8 L' a1 q1 sl hsl v8 l8h.out sl8h.out).mono ?_
      rintro e v9 ⟨rfl, b9⟩
      have k1' := (b9.cell (p := ⟨q, o + j * 3 + 1, none⟩) kql).trans k1
      go_wp2_with fail
      refine (asks_any b m8 L' a1 q1 s hfj.sw v9 (up8h.out _ b9) (sl8h.out.later b9)).mono ?_
      rintro e v10 ⟨rfl, bv⟩
      have b10 := b9.trans (bv.mono b9.size)
      have k4' := (b10.cell (p := ⟨g, 1, none⟩) kgl).trans k4
      clear bv
      go_wp2_with fail
      refine (asks_any b m8 L' a1 q1 rs hww v10 (up8h.out _ b10) (sl8h.out.later b10)).mono ?_
      rintro e v11 ⟨rfl, bv⟩
      have b11 := hide (b10.trans (bv.mono b10.size))
      clear bv b10 b9 k1' k4'
      go_wp2
      go_round
      case rel => exact ⟨j + 1, a1, q1, by go_num, by rw [hth.out], by omega, by rw [hth.out]; exact T9h.out.on b11.out, by rw [hth.out]; exact sl8h.out.later b11.out, by rw [hth.out]; exact hzbh.out⟩
      case measure => simp [intOf]; omega
    · obtain rfl : j = P.length := by omega
      rw [List.take_of_length_le (Nat.le_refl _)] at T hs hsb ⊢
      go_wp2
      go_ret2
      exact ⟨_, _, rfl, T, hs, hsb⟩

end Go.Proofs.Ytacalgpdhgpmbaa

namespace Go.Proofs.Ytacalgpdhgpmbaa
open Go.RowKit
set_option linter.unusedVariables false
set_option linter.unusedSimpArgs false

/-- Rows of triples: operations, results. -/
structure Ty3 (T ST : TypeId) : Prop where
  und : Try.prog.underlying ST = some (.slice T)
  info : (Try.prog.info? T).map (fun i => (i.zero, i.size, i.bytes)) = some (some (.agg #[.int .i64 0, .int .i64 0, .string ByteArray.empty]), 3, 32)
theorem tyOp : Ty3 23 29 := ⟨Try.underlying29, by kernel_rfl⟩
theorem tyRes : Ty3 53 45 := ⟨Try.underlying45, by kernel_rfl⟩
def rcs : List Rs → List Value
  | [] => []
  | d :: r => .int .i64 d.1 :: .int .i64 d.2.1 :: .string d.2.2 :: rcs r
theorem rcs_length : ∀ l : List Rs, (rcs l).length = l.length * 3
  | [] => rfl
  | d :: r => by simp only [rcs, List.length_cons, rcs_length r]; omega
theorem rcs_append : ∀ l m : List Rs, rcs (l ++ m) = rcs l ++ rcs m
  | [], m => rfl
  | d :: r, m => by simp only [rcs, List.cons_append, rcs_append r m]
theorem rcs_get : ∀ (l : List Rs) (i : Nat) (d : Rs), l[i]? = some d → (rcs l)[i * 3]? = some (.int .i64 d.1) ∧ (rcs l)[i * 3 + 1]? = some (.int .i64 d.2.1) ∧ (rcs l)[i * 3 + 2]? = some (.string d.2.2)
  | [], i, d, h => by simp at h
  | x :: r, 0, d, h => by simp at h; subst h; simp [rcs]
  | x :: r, i + 1, d, h => by
    have e : (i + 1) * 3 = i * 3 + 1 + 1 + 1 := by omega
    have h' : r[i]? = some d := by simpa using h
    obtain ⟨h0, h1, h2⟩ := rcs_get r i d h'
    rw [e, show i * 3 + 1 + 1 + 1 + 1 = (i * 3 + 1) + 1 + 1 + 1 by omega, show i * 3 + 1 + 1 + 1 + 2 = (i * 3 + 2) + 1 + 1 + 1 by omega]
    simp only [rcs, List.getElem?_cons_succ]
    exact ⟨h0, h1, h2⟩
theorem rcs_one : ∀ (l : List Rs) (u : Value), u ∈ rcs l → u.oneCell' = true
  | [], u, h => by cases h
  | d :: r, u, h => by
    simp only [rcs, List.mem_cons] at h
    rcases h with rfl | rfl | rfl | h
    · rfl
    · rfl
    · rfl
    · exact rcs_one r u h
theorem rcs_set : ∀ (l : List Rs) (k : Nat) (x : Rs), rcs (l.set k x) = (((rcs l).set (k * 3) (.int .i64 x.1)).set (k * 3 + 1) (.int .i64 x.2.1)).set (k * 3 + 2) (.string x.2.2)
  | [], k, x => by simp [rcs]
  | d :: r, 0, x => by simp [rcs]
  | d :: r, k + 1, x => by
    have e : (k + 1) * 3 = k * 3 + 1 + 1 + 1 := by omega
    rw [e, show k * 3 + 1 + 1 + 1 + 1 = (k * 3 + 1) + 1 + 1 + 1 by omega, show k * 3 + 1 + 1 + 1 + 2 = (k * 3 + 2) + 1 + 1 + 1 by omega]
    simp only [List.set_cons_succ, rcs, rcs_set r k x]
/-- A slice of triples of the call's own. -/
def Own3 (T : TypeId) (B : Nat) (w : World) (v : Value) (l : List Rs) : Prop := w.ownsRow B T 3 v l.length (rcs l)
variable {T ST : TypeId}
theorem Own3.nil (T : TypeId) (B : Nat) (w : World) : Own3 T B w (.slice none 0 0) [] := World.ownsRow_nil w B T 3
theorem Own3.alloc {B : Nat} {w : World} {v : Value} {l : List Rs} (h : Own3 T B w v l) (o : Obj) : Own3 T B (w.alloc o) v l := World.ownsRow.alloc h o
theorem Own3.form {B : Nat} {w : World} {v : Value} {l : List Rs} (h : Own3 T B w v l) : ∃ a c, v = .slice a l.length c ∧ l.length ≤ c ∧ c ≤ maxLen ∧ (a = none → l = [] ∧ c = 0) ∧ ∀ x, a = some x → ∃ g, x = ⟨g, 0, none⟩ ∧ B ≤ g ∧ g < w.heap.size := by
  rcases h.2 with ⟨e1, e2⟩ | ⟨g, cap, cur, e1, e2, e3, e4, e5, _⟩
  · exact ⟨none, 0, by rw [e1, e2], by omega, by unfold maxLen; omega, fun _ => ⟨List.eq_nil_of_length_eq_zero e2, rfl⟩, fun x hx => by cases hx⟩
  · refine ⟨some ⟨g, 0, none⟩, cap, e1, e4, e5, (fun hx => by cases hx), fun x hx => ?_⟩
    cases hx
    exact ⟨g, rfl, e2, (Array.getElem?_eq_some_iff.1 e3).1⟩
theorem Own3.cell {B : Nat} {w : World} {g n c : Nat} {l : List Rs} (h : Own3 T B w (.slice (some ⟨g, 0, none⟩) n c) l) (i : Nat) (d : Rs) (hd : l[i]? = some d) : w.cell? ⟨g, i * 3, none⟩ = some (.int .i64 d.1) ∧ w.cell? ⟨g, i * 3 + 1, none⟩ = some (.int .i64 d.2.1) ∧ w.cell? ⟨g, i * 3 + 2, none⟩ = some (.string d.2.2) := by
  obtain ⟨g0, g1, g2⟩ := rcs_get l i d hd
  have h0 := World.ownsRow.cells h (g := g) rfl _ _ g0
  have h1 := World.ownsRow.cells h (g := g) rfl _ _ g1
  have h2 := World.ownsRow.cells h (g := g) rfl _ _ g2
  rw [Addr.add_lit, Nat.zero_add] at h0 h1 h2
  exact ⟨h0, h1, h2⟩
theorem Own3.upd1 {S : Nat → Prop} {B : Nat} {w w' : World} {v : Value} {l : List Rs} (h : Own3 T B w v l) (u : Upd S w w') (hs : ∀ g, v.ownBlock = some g → ¬ S g) : Own3 T B w' v l := by
  obtain ⟨h1, h2⟩ := h
  refine ⟨h1, ?_⟩
  rcases h2 with h2 | ⟨g, cap, cur, e1, e2, e3, r⟩
  · exact .inl h2
  · refine .inr ⟨g, cap, cur, e1, e2, ?_, r⟩
    rw [u.block g (Array.getElem?_eq_some_iff.1 e3).1 (hs g (by rw [e1]; rfl))]
    exact e3
theorem Own3.grow {B : Nat} {w w' : World} {v : Value} {l : List Rs} (h : Own3 T B w v l) (hb : Below w.heap.size w w') : Own3 T B w' v l := h.upd1 (S := fun _ => False) (Upd.of_below hb) (fun _ _ => id)
theorem Own3.low {B B' : Nat} {w : World} {v : Value} {l : List Rs} (h : Own3 T B w v l) (hb : B' ≤ B) : Own3 T B' w v l := by
  obtain ⟨h1, h2⟩ := h
  refine ⟨h1, ?_⟩
  rcases h2 with h2 | ⟨g, cap, cur, e1, e2, r⟩
  · exact .inl h2
  · exact .inr ⟨g, cap, cur, e1, Nat.le_trans hb e2, r⟩
theorem Own3.set {B : Nat} {w : World} {g n c : Nat} {l : List Rs} (h : Own3 T B w (.slice (some ⟨g, 0, none⟩) n c) l) (k : Nat) (x : Rs) :
    Own3 T B (((w.setCell ⟨g, k * 3, none⟩ (.int .i64 x.1)).setCell ⟨g, k * 3 + 1, none⟩ (.int .i64 x.2.1)).setCell ⟨g, k * 3 + 2, none⟩ (.string x.2.2)) (.slice (some ⟨g, 0, none⟩) n c) (l.set k x) := by
  obtain ⟨a, c', e, _⟩ := h.form
  injection e with e1 e2 e3
  unfold Own3 at *
  rw [← e2] at h
  rw [rcs_set, List.length_set, ← e2]
  exact (((World.ownsRow.stored h (k * 3) _).1.stored (k * 3 + 1) _).1.stored (k * 3 + 2) _).1
theorem Own3.free {B : Nat} {w : World} {g n c : Nat} {l : List Rs} (h : Own3 T B w (.slice (some ⟨g, 0, none⟩) n c) l) (j : Nat) : w.frozen? ⟨g, j, none⟩ = false := by
  obtain ⟨a, c', e, _⟩ := h.form
  injection e with e1 e2 e3
  unfold Own3 at h
  rw [← e2] at h
  exact World.ownsRow.frozenAt h j
theorem own3_cells_ne {B B' : Nat} {w : World} {v v' : Value} {l : List Rs} {L : List Cl} (h : Own3 T B w v l) (h' : OwnC B' w v' L) (hT : T ≠ 38) : ∀ g, v'.ownBlock = some g → v.ownBlock ≠ some g := by
  intro g e1 e2
  rcases h.2 with ⟨e, _⟩ | ⟨g1, _, _, e, _, hb, _⟩
  · rw [e] at e2; cases e2
  · rw [e] at e2
    cases e2
    rcases h'.2 with ⟨e', _⟩ | ⟨g2, _, _, e', _, hb', _⟩
    · rw [e'] at e1; cases e1
    · rw [e'] at e1
      cases e1
      rw [hb] at hb'
      cases hb'
      exact hT rfl
/-- 'append' of one triple. -/
theorem app3 (ty : Ty3 T ST) (w : World) {ops : Array Oper} {rest : List Oper} {o : Oper} {a : Act} {Q : Exit → Act → World → Prop} (hgd : o.guard = none) (s x : Operand)
    (ho : o.op = .call { callee := .builtin .append, args := #[s, x], argTypes := #[ST, ST] }) (B : Nat) (l : List Rs) (v : Value) (hs : a.eval s = v)
    (ad : Addr) (m c : Nat) (hx : a.eval x = .slice (some ad) m c) (news : List Rs) (hm : news.length = m) (hn : ∀ j u, (rcs news)[j]? = some u → w.cell? (ad.add j) = some u) (hown : Own3 T B w v l) (hB : B ≤ w.heap.size) (hb : (l.length + m) * 32 ≤ 140737488355328)
    (hk : ∀ v' w', Own3 T B w' v' (l ++ news) → w.grownBy w' v.ownBlock → wpList Try.prog ops Q rest (a.put o.dst v') w') : wpList Try.prog ops Q (o :: rest) a w := by
  obtain ⟨i0, hi, hz0, hz1, hz2⟩ := info_parts ty.info
  refine wpList_plain hgd fun K hK => ?_
  obtain ⟨v', w', hr, h2, h3, h4⟩ := run_append_own (P := Try.prog) w B ST o.type T i0 (.agg #[.int .i64 0, .int .i64 0, .string ByteArray.empty]) 3 32 ty.und hi hz0 hz1 hz2 rfl (by decide) v l.length (rcs l) hown ad m c (rcs news) (by rw [rcs_length, hm]) hn (rcs_one news) (by unfold maxLen; omega) hb hB
  unfold Oper.wp execOp
  simp only [ho, resolve, invoke, builtin, Sem.run_bind, Sem.run_pure, Result.andThen_ok, List.map_toArray, List.map_cons, List.map_nil, hs, hx, hr]
  refine hK _ _ (hk v' w' ?_ h3)
  unfold Own3
  rw [rcs_append, List.length_append, hm]
  exact h2
theorem app3_none (ty : Ty3 T ST) (w : World) {ops : Array Oper} {rest : List Oper} {o : Oper} {a : Act} {Q : Exit → Act → World → Prop} (hgd : o.guard = none) (s x : Operand)
    (ho : o.op = .call { callee := .builtin .append, args := #[s, x], argTypes := #[ST, ST] }) (B : Nat) (l : List Rs) (v : Value) (hs : a.eval s = v) (hx : a.eval x = .slice none 0 0) (hown : Own3 T B w v l)
    (hk : wpList Try.prog ops Q rest (a.put o.dst v) w) : wpList Try.prog ops Q (o :: rest) a w := by
  obtain ⟨i0, hi, hz0, hz1, hz2⟩ := info_parts ty.info
  exact wpList_append_own_none hgd s x ST ho B T i0 3 ty.und hi v l.length (rcs l) hs hown hx hk
theorem made3 (n : Nat) : (madeCells (Value.agg #[.int .i64 0, .int .i64 0, .string ByteArray.empty]).cells (n * 3)).toList = rcs (List.replicate n (0, 0, ByteArray.empty)) := by
  have e : ∀ (m i : Nat), i < m * 3 → (rcs (List.replicate m (0, 0, ByteArray.empty)))[i]? = some (if i % 3 = 2 then .string ByteArray.empty else .int .i64 0) := by
    intro m i hi
    have hg : (List.replicate m ((0 : Int), (0 : Int), ByteArray.empty))[i / 3]? = some (0, 0, ByteArray.empty) := List.getElem?_replicate_of_lt (by omega)
    obtain ⟨h0, h1, h2⟩ := rcs_get _ _ _ hg
    rcases (by omega : i % 3 = 0 ∨ i % 3 = 1 ∨ i % 3 = 2) with h | h | h
    · rw [show i / 3 * 3 = i by omega] at h0
      rw [h0]; simp [h]
    · rw [show i / 3 * 3 + 1 = i by omega] at h1
      rw [h1]; simp [h]
    · rw [show i / 3 * 3 + 2 = i by omega] at h2
      rw [h2]; simp [h]
  apply List.ext_getElem?
  intro j
  by_cases hj : j < n * 3
  · rw [e n j hj]
    rcases (by omega : j % 3 = 0 ∨ j % 3 = 1 ∨ j % 3 = 2) with h | h | h <;> simp [madeCells, hj, h, Value.cells]
  · rw [List.getElem?_eq_none (by simp [madeCells]; omega), List.getElem?_eq_none (by rw [rcs_length]; simp; omega)]
theorem make3 (ty : Ty3 T ST) (w : World) {ops : Array Oper} {rest : List Oper} {o : Oper} {a : Act} {Q : Exit → Act → World → Prop} (hgd : o.guard = none) (x : Operand)
    (ho : o.op = .makeSlice ST x x) (n : Nat) (hx : a.eval x = .int .i64 (n : Int)) (hb : n * 32 ≤ 140737488355328)
    (h : ∀ w', Own3 T w.heap.size w' (.slice (some ⟨w.heap.size, 0, none⟩) n n) (List.replicate n (0, 0, ByteArray.empty)) → Below w.heap.size w w' → wpList Try.prog ops Q rest (a.put o.dst (.slice (some ⟨w.heap.size, 0, none⟩) n n)) w') : wpList Try.prog ops Q (o :: rest) a w := by
  obtain ⟨i0, hi, hz0, hz1, hz2⟩ := info_parts ty.info
  have hr := run_make (P := Try.prog) w ST T i0 (.agg #[.int .i64 0, .int .i64 0, .string ByteArray.empty]) ty.und hi hz0 .i64 .i64 n n (by omega) (Int.le_refl _) (by rw [hz2]; omega) (by omega)
  rw [Int.toNat_natCast, hz1] at hr
  refine wpList_plain hgd fun K hK => ?_
  unfold Oper.wp execOp
  simp only [ho, hx, Sem.run_bind, Sem.run_pure, hr, Result.andThen_ok]
  refine hK _ _ (h _ ?_ ((Below.refl _ _).alloc (Nat.le_refl _) _))
  unfold Own3
  rw [List.length_replicate, ← made3]
  exact World.ownsRow_lit w _ n (Nat.le_refl _) (by unfold maxLen; omega) (size_madeCells _ _)

end Go.Proofs.Ytacalgpdhgpmbaa

namespace Go.Proofs.Ytacalgpdhgpmbaa
open Go.RowKit
set_option linter.unusedVariables false

/-- The results of operations. -/
def rl (L : List Cl) : List Opn → List Rs
  | [] => []
  | o :: r => wd L o.k o.s o.v :: rl (dn L o.k o.s o.v) r
theorem rl_length (L : List Cl) : ∀ P : List Opn, (rl L P).length = P.length := by
  intro P
  induction P generalizing L with
  | nil => rfl
  | cons o r ih => simp [rl, ih]
theorem rl_snoc (L : List Cl) (P : List Opn) (o : Opn) : rl L (P ++ [o]) = rl L P ++ [wd (pl L P) o.k o.s o.v] := by
  induction P generalizing L with
  | nil => rfl
  | cons p r ih => simp only [List.cons_append, rl, ih]; rfl
theorem rl_take (L : List Cl) {P : List Opn} {i : Nat} {o : Opn} (h : P[i]? = some o) : rl L (P.take (i + 1)) = rl L (P.take i) ++ [wd (pl L (P.take i)) o.k o.s o.v] := by
  rw [List.take_add_one, h]
  exact rl_snoc _ _ _
theorem row_not_map {T : TypeId} {B : Nat} {w : World} {v : Value} {l : List Rs} {g : Nat} (h : Own3 T B w v l) (e : v.ownBlock = some g) : ∀ es c, w.heap[g]? ≠ some (.map es c) := fun es c e' => by
  rcases h.2 with ⟨e1, _⟩ | ⟨g1, _, _, e1, _, hb, _⟩
  · rw [e1] at e; cases e
  · rw [e1] at e
    cases e
    rw [e'] at hb
    cases hb
/-- Do beside a row of triples. -/
theorem do_row {T : TypeId} (B : Nat) (w0 : World) (b : Nat) (L : List Cl) (k s : Int) (v : ByteArray) (hf : (⟨k, s, v⟩ : Opn).fits) (B' : Nat) (vr : Value) (l : List Rs) (hg : ∀ g, vr.ownBlock = some g → g ≠ b) (w : World) (h : LedB B w0 w b L) (hr : Own3 T B' w vr l) : Calls Try.prog 28 #[.pointer (some ⟨b, 0, none⟩), .agg #[.int .i64 k, .int .i64 s, .string v]] w fun e w' => e = .returned (.agg #[.int .i64 (wd L k s v).1, .int .i64 (wd L k s v).2.1, .string (wd L k s v).2.2]) ∧ LedB B w0 w' b (dn L k s v) ∧ Own3 T B' w' vr l := by
  obtain ⟨m, h1, h2, h3, h4⟩ := h
  refine (do3 b m L k s v hf w h1).mono fun e w' ⟨he, t⟩ => ⟨he, LedB.took t h2 (by have := h1.lt; omega) h3 h4, hr.upd1 t.upd (fun g e => ?_)⟩
  rintro (e2 | e2)
  · exact hg g e e2
  · obtain ⟨es, c, hb, _⟩ := (h1.sm _ e2).2
    exact row_not_map hr e es c hb
set_option maxRecDepth 100000 in
set_option maxHeartbeats 1000000 in
theorem replay_any (P : List Opn) (a : Option Addr) (cap : Nat) (w : World) (hP : Ops w a P) (hf : ∀ p ∈ P, p.fits) (hl : P.length * 32 ≤ 140737488351232) :
    Calls Try.prog 25 #[.slice a P.length cap] w fun e w' => ∃ vc vr, e = .returned (.tuple #[vc, vr]) ∧ OwnC w.heap.size w' vc (pl [] P) ∧ Own3 53 w.heap.size w' vr (rl [] P) ∧ Below w.heap.size w w' := by
  have HP := hide hP
  have HF := hide hf
  clear hP hf
  have hlz : (P.length : Int) ≤ 9223372036854775807 := by omega
  go_enter Try.func25, Try.ntmps25
  go_wp2_with (first
    | (go_at_call 17; refine (new_b w.heap.size w w (Below.refl _ _) (Nat.le_refl _)).mono ?_; rintro e w1 ⟨rfl, l1, s1⟩; clear s1)
    | (at_make; go_must (refine make3 tyRes _ rfl (.tmp 10) rfl P.length rfl (by omega) ?_; intro w2 o2 b2; have l2 := l1.on b2)))
  have hgb : w1.heap.size ≠ w.heap.size := by have := l1.lt.2; omega
  have hge := hide (show w.heap.size ≤ w1.heap.size by have := l1.lt.2; omega)
  generalize w1.heap.size = g at *
  clear l1 b2
  go_wp2
  go_loopw [14] (fun i wr => ∃ j : Nat, i = .int .i64 (j : Int) ∧ j ≤ P.length ∧ LedB w.heap.size w wr w.heap.size (pl [] (P.take j)) ∧ Own3 53 g wr (.slice (some ⟨g, 0, none⟩) P.length P.length) (rl [] (P.take j) ++ List.replicate (P.length - j) (0, 0, ByteArray.empty))) (fun i _ => P.length - (intOf i).toNat)
  case atStart => exact ⟨0, rfl, Nat.zero_le _, l2, o2⟩
  case round =>
    obtain ⟨j, rfl, hj, F, oR⟩ := hrel
    by_cases hlt : j < P.length
    · have hg : P[j]? = some P[j] := List.getElem?_eq_getElem hlt
      have ht := pl_take [] hg
      have hr := rl_take [] hg
      have hfj := HF.out P[j] (List.getElem_mem hlt)
      obtain ⟨q, o, ea, c0, c1, c2⟩ := HP.out.later F.bel j hlt
      have hrl : (rl [] (P.take j)).length = j := by rw [rl_length]; simp; omega
      generalize P[j] = p at *
      obtain ⟨k, s, v⟩ := p
      subst ea
      dsimp only at c0 c1 c2 ht hr
      have hth := hide ht
      have hrh := hide hr
      generalize pl [] (P.take j) = L at *
      generalize rl [] (P.take j) = Rj at *
      clear ht hg hr
      have hrep : List.replicate (P.length - j) ((0 : Int), (0 : Int), ByteArray.empty) = (0, 0, ByteArray.empty) :: List.replicate (P.length - (j + 1)) (0, 0, ByteArray.empty) := by
        rw [show P.length - j = (P.length - (j + 1)) + 1 by omega, List.replicate_succ]
      rw [hrep] at oR
      have hset : (Rj ++ (0, 0, ByteArray.empty) :: List.replicate (P.length - (j + 1)) (0, 0, ByteArray.empty)).set j (wd L k s v) = (Rj ++ [wd L k s v]) ++ List.replicate (P.length - (j + 1)) (0, 0, ByteArray.empty) := by
        rw [List.set_append_right _ _ (by omega), hrl, Nat.sub_self]
        simp
      have hget : (Rj ++ (0, 0, ByteArray.empty) :: List.replicate (P.length - (j + 1)) (0, 0, ByteArray.empty))[j]? = some (0, 0, ByteArray.empty) := by
        rw [List.getElem?_append_right (by omega), hrl, Nat.sub_self]
        rfl
      have hsh := hide hset
      have hgh := hide hget
      generalize (Rj ++ (0, 0, ByteArray.empty) :: List.replicate (P.length - (j + 1)) (0, 0, ByteArray.empty)) = X at *
      clear hset hget hrep hrl
      have bA := (Below.refl _ wr).alloc (Nat.le_refl _) (.cells #[.int .i64 k, .int .i64 s, .string v] 23)
      have cdd := do_row (T := 53) w.heap.size w w.heap.size L k s v hfj g _ X (fun g' e => by cases e; exact hgb) _ (F.on bA) (oR.grow bA)
      go_wp2_with (go_at_call 28; refine cdd.mono ?_; rintro e w5 ⟨rfl, l5, o5⟩; obtain ⟨e0, e1, e2⟩ := o5.cell j _ hgh.out; have f0 := o5.free (j * 3); have f1 := o5.free (j * 3 + 1); have f2 := o5.free (j * 3 + 2))
      have oN := hide (o5.set j (wd L k s v))
      have lN := hide (l5.upd (S := fun i => i = g) ((((Upd.refl (fun i => i = g) w5).setCell (p := ⟨g, j * 3, none⟩) (.inl rfl) (.int .i64 (wd L k s v).1)).setCell (p := ⟨g, j * 3 + 1, none⟩) (.inl rfl) (.int .i64 (wd L k s v).2.1)).setCell (p := ⟨g, j * 3 + 2, none⟩) (.inl rfl) (.string (wd L k s v).2.2)) (by rintro k rfl; exact hge.out) (fun e => hgb e.symm) (by rintro k rfl; exact row_not_map o5 rfl))
      go_round
      case rel => exact ⟨j + 1, by go_num, by omega, by rw [hth.out]; exact lN.out, by rw [hrh.out, ← hsh.out]; exact oN.out⟩
      case measure => simp [intOf]; omega
    · obtain rfl : j = P.length := by omega
      rw [List.take_of_length_le (Nat.le_refl _)] at F oR
      rw [Nat.sub_self, List.replicate_zero, List.append_nil] at oR
      have cs := cells_b _ _ _ _ _ F
      have Fh := hide F
      have oRh := hide oR
      clear F oR
      go_wp2_with (go_at_call 31; refine cs.mono ?_; rintro e w6 ⟨v6, rfl, o6, b6⟩)
      go_ret2
      have hs := Fh.out.bel.size
      exact ⟨_, _, rfl, o6.low hs, (oRh.out.grow b6).low hge.out, Fh.out.bel.trans (b6.mono hs)⟩

end Go.Proofs.Ytacalgpdhgpmbaa

namespace Go.Proofs.Ytacalgpdhgpmbaa
open Go.RowKit
set_option linter.unusedVariables false

theorem rcs_one3 (w : World) (r : Rs) (T : TypeId) (g : Nat) (h : At3 w g r.1 r.2.1 r.2.2) : ∀ j u, (rcs [r])[j]? = some u → w.cell? ((⟨g, 0, none⟩ : Addr).add j) = some u := by
  intro j u hu
  rw [Addr.add_lit, Nat.zero_add]
  match j, hu with
  | 0, hu => simp [rcs] at hu; subst hu; exact h.1
  | 1, hu => simp [rcs] at hu; subst hu; exact h.2.1
  | 2, hu => simp [rcs] at hu; subst hu; exact h.2.2
  | j + 3, hu => simp [rcs] at hu
set_option maxRecDepth 100000 in
set_option maxHeartbeats 1000000 in
theorem refreplay_any (P : List Opn) (a : Option Addr) (cap : Nat) (w : World) (hP : Ops w a P) (hf : ∀ p ∈ P, p.fits) (hl : P.length * 32 ≤ 140737488351232) :
    Calls Try.prog 26 #[.slice a P.length cap] w fun e w' => ∃ vc vr, e = .returned (.tuple #[vc, vr]) ∧ OwnC w.heap.size w' vc (pl [] P) ∧ Own3 53 w.heap.size w' vr (rl [] P) ∧ Below w.heap.size w w' := by
  have HP := hide hP
  have HF := hide hf
  clear hP hf
  have hlz : (P.length : Int) ≤ 9223372036854775807 := by omega
  go_enter Try.func26, Try.ntmps26
  go_wp2
  go_loopw [6, 4, 5] (fun i vc vr wr => ∃ j : Nat, i = .int .i64 (j : Int) ∧ j ≤ P.length ∧ OwnC w.heap.size wr vc (pl [] (P.take j)) ∧ Own3 53 w.heap.size wr vr (rl [] (P.take j)) ∧ Below w.heap.size w wr) (fun i _ _ _ => P.length - (intOf i).toNat)
  case atStart => exact ⟨0, rfl, Nat.zero_le _, OwnC.nil _ _, Own3.nil _ _ _, Below.refl _ _⟩
  case round =>
    obtain ⟨j, rfl, hj, oC, oR, hb⟩ := hrel
    by_cases hlt : j < P.length
    · have hg : P[j]? = some P[j] := List.getElem?_eq_getElem hlt
      have ht := pl_take [] hg
      have hr := rl_take [] hg
      have hfj := HF.out P[j] (List.getElem_mem hlt)
      obtain ⟨q, o, ea, c0, c1, c2⟩ := HP.out.later hb j hlt
      have hrl : (rl [] (P.take j)).length = j := by rw [rl_length]; simp; omega
      have hok := Ok.nil.pl (P.take j)
      generalize P[j] = p at *
      obtain ⟨k, s, v⟩ := p
      subst ea
      dsimp only at c0 c1 c2 ht hr
      have hth := hide ht
      have hrh := hide hr
      generalize pl [] (P.take j) = L at *
      generalize rl [] (P.take j) = Rj at *
      clear ht hg hr
      obtain ⟨aj, cj, hsl, _⟩ := oC.sl
      have hvf := hsl.form
      subst hvf
      have cdo := refdo_own L aj cj k s v hfj wr hsl hok
      have hsz := hb.size
      have hoC := hide oC
      have hoR := hide oR
      clear oC oR hsl
      dsimp only [rV] at cdo
      go_wp2_with fail
      refine cdo.mono ?_
      rintro e w1 ⟨a1, q1, rfl, sl1, b1, hz1⟩
      obtain ⟨z0, z1, z2⟩ := At3.new w1 (wd L k s v).1 (wd L k s v).2.1 (wd L k s v).2.2 53
      have oC1 : OwnC w.heap.size w1 (.slice a1 (dn L k s v).length q1) (dn L k s v) := by
        rcases hz1 with ⟨rfl, rfl, e⟩ | h
        · rw [e]; exact hoC.out.grow b1
        · exact h.low hsz
      have oR1 := hoR.out.grow b1
      have bw1 := hb.trans (b1.mono hsz)
      have hs1 := bw1.size
      have oC1h := hide oC1
      have oR1h := hide oR1
      have bw1h := hide bw1
      clear oC1 oR1 bw1 hz1 sl1 b1 hoC hoR
      go_wp2_with (at_builtin; go_must (refine app3 tyRes _ rfl (.tmp 25) (.tmp 27) rfl w.heap.size Rj _ rfl ⟨w1.heap.size + 1, 0, none⟩ 1 1 rfl [wd L k s v] rfl ?yn ((oR1h.out.alloc _).alloc _) (by simp; omega) (by rw [hrl]; omega) ?yk))
      case yn => exact rcs_one3 _ (wd L k s v) 53 (w1.heap.size + 1) (by have := At3.new (w1.alloc (.cells #[.int .i64 (wd L k s v).1, .int .i64 (wd L k s v).2.1, .string (wd L k s v).2.2] 53)) (wd L k s v).1 (wd L k s v).2.1 (wd L k s v).2.2 53; rw [World.size_alloc] at this; exact this)
      case yk =>
        intro v3 w3 o3 hg3
        have oRR := (oR1h.out.alloc (.cells #[.int .i64 (wd L k s v).1, .int .i64 (wd L k s v).2.1, .string (wd L k s v).2.2] 53)).alloc (.cells #[.int .i64 (wd L k s v).1, .int .i64 (wd L k s v).2.1, .string (wd L k s v).2.2] 53)
        have oCC := (oC1h.out.alloc (.cells #[.int .i64 (wd L k s v).1, .int .i64 (wd L k s v).2.1, .string (wd L k s v).2.2] 53)).alloc (.cells #[.int .i64 (wd L k s v).1, .int .i64 (wd L k s v).2.1, .string (wd L k s v).2.2] 53)
        have oC3 : OwnC w.heap.size w3 (.slice a1 (dn L k s v).length q1) (dn L k s v) := World.ownsRow.kept oCC hg3 (by
          cases hob : (Value.slice a1 (dn L k s v).length q1).ownBlock with
          | none => exact .inl rfl
          | some gg => exact .inr (fun e => own3_cells_ne oRR oCC (by decide) gg hob e.symm))
        have b3 : Below w.heap.size w w3 := ((bw1h.out.alloc hs1 _).alloc (by simp; omega) _).grown hg3 (by simp; omega) (fun k hk => (World.ownsRow.lt oRR k hk).1)
        have oC3h := hide oC3
        have b3h := hide b3
        clear oC3 b3 oRR oCC hg3
        go_wp2
        go_round
        case rel => exact ⟨j + 1, by go_num, by omega, by rw [hth.out]; exact oC3h.out, by rw [hrh.out]; exact o3, b3h.out⟩
        case measure => simp [intOf]; omega
    · obtain rfl : j = P.length := by omega
      rw [List.take_of_length_le (Nat.le_refl _)] at oC oR
      have oCh := hide oC
      have oRh := hide oR
      clear oC oR
      go_wp2
      go_ret2
      exact ⟨_, _, rfl, oCh.out, oRh.out, hb⟩
set_option maxRecDepth 100000 in
set_option maxHeartbeats 1000000 in
theorem sameres_own (D : List Rs) (B1 B2 : Nat) (v1 v2 : Value) (w : World) (h1 : Own3 53 B1 w v1 D) (h2 : Own3 53 B2 w v2 D) :
    Calls Try.prog 27 #[v1, v2] w fun e w' => e = .returned (.bool true) ∧ Below w.heap.size w w' := by
  obtain ⟨a1, c1, rfl, hc1, hm1, hn1, hx1⟩ := h1.form
  obtain ⟨a2, c2, rfl, hc2, hm2, hn2, hx2⟩ := h2.form
  unfold maxLen at hm1 hm2
  have H1 := hide h1
  have H2 := hide h2
  have X1 := hide hx1
  have X2 := hide hx2
  have N1 := hide hn1
  have N2 := hide hn2
  clear h1 h2 hx1 hx2 hn1 hn2
  go_enter Try.func27, Try.ntmps27
  go_wp2
  go_loopw [5] (fun i wr => ∃ k n : Nat, i = .int .i64 (k : Int) ∧ k ≤ D.length ∧ wr = w.drewN n) (fun i _ => D.length - (intOf i).toNat)
  case atStart => exact ⟨0, 0, rfl, Nat.zero_le _, rfl⟩
  case round =>
    obtain ⟨k, n, rfl, hk, rfl⟩ := hrel
    by_cases hlt : k < D.length
    · obtain ⟨d, hd⟩ : ∃ d, D[k]? = some d := ⟨_, List.getElem?_eq_getElem hlt⟩
      have hne : D ≠ [] := by rintro rfl; simp at hlt
      cases a1 with
      | none => exact absurd (N1.out rfl).1 hne
      | some z1 =>
        cases a2 with
        | none => exact absurd (N2.out rfl).1 hne
        | some z2 =>
          obtain ⟨g1, rfl, _, _⟩ := X1.out z1 rfl
          obtain ⟨g2, rfl, _, _⟩ := X2.out z2 rfl
          obtain ⟨e0, e1, e2⟩ := H1.out.cell k d hd
          obtain ⟨f0, f1, f2⟩ := H2.out.cell k d hd
          obtain ⟨x, y, z⟩ := d
          dsimp only at e0 e1 e2 f0 f1 f2
          clear hd hne
          go_wp2
          go_quiet (fail)
          go_wp2
          go_round
          case rel => exact ⟨k + 1, n + nq, by go_num, by omega, by simp⟩
          case measure => simp [intOf]; omega
    · obtain rfl : k = D.length := by omega
      go_wp2
      go_ret
      exact ⟨rfl, belN (Below.refl _ w) n⟩

end Go.Proofs.Ytacalgpdhgpmbaa
