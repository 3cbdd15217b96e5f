import Derived.Test.YtegfbebhgihcaaaNkf
import Derived.Test.YtegfbebhgihcaaaNkh
namespace Go.Proofs.Ytegfbebhgihcaaa
open Go.RowKit Go.Maps
set_option linter.unusedVariables false
set_option linter.unusedSimpArgs false

/-- The bytes of a packet are its own. -/
def Ap.Ow (B : Nat) (w : World) (x : Ap) : Prop := OwnY yU B w (.slice x.a x.s.length x.c) x.s
theorem Ap.Ow.sl {B : Nat} {w : World} {x : Ap} (h : x.Ow B w) : x.In w := OwnY.sl' kU h
theorem Ap.Ow.grow {B : Nat} {w w' : World} {x : Ap} (h : x.Ow B w) (hb : Below w.heap.size w w') : x.Ow B w' := OwnY.grow h hb
theorem Ap.Ow.low {B B' : Nat} {w : World} {x : Ap} (h : x.Ow B w) (hb : B' ≤ B) : x.Ow B' w := OwnY.low h hb
theorem Ap.Ow.grownA {B B' : Nat} {w w' : World} {x : Ap} {v : Value} {L : List Ap} (h : x.Ow B w) (hv : OwnY yA B' w v L) (hg : w.grownBy w' v.ownBlock) : x.Ow B w' := OwnY.grownZ h hv (by decide) hg
theorem Ap.Ow.upd {S : Nat → Prop} {B : Nat} {w w' : World} {x : Ap} (h : x.Ow B w) (u : Upd S w w') (hs : ∀ k, B ≤ k → k < w.heap.size → ¬ S k) : x.Ow B w' := OwnY.upd1 h u (fun k hk => hs k (OwnY.blk h k hk).1 (OwnY.blk h k hk).2)
set_option maxRecDepth 100000 in
theorem copyby14 (a : Option Addr) (c : Nat) (s : List UInt8) (w : World) (h : SlY yU w a s.length c s) (hs : s.length ≤ 140737488355328) :
    Calls Try.prog 100 #[.slice a s.length c] w fun e w' => ∃ ya yc, e = .returned (.slice ya s.length yc) ∧ OwnY yU w.heap.size w' (.slice ya s.length yc) s ∧ Below w.heap.size w w' := by
  have H := hide h
  clear h
  go_enter Try.func100, Try.ntmps100
  go_wp2_with (at_builtin; go_must (refine appY kU _ rfl (.const (.slice none 0 0)) (.tmp 3) rfl w.heap.size [] (.slice none 0 0) rfl a s.length c rfl s H.out (OwnY.nil _ _ _) (Nat.le_refl _) (by unfold maxLen; simp; omega) (by simp [yU]; omega) ?_))
  intro v1 w1 o1 g1 n1
  obtain ⟨ya, yc, hv1, _⟩ := o1.form
  subst hv1
  have HB : Hid (Below w.heap.size w w1) := (Below.refl _ _).grown g1 (Nat.le_refl _) (fun k hk => by cases hk)
  have HO := hide o1
  clear o1 g1 n1
  go_wp2
  go_ret
  exact ⟨ya, yc, rfl, HO.out, HB.out⟩
set_option maxRecDepth 100000 in
set_option maxHeartbeats 1000000 in
theorem copypk_any (x : Ap) (w : World) (hx : x.In w) (hs : x.s.length ≤ 140737488355328) : Calls Try.prog 82 #[x.val] w fun e w' => ∃ y : Ap, e = .returned y.val ∧ y.pk = x.pk ∧ y.Ow w.heap.size w' ∧ Below w.heap.size w w' := by
  obtain ⟨f, t, a, c, s⟩ := x
  unfold Ap.In at hx
  unfold Ap.val
  dsimp only at hx hs ⊢
  have HC : ∀ o o', Hid (Calls Try.prog 100 #[.slice a s.length c] ((w.alloc o).alloc o') fun e w' => ∃ ya yc, e = .returned (.slice ya s.length yc) ∧ OwnY yU ((w.alloc o).alloc o').heap.size w' (.slice ya s.length yc) s ∧ Below ((w.alloc o).alloc o').heap.size ((w.alloc o).alloc o') w') := fun o o' => copyby14 a c s _ ((hx.alloc8 _).alloc8 _) hs
  clear hx
  go_enter Try.func82, Try.ntmps82
  go_wp2_with fail
  refine (HC _ _).out.mono ?_
  rintro e w1 ⟨ya, yc, rfl, o1, hb⟩
  have c0 : w1.cell? ⟨w.heap.size, 0, none⟩ = some (.int .i64 f) := (hb.cell (p := ⟨w.heap.size, 0, none⟩) (by simp; omega)).trans (by go_simp)
  have c1 : w1.cell? ⟨w.heap.size, 1, none⟩ = some (.int .i64 t) := (hb.cell (p := ⟨w.heap.size, 1, none⟩) (by simp; omega)).trans (by go_simp)
  have c2 : w1.cell? ⟨w.heap.size, 2, none⟩ = some (.slice a s.length c) := (hb.cell (p := ⟨w.heap.size, 2, none⟩) (by simp; omega)).trans (by go_simp)
  have t1 : ∀ j, w1.frozen? ⟨w.heap.size, j, none⟩ = false := fun j => (hb.frozen (p := ⟨w.heap.size, j, none⟩) (by simp; omega)).trans (by go_simp)
  have r0 : w1.cell? ⟨w.heap.size + 1, 0, none⟩ = some (.int .i64 0) := (hb.cell (p := ⟨w.heap.size + 1, 0, none⟩) (by simp)).trans (by go_simp)
  have r1 : w1.cell? ⟨w.heap.size + 1, 1, none⟩ = some (.int .i64 0) := (hb.cell (p := ⟨w.heap.size + 1, 1, none⟩) (by simp)).trans (by go_simp)
  have r2 : w1.cell? ⟨w.heap.size + 1, 2, none⟩ = some (.slice none 0 0) := (hb.cell (p := ⟨w.heap.size + 1, 2, none⟩) (by simp)).trans (by go_simp)
  have t2 : ∀ j, w1.frozen? ⟨w.heap.size + 1, j, none⟩ = false := fun j => (hb.frozen (p := ⟨w.heap.size + 1, j, none⟩) (by simp)).trans (by go_simp)
  have hz1 : w.heap.size + 1 + 1 ≤ w1.heap.size := by have := hb.size; simp at this; omega
  have HO : Hid (OwnY yU (w.heap.size + 1 + 1) w1 (.slice ya s.length yc) s) := by
    have h := o1
    rw [show ∀ o o', ((w.alloc o).alloc o').heap.size = w.heap.size + 1 + 1 from fun o o' => by simp] at h
    exact h
  have HB : Hid (Below w.heap.size w w1) := (bel8 ((Below.refl _ _).alloc (Nat.le_refl _) _) (Nat.le_refl _) _).trans (hb.mono (by simp; omega))
  clear o1 hb HC
  go_wp2
  refine bodyPost_ret (v := .agg #[.int .i64 f, .int .i64 t, .slice ya s.length yc]) (by simp [results, Try.results82, go_sem, r0, r1, r2]) rfl ⟨⟨f, t, ya, yc, s⟩, rfl, rfl, ?_, ?_⟩
  · have u : Upd (fun k => k = w.heap.size ∨ k = w.heap.size + 1) w1 ((((w1.setCell ⟨w.heap.size, 2, none⟩ (.slice ya s.length yc)).setCell ⟨w.heap.size + 1, 0, none⟩ (.int .i64 f)).setCell ⟨w.heap.size + 1, 1, none⟩ (.int .i64 t)).setCell ⟨w.heap.size + 1, 2, none⟩ (.slice ya s.length yc)) := ((((Upd.refl _ w1).setCell (p := ⟨w.heap.size, 2, none⟩) (.inl (.inl rfl)) _).setCell (p := ⟨w.heap.size + 1, 0, none⟩) (.inl (.inr rfl)) _).setCell (p := ⟨w.heap.size + 1, 1, none⟩) (.inl (.inr rfl)) _).setCell (p := ⟨w.heap.size + 1, 2, none⟩) (.inl (.inr rfl)) _
    exact (HO.out.upd1 u (fun k hk e => by have := (HO.out.blk k hk).1; omega)).low (by omega)
  · refine (((HB.out.setCell ?_ _).setCell ?_ _).setCell ?_ _).setCell ?_ _
    all_goals (first | omega | (dsimp only; omega))
/-- Packets in a row of one's own, each with bytes of its own. -/
structure Lf (B : Nat) (w : World) (v : Value) (L : List Ap) (P : List Pk) : Prop where
  own : OwnY yA B w v L
  ow : ∀ x ∈ L, x.Ow B w
  pk : L.map Ap.pk = P
theorem Outs.lf {B : Nat} {w : World} {v : Value} {L : List Ap} {P : List Pk} (h : Outs B w v L P) : Lf B w v L P := ⟨h.own, fun x hx => (h.out x hx).own, h.pk⟩
theorem Lf.grow {B : Nat} {w w' : World} {v : Value} {L : List Ap} {P : List Pk} (h : Lf B w v L P) (hb : Below w.heap.size w w') : Lf B w' v L P := ⟨h.own.grow hb, fun x hx => (h.ow x hx).grow hb, h.pk⟩
theorem Lf.upd {S : Nat → Prop} {B : Nat} {w w' : World} {v : Value} {L : List Ap} {P : List Pk} (h : Lf B w v L P) (u : Upd S w w') (hs : ∀ k, B ≤ k → k < w.heap.size → ¬ S k) : Lf B w' v L P := ⟨h.own.upd1 u (fun k hk => hs k (h.own.blk k hk).1 (h.own.blk k hk).2), fun x hx => (h.ow x hx).upd u hs, h.pk⟩
theorem Lf.len {B : Nat} {w : World} {v : Value} {L : List Ap} {P : List Pk} (h : Lf B w v L P) : L.length = P.length := by
  have := congrArg List.length h.pk
  rwa [List.length_map] at this
set_option maxRecDepth 100000 in
set_option maxHeartbeats 1000000 in
theorem copypks_any (L : List Ap) (a : Option Addr) (c : Nat) (w : World) (h : SlY yA w a L.length c L) (hin : ∀ x ∈ L, x.In w ∧ x.s.length ≤ 140737488351232) (hl : L.length * 40 ≤ 140737488351232) :
    Calls Try.prog 39 #[.slice a L.length c] w fun e w' => ∃ v L', e = .returned v ∧ Lf w.heap.size w' v L' (L.map Ap.pk) ∧ Below w.heap.size w w' := by
  have HL := hide h
  have HI := hide hin
  have hcap := h.cap
  clear h hin
  go_enter Try.func39, Try.ntmps39
  go_wp2_with fail
  go_loopw [3, 4] (fun v i wr => ∃ (j : Nat) (K : List Ap), i = .int .i64 (j : Int) ∧ j ≤ L.length ∧ Hid (Lf w.heap.size wr v K ((L.take j).map Ap.pk) ∧ Below w.heap.size w wr)) (fun _ i _ => L.length - (intOf i).toNat)
  case atStart => exact ⟨0, [], rfl, Nat.zero_le _, ⟨⟨OwnY.nil _ _ _, (fun x hx => by cases hx), rfl⟩, Below.refl _ _⟩⟩
  case round =>
    obtain ⟨j, K, rfl, hj, HJ⟩ := hrel
    by_cases hlt : j < L.length
    · have d1 : decide ((j : Int) < (L.length : Int)) = true := decide_eq_true (by omega)
      have i1 : (j : Int) < (L.length : Int) := by omega
      have hg := List.getElem?_eq_getElem hlt
      generalize hxe : L[j] = x at hg
      have hxm : x ∈ L := by rw [← hxe]; exact List.getElem_mem _
      have hlk : K.length = j := by have := HJ.out.1.len; rw [List.length_map, List.length_take] at this; omega
      obtain ⟨q, o, rfl, hq, hlie⟩ := HL.out.place (by intro e; rw [e] at hlt; simp at hlt)
      have hb := HJ.out.2
      have l0 : wr.cell? ⟨q, o + j * 3, none⟩ = some (.int .i64 x.f) := (hb.cell (p := ⟨q, _, none⟩) hq).trans (hlie _ _ hg 0 _ rfl)
      have l1 : wr.cell? ⟨q, o + j * 3 + 1, none⟩ = some (.int .i64 x.t) := (hb.cell (p := ⟨q, _, none⟩) hq).trans (hlie _ _ hg 1 _ rfl)
      have l2 : wr.cell? ⟨q, o + j * 3 + 2, none⟩ = some (.slice x.a x.s.length x.c) := (hb.cell (p := ⟨q, _, none⟩) hq).trans (hlie _ _ hg 2 _ rfl)
      have HF := hide (copypk_any x wr (SlY.later (HI.out x hxm).1 hb) (by have := (HI.out x hxm).2; omega))
      have HTK : Hid ((L.take (j + 1)).map Ap.pk = (L.take j).map Ap.pk ++ [x.pk]) := by show _ = _; rw [List.take_add_one, hg]; simp
      have hw1 : IntKind.i64.wrap ((j : Int) + 1) = ((j + 1 : Nat) : Int) := by rw [IntKind.wrap_i64]; omega
      have hlk2 : (K.length + 1) * 40 ≤ 140737488355328 := by omega
      obtain ⟨va, vc, hv, _⟩ := HJ.out.1.own.form
      unfold Ap.val at HF
      have HLK := hide hlk
      clear hb hlie hxe hxm hg hlk
      subst hv
      go_wp2_with fail
      refine HF.out.mono ?_
      rintro e w2 ⟨y, rfl, hy, hyo, hb2⟩
      have HY := hide hy
      have HYO := hide (hyo.low HJ.out.2.size)
      have HJ2 : Hid (Lf w.heap.size w2 (.slice va K.length vc) K ((L.take j).map Ap.pk) ∧ Below w.heap.size w w2) := ⟨HJ.out.1.grow hb2, HJ.out.2.trans (hb2.mono HJ.out.2.size)⟩
      have hz2 := HJ2.out.2.size
      clear hy hyo hb2 HF HJ l0 l1 l2
      have HA := fun o => hide ((Below.refl w2.heap.size w2).alloc (Nat.le_refl _) o)
      go_wp2_with (at_builtin; go_must (refine appY kA _ rfl (.tmp 11) (.tmp 17) rfl w.heap.size K (.slice va K.length vc) rfl (some ⟨w2.heap.size, 0, none⟩) 1 1 rfl [y] (one_ap w2 y) (HJ2.out.1.own.alloc _) (by simp; omega) (by unfold maxLen; omega) hlk2 ?_))
      intro v3 w3 o3 g3 n3
      have HF : Hid (Lf w.heap.size w3 v3 (K ++ [y]) ((L.take (j + 1)).map Ap.pk) ∧ Below w.heap.size w w3) := by
        have OA := HJ2.out.1.own.grow (HA (.cells #[.int .i64 y.f, .int .i64 y.t, .slice y.a y.s.length y.c] 46)).out
        have BA := HJ2.out.2.trans ((HA (.cells #[.int .i64 y.f, .int .i64 y.t, .slice y.a y.s.length y.c] 46)).out.mono hz2)
        refine ⟨⟨o3, fun z hz => ?_, ?_⟩, OA.grown BA g3 (by simp; omega)⟩
        · rcases List.mem_append.1 hz with hz | hz
          · exact ((HJ2.out.1.ow z hz).grow (HA _).out).grownA OA g3
          · simp at hz
            subst hz
            exact (HYO.out.grow (HA _).out).grownA OA g3
        · rw [List.map_append, HJ2.out.1.pk, HTK.out]
          simp [HY.out]
      have hlen : (K ++ [y]).length = j + 1 := by rw [List.length_append, HLK.out]; rfl
      clear o3 g3 n3 HA HJ2 HYO HY
      go_wp2
      exact ⟨⟨j + 1, K ++ [y], by go_num, by omega, HF⟩, by simp [intOf]; omega⟩
    · have d1 : decide ((j : Int) < (L.length : Int)) = false := decide_eq_false (by omega)
      have hj2 : j = L.length := by omega
      have HF : Hid (Lf w.heap.size wr u3 K (L.map Ap.pk) ∧ Below w.heap.size w wr) := by
        have := HJ.out
        rw [hj2, List.take_length] at this
        exact this
      clear HJ hj2
      go_wp2
      go_ret
      exact ⟨_, K, rfl, HF.out.1, HF.out.2⟩

end Go.Proofs.Ytegfbebhgihcaaa
