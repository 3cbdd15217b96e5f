import Derived.Test.YtpkcoejjclmocaaLe
namespace Go.Proofs.Ytpkcoejjclmocaa
open Go.RowKit Go.Maps
set_option linter.unusedVariables false

theorem Took.wrap {w wa wb wc : World} {b : Nat} {m : Option Nat} {L : List Cl} (hu : Upd (fun _ => False) w wa) (t : Took wa b m L wb) (hlt : b < w.heap.size) (hm : ∀ j, m = some j → j < w.heap.size) (hc : Upd (fun i => w.heap.size ≤ i ∧ i < wa.heap.size) wb wc) : Took w b m L wc := by
  obtain ⟨m', hl, hmm, hup⟩ := t
  have hle := hu.size
  have h1 : Upd (LS b m) w wb := (hu.mono (fun _ _ h => h.elim)).trans hup
  refine ⟨m', hl.upd hc (by omega) (fun j e => ?_), ?_, ⟨hc.os.trans h1.os, hc.tape.trans h1.tape, hc.output.trans h1.output, Nat.le_trans h1.size hc.size, fun k hk hs => ?_⟩⟩
  · rcases hmm with h | ⟨i, h, hi⟩
    · have := hm j (h ▸ e); omega
    · rw [h] at e; cases e; omega
  · rcases hmm with h | ⟨i, h, hi⟩
    · exact .inl h
    · exact .inr ⟨i, h, by omega⟩
  · exact (hc.block k (Nat.lt_of_lt_of_le hk h1.size) (by omega)).trans (h1.block k hk hs)
theorem Took.upd {w w' : World} {b : Nat} {m : Option Nat} {L : List Cl} (t : Took w b m L w') : Upd (LS b m) w w' := by
  obtain ⟨_, _, _, h⟩ := t
  exact h
theorem Took.same {w w' : World} {b : Nat} {m : Option Nat} {L : List Cl} (h : Led w b m L) (hb : Below w.heap.size w w') : Took w b m L w' :=
  ⟨m, h.upd (S := fun _ => False) (Upd.of_below hb) id (fun _ _ => id), .inl rfl, (Upd.of_below (S := fun _ => False) hb).mono (fun _ _ h => h.elim)⟩
theorem box_facts2 {w w1 w2 : World} {k s : Int} {v e : ByteArray} {T1 T2 : TypeId} {rc rs : Int} {rv : ByteArray} {T3 : TypeId} {b : Nat} {m : Option Nat} (hb : Below ((w.alloc (.cells #[.int .i64 k, .int .i64 s, .string v] T1)).alloc (.cells #[.int .i64 0, .int .i64 0, .string e] T2)).heap.size ((w.alloc (.cells #[.int .i64 k, .int .i64 s, .string v] T1)).alloc (.cells #[.int .i64 0, .int .i64 0, .string e] T2)) w1)
    (u : Upd (LS b m) (w1.alloc (.cells #[.int .i64 rc, .int .i64 rs, .string rv] T3)) w2) (hlt : b < w.heap.size) (hm : ∀ j, m = some j → j < w.heap.size) :
    w2.cell? ⟨w1.heap.size, 0, none⟩ = some (.int .i64 rc) ∧ w2.cell? ⟨w1.heap.size, 1, none⟩ = some (.int .i64 rs) ∧ w2.cell? ⟨w1.heap.size, 2, none⟩ = some (.string rv) ∧
    w2.cell? ⟨w.heap.size + 1, 0, none⟩ = some (.int .i64 0) ∧ w2.cell? ⟨w.heap.size + 1, 1, none⟩ = some (.int .i64 0) ∧ w2.cell? ⟨w.heap.size + 1, 2, none⟩ = some (.string e) ∧
    w2.frozen? ⟨w.heap.size + 1, 0, none⟩ = false ∧ w2.frozen? ⟨w.heap.size + 1, 1, none⟩ = false ∧ w2.frozen? ⟨w.heap.size + 1, 2, none⟩ = false := by
  obtain ⟨_, _, _, z0, z1, z2, zf0, zf1, zf2⟩ := box_facts hb
  have hs : w.heap.size + 2 ≤ w1.heap.size := by simpa using hb.size
  have hn : ∀ i, w.heap.size ≤ i → ¬ LS b m i := fun i hi h => by
    rcases h with h | h
    · omega
    · have := hm i h; omega
  have n0 : w.heap.size + 1 ≠ w1.heap.size := by omega
  have n1 : ¬ LS b m w1.heap.size := hn _ (by omega)
  have n2 : ¬ LS b m (w.heap.size + 1) := hn _ (by omega)
  have b1 := (Below.refl w1.heap.size w1).alloc (Nat.le_refl _) (.cells #[.int .i64 rc, .int .i64 rs, .string rv] T3)
  exact ⟨(u.cell (p := ⟨w1.heap.size, 0, none⟩) (by simp) n1).trans (by go_simp), (u.cell (p := ⟨w1.heap.size, 1, none⟩) (by simp) n1).trans (by go_simp), (u.cell (p := ⟨w1.heap.size, 2, none⟩) (by simp) n1).trans (by go_simp), (u.cell (p := ⟨w.heap.size + 1, 0, none⟩) (by simp; omega) n2).trans ((b1.cell (p := ⟨w.heap.size + 1, 0, none⟩) (by dsimp only; omega)).trans z0), (u.cell (p := ⟨w.heap.size + 1, 1, none⟩) (by simp; omega) n2).trans ((b1.cell (p := ⟨w.heap.size + 1, 1, none⟩) (by dsimp only; omega)).trans z1), (u.cell (p := ⟨w.heap.size + 1, 2, none⟩) (by simp; omega) n2).trans ((b1.cell (p := ⟨w.heap.size + 1, 2, none⟩) (by dsimp only; omega)).trans z2), (u.frozen (p := ⟨w.heap.size + 1, 0, none⟩) (by simp; omega) n2).trans ((b1.frozen (p := ⟨w.heap.size + 1, 0, none⟩) (by dsimp only; omega)).trans zf0), (u.frozen (p := ⟨w.heap.size + 1, 1, none⟩) (by simp; omega) n2).trans ((b1.frozen (p := ⟨w.heap.size + 1, 1, none⟩) (by dsimp only; omega)).trans zf1), (u.frozen (p := ⟨w.heap.size + 1, 2, none⟩) (by simp; omega) n2).trans ((b1.frozen (p := ⟨w.heap.size + 1, 2, none⟩) (by dsimp only; omega)).trans zf2)⟩
set_option maxRecDepth 100000 in
set_option maxHeartbeats 2000000 in
theorem do_any (b : Nat) (m : Option Nat) (L : List Cl) (o : Opn) (ho : o.fits) (w : World) (h : Led w b m L) :
    Calls Try.prog 22 #[.pointer (some ⟨b, 0, none⟩), o.val] w fun e w' => e = .returned (rV (wd L o.k o.s o.v)) ∧ Took w b m (dn L o.k o.s o.v) w' := by
  have cw := fun W hW => would_any b m L o ho W hW
  have hh := hide h
  have hlt := h.lt
  have hml : ∀ j, m = some j → j < w.heap.size := fun j e => h.mlt e
  have hmh := hide hml
  clear hml
  have hok := h.ok
  have hwr := fun e => wd_written hok (k := o.k) (s := o.s) (v := o.v) e
  have hdn : dn L o.k o.s o.v = if (wd L o.k o.s o.v).1 = 1 then ins (wd L o.k o.s o.v).2 L else L := rfl
  rw [hdn]
  clear hdn
  obtain ⟨k, s, v⟩ := o
  dsimp only [Opn.val] at cw hwr ⊢
  generalize wd L k s v = r at cw hwr ⊢
  obtain ⟨rc, rs, rv⟩ := r
  dsimp only [rV] at cw hwr ⊢
  by_cases hr : rc = 1
  · subst hr
    obtain ⟨g0, g1, g2, g3, g4⟩ := hwr rfl
    subst g2
    have ct := fun W hW => take_any b m L (rs, rv) W hW ⟨g0, g1, g3⟩ g4
    dsimp only at ct
    have hT : (if (1 : Int) = 1 then ins (rs, rv) L else L) = ins (rs, rv) L := by simp
    rw [hT]
    clear hT hwr
    go_enter Try.func22, Try.ntmps22
    go_wp2_with (first
      | (go_at_call 42; refine (cw _ (hh.out.upd (S := fun _ => False) (((Upd.refl _ w).alloc _).alloc _) id (fun _ _ => id))).mono ?_; rintro e w1 ⟨rfl, hb⟩)
      | (go_at_call 43; refine (ct _ (hh.out.upd (S := fun _ => False) ((((Upd.refl _ w).alloc _).alloc _).trans ((Upd.of_below hb).alloc _)) id (fun _ _ => id))).mono ?_; rintro e w2 ⟨rfl, ht⟩; obtain ⟨x0, x1, x2, z0, z1, z2, zf0, zf1, zf2⟩ := box_facts2 hb ht.upd hlt hmh.out))
    have hs2 : w.heap.size + 2 ≤ w1.heap.size := by simpa using hb.size
    refine bodyPost_ret (v := .agg #[.int .i64 1, .int .i64 rs, .string rv]) (by simp [results, Try.results22, go_sem, *]) rfl ⟨rfl, ?_⟩
    refine ht.wrap ((((Upd.refl _ w).alloc _).alloc _).trans ((Upd.of_below hb).alloc _)) hlt hmh.out ?_
    exact (((Upd.refl _ w2).setCell (p := ⟨w.heap.size + 1, 0, none⟩) (.inl ⟨by simp, by simp; omega⟩) _).setCell (p := ⟨w.heap.size + 1, 1, none⟩) (.inl ⟨by simp, by simp; omega⟩) _).setCell (p := ⟨w.heap.size + 1, 2, none⟩) (.inl ⟨by simp, by simp; omega⟩) _
  · have hT : (if rc = 1 then ins (rs, rv) L else L) = L := by simp [hr]
    rw [hT]
    have hne : (rc == 1) = false := by simp [hr]
    clear hT hwr
    go_enter Try.func22, Try.ntmps22
    go_wp2_with (go_at_call 42; refine (cw _ (hh.out.upd (S := fun _ => False) (((Upd.refl _ w).alloc _).alloc _) id (fun _ _ => id))).mono ?_; rintro e w1 ⟨rfl, hb⟩; obtain ⟨_, _, _, z0, z1, z2, zf0, zf1, zf2⟩ := box_facts2 hb (Upd.refl (LS b m) (w1.alloc (.cells #[.int .i64 rc, .int .i64 rs, .string rv] 43))) hlt hmh.out)
    have hs2 : w.heap.size + 2 ≤ w1.heap.size := by simpa using hb.size
    refine bodyPost_ret (v := .agg #[.int .i64 rc, .int .i64 rs, .string rv]) (by simp [results, Try.results22, go_sem, *]) rfl ⟨rfl, Took.same hh.out ?_⟩
    have hb5 : Below w.heap.size w w1 := (((Below.refl w.heap.size w).alloc (Nat.le_refl _) _).alloc (by simp) _).trans (hb.mono (by simp; omega))
    repeat (first | exact hb5 | refine Below.alloc ?_ (by first | assumption | (simp [World.setCell]; omega) | omega) _ | refine Below.setCell ?_ (by first | (simp; done) | (simp; omega)) _)

end Go.Proofs.Ytpkcoejjclmocaa
