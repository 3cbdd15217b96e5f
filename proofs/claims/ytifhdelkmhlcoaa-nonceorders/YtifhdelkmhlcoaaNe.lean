import Derived.Test.YtifhdelkmhlcoaaNd
import Derived.Deep.RegionHeld3
namespace Go.Proofs.Ytifhdelkmhlcoaa
open Go.RowKit
set_option linter.unusedVariables false

/-- A draw in a block of its own. -/
structure Dr (w : World) (b : Nat) (h l : Int) : Prop where
  lt : b < w.heap.size
  c0 : w.cell? ⟨b, 0, none⟩ = some (.int .u64 h)
  c1 : w.cell? ⟨b, 1, none⟩ = some (.int .u64 l)
theorem Dr.upd {S : Nat → Prop} {w w' : World} {b : Nat} {h l : Int} (d : Dr w b h l) (u : Upd S w w') (hs : ¬ S b) : Dr w' b h l :=
  ⟨Nat.lt_of_lt_of_le d.lt u.size, (u.cell d.lt hs).trans d.c0, (u.cell d.lt hs).trans d.c1⟩
theorem Dr.bel {w w' : World} {b : Nat} {h l : Int} (d : Dr w b h l) (u : Below w.heap.size w w') : Dr w' b h l :=
  ⟨Nat.lt_of_lt_of_le d.lt u.size, (u.cell d.lt).trans d.c0, (u.cell d.lt).trans d.c1⟩
theorem Dr.al {w : World} {b : Nat} {h l : Int} (d : Dr w b h l) (o : Obj) : Dr (w.alloc o) b h l := d.upd (S := fun _ => False) ((Upd.refl _ w).alloc o) id
theorem Dr.new (w : World) (h l : Int) (t : TypeId) : Dr (w.alloc (.cells #[.int .u64 h, .int .u64 l] t)) w.heap.size h l := ⟨by simp, by simp, by simp⟩

theorem Below.on {B : Nat} {w v v' : World} (hB : B ≤ w.heap.size) (h : Below B w v) (k : Below v.heap.size v v') : Below B w v' := h.trans (k.mono (Nat.le_trans hB h.size))

set_option maxHeartbeats 800000 in
theorem orders_walk (h l h' l' : Int) (w : World) (h0 : 0 ≤ h) (h1 : h ≤ 18446744073709551615) (l0 : 0 ≤ l) (l1 : l ≤ 18446744073709551615) :
    Calls Try.prog 3 #[.agg #[.int .u64 h, .int .u64 l], .agg #[.int .u64 h', .int .u64 l']] w fun e w' => e = .returned (.bool true) ∧ Below w.heap.size w w' := by
  go_enter Try.func3, Try.ntmps3
  go_wp2_with fail
  refine (next_any h l _ h0 h1 l0 l1).mono ?_
  rintro e w1 ⟨rfl, b1⟩
  have A1 := ((Dr.new w h l 24).al _).bel b1
  have B1 := (Dr.new (w.alloc (.cells #[.int .u64 h, .int .u64 l] 24)) h' l' 24).bel b1
  have s1 := b1.size
  have z1 : Below w.heap.size w w1 := (((Below.refl _ _).alloc (Nat.le_refl _) _).alloc (by simp) _).trans (b1.mono (by simp; omega))
  simp at B1
  have a0 := fun o => (A1.al o).c0
  have a1 := fun o => (A1.al o).c1
  go_wp2_with fail
  refine (refnext_any h l _ h0 h1 l0 l1).mono ?_
  rintro e w2 ⟨rfl, b2⟩
  generalize nxH h l = nh at *
  generalize nxL h l = nl at *
  generalize nxE h l = ne at *
  clear a0 a1
  have A2 := (A1.al _).bel b2
  have B2 := (B1.al _).bel b2
  have N2 := (Dr.new w1 nh nl 24).bel b2
  have z2 : Below w.heap.size w w2 := (z1.alloc z1.size _).trans (b2.mono (by have := z1.size; simp; omega))
  clear A1 B1 b1 b2 s1 z1
  go_wp2_with fail
  have N0 := N2.al (.cells #[.int .u64 nh, .int .u64 nl] 24)
  have A0 := A2.al (.cells #[.int .u64 nh, .int .u64 nl] 24)
  have B0 := B2.al (.cells #[.int .u64 nh, .int .u64 nl] 24)
  have M0 := Dr.new w2 nh nl 24
  have z3 : Below w.heap.size w (w2.alloc (.cells #[.int .u64 nh, .int .u64 nl] 24)) := z2.alloc z2.size _
  clear A2 B2 N2 z2
  generalize w2.alloc (.cells #[.int .u64 nh, .int .u64 nl] 24) = w3 at *
  have hcc : cmpD h l h l = 0 := by simp [cmpD, cmpI]
  have KS : ∀ v, Below w3.heap.size w3 v → (Below w3.heap.size w3 v ∧ v.cell? ⟨w.heap.size, 0, none⟩ = some (.int .u64 h) ∧ v.cell? ⟨w.heap.size, 1, none⟩ = some (.int .u64 l) ∧ v.cell? ⟨w.heap.size + 1, 0, none⟩ = some (.int .u64 h') ∧ v.cell? ⟨w.heap.size + 1, 1, none⟩ = some (.int .u64 l')
      ∧ v.cell? ⟨w1.heap.size, 0, none⟩ = some (.int .u64 nh) ∧ v.cell? ⟨w1.heap.size, 1, none⟩ = some (.int .u64 nl) ∧ v.cell? ⟨w2.heap.size, 0, none⟩ = some (.int .u64 nh) ∧ v.cell? ⟨w2.heap.size, 1, none⟩ = some (.int .u64 nl)) :=
    fun v b => ⟨b, (A0.bel b).c0, (A0.bel b).c1, (B0.bel b).c0, (B0.bel b).c1, (N0.bel b).c0, (N0.bel b).c1, (M0.bel b).c0, (M0.bel b).c1⟩
  have KH := hide KS
  clear KS A0 B0 N0 M0
  go_region_held3 (fun v => Below w3.heap.size w3 v ∧ v.cell? ⟨w.heap.size, 0, none⟩ = some (.int .u64 h) ∧ v.cell? ⟨w.heap.size, 1, none⟩ = some (.int .u64 l) ∧ v.cell? ⟨w.heap.size + 1, 0, none⟩ = some (.int .u64 h') ∧ v.cell? ⟨w.heap.size + 1, 1, none⟩ = some (.int .u64 l')
      ∧ v.cell? ⟨w1.heap.size, 0, none⟩ = some (.int .u64 nh) ∧ v.cell? ⟨w1.heap.size, 1, none⟩ = some (.int .u64 nl) ∧ v.cell? ⟨w2.heap.size, 0, none⟩ = some (.int .u64 nh) ∧ v.cell? ⟨w2.heap.size, 1, none⟩ = some (.int .u64 nl))
    (first | exact KH.out _ (Below.refl _ _).drew | exact KH.out _ (by assumption))
    (first
      | (go_at_call 10; refine (works_any _).mono ?_; rintro e v ⟨rfl, bv⟩; have bb : Below w3.heap.size w3 v := (Below.refl _ _).drew.trans bv)
      | (go_at_call 11; refine (compare_any _ _ _ _ _).mono ?_; rintro e v ⟨rfl, bv⟩; have bb := Below.on (w := w3) (Nat.le_refl _) (by assumption) bv)
      | (go_at_call 12; refine (refcompare_any _ _ _ _ _).mono ?_; rintro e v ⟨rfl, bv⟩; have bb := Below.on (w := w3) (Nat.le_refl _) (by assumption) bv))
  go_wp2
  go_ret
  exact ⟨rfl, z3.trans (Below.mono (by assumption) z3.size)⟩

end Go.Proofs.Ytifhdelkmhlcoaa
