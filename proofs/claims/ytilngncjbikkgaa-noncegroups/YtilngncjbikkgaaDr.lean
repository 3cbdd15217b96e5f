import Derived.Test.YtilngncjbikkgaaNb
namespace Go.Proofs.Ytilngncjbikkgaa
open Go.RowKit
set_option linter.unusedVariables false

/-- A draw in a block of its own. -/
structure Dr (w : World) (b : Nat) (h l : Int) : Prop where
  lt : b < w.heap.size
  c0 : w.cell? ⟨b, 0, none⟩ = some (.int .u64 h)
  c1 : w.cell? ⟨b, 1, none⟩ = some (.int .u64 l)
theorem Dr.upd {S : Nat → Prop} {w w' : World} {b : Nat} {h l : Int} (d : Dr w b h l) (u : Upd S w w') (hs : ¬ S b) : Dr w' b h l :=
  ⟨Nat.lt_of_lt_of_le d.lt u.size, (u.cell d.lt hs).trans d.c0, (u.cell d.lt hs).trans d.c1⟩
theorem Dr.bel {w w' : World} {b : Nat} {h l : Int} (d : Dr w b h l) (u : Below w.heap.size w w') : Dr w' b h l :=
  ⟨Nat.lt_of_lt_of_le d.lt u.size, (u.cell d.lt).trans d.c0, (u.cell d.lt).trans d.c1⟩
theorem Dr.al {w : World} {b : Nat} {h l : Int} (d : Dr w b h l) (o : Obj) : Dr (w.alloc o) b h l := d.upd (S := fun _ => False) ((Upd.refl _ w).alloc o) id
theorem Dr.new (w : World) (h l : Int) (t : TypeId) : Dr (w.alloc (.cells #[.int .u64 h, .int .u64 l] t)) w.heap.size h l := ⟨by simp, by simp, by simp⟩

theorem Below.on {B : Nat} {w v v' : World} (hB : B ≤ w.heap.size) (h : Below B w v) (k : Below v.heap.size v v') : Below B w v' := h.trans (k.mono (Nat.le_trans hB h.size))

theorem upd_below {B p : Nat} {w v v' : World} (hB : B ≤ w.heap.size) (h : Below B w v) (hp : B ≤ p) (k : Upd (· = p) v v') : Below B w v' :=
  h.trans (k.below (Nat.le_trans hB h.size) (by rintro k rfl; exact hp))

end Go.Proofs.Ytilngncjbikkgaa
