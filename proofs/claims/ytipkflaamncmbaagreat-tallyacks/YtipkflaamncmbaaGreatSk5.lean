import Derived.Test.YtipkflaamncmbaaGreatSk4
import Derived.Test.YtipkflaamncmbaaGreatSkg
namespace Go.Proofs.YtipkflaamncmbaaGreat
open Go.RowKit Go.Maps
open Classical
set_option linter.unusedVariables false
set_option linter.unusedSimpArgs false

/-- Where a vote comes to stand that has none of its node. -/
def Ak.at_ (L : List Ak) (x : Ak) : Nat := (L.findIdx? (fun y => decide (x.n < y.n))).getD L.length
def Ak.ins (L : List Ak) (x : Ak) : List Ak := L.take (Ak.at_ L x) ++ x :: L.drop (Ak.at_ L x)
theorem Ak.at_le (L : List Ak) (x : Ak) : Ak.at_ L x ≤ L.length := by
  unfold Ak.at_
  cases h : L.findIdx? (fun y => decide (x.n < y.n)) with
  | none => exact Nat.le_refl _
  | some i =>
    have := (List.findIdx?_eq_some_iff_getElem.1 h).1
    exact Nat.le_of_lt this
theorem Ak.at_ix (L : List Ak) (x : Ak) : (ix (fun y => decide (x.n < y.n)) L < 0 ∧ Ak.at_ L x = L.length) ∨ (0 ≤ ix (fun y => decide (x.n < y.n)) L ∧ ix (fun y => decide (x.n < y.n)) L = (Ak.at_ L x : Int)) := by
  unfold Ak.at_ ix
  cases h : L.findIdx? (fun y => decide (x.n < y.n)) with
  | none => exact .inl ⟨by decide, rfl⟩
  | some i => exact .inr ⟨by simp, rfl⟩
/-- Does a vote take an older one's place? -/
def Ak.rep (x y : Ak) : Bool := decide (0 < cmpD x.h x.l y.h y.l) || (decide (cmpD x.h x.l y.h y.l = 0) && Ak.gt x y)
/-- A list with a vote put in. -/
def Ak.put (L : List Ak) (x : Ak) : List Ak := match L.findIdx? (fun y => decide (y.n = x.n)) with
  | none => Ak.ins L x
  | some i => if Ak.rep x (L.getD i x) = true then L.set i x else L
theorem Ak.f30 (args : Array Value) (w : World) : (callFunc 121 args).run Tryz.prog w = .ok (.enter 121 args) w := enters_of Tryz.func121 (by kernel_rfl) rfl args w
theorem Ak.f22 (args : Array Value) (w : World) : (callFunc 91 args).run Tryz.prog w = .ok (.enter 91 args) w := enters_of Tryz.func91 (by kernel_rfl) rfl args w
theorem Ak.box (x : Ak) (w v : World) (hv : Below (w.heap.size + 1) (w.alloc (.cells #[.int .i64 x.n, .int .u64 x.h, .int .u64 x.l, .int .i64 x.p] 82)) v) : v.cell? ⟨w.heap.size, 0, none⟩ = some (.int .i64 x.n) ∧ v.cell? ⟨w.heap.size, 1, none⟩ = some (.int .u64 x.h) ∧ v.cell? ⟨w.heap.size, 2, none⟩ = some (.int .u64 x.l) ∧ v.cell? ⟨w.heap.size, 3, none⟩ = some (.int .i64 x.p) :=
  ⟨(hv.cell (p := ⟨w.heap.size, 0, none⟩) (by simp)).trans (by simp), (hv.cell (p := ⟨w.heap.size, 1, none⟩) (by simp)).trans (by simp), (hv.cell (p := ⟨w.heap.size, 2, none⟩) (by simp)).trans (by simp), (hv.cell (p := ⟨w.heap.size, 3, none⟩) (by simp)).trans (by simp)⟩
set_option maxRecDepth 100000 in
set_option maxHeartbeats 1000000 in
theorem Ak.insert_any (L : List Ak) (x : Ak) (n g B : Nat) (w : World) (hn : L.length = n) (h : OwnY yAkV B w (.slice (some ⟨g, 0, none⟩) n n) L) (hB : B ≤ w.heap.size) (hm : (n + 1) * 32 ≤ 140737488355328) :
    Calls Tryz.prog 92 #[.slice (some ⟨g, 0, none⟩) n n, x.val] w fun e w' => ∃ v, e = .returned v ∧ OwnY yAkV B w' v (Ak.ins L x) ∧ Below B w w' := by
  have O1 := hide (h.alloc (.cells #[.int .i64 x.n, .int .u64 x.h, .int .u64 x.l, .int .i64 x.p] 82))
  have b1 : Below w.heap.size w (w.alloc (.cells #[.int .i64 x.n, .int .u64 x.h, .int .u64 x.l, .int .i64 x.p] 82)) := (Below.refl _ w).alloc (Nat.le_refl _) _
  have CI := hide (Ak.index_any (fun y => decide (x.n < y.n)) 121 #[.pointer (some ⟨w.heap.size, 0, none⟩)] Ak.f30 L (some ⟨g, 0, none⟩) n n (w.alloc (.cells #[.int .i64 x.n, .int .u64 x.h, .int .u64 x.l, .int .i64 x.p] 82)) (O1.out.sl' kAkV)
    (fun W y hW => (Ak.isAbove y x w.heap.size W (by have := hW.size; simp at this; omega) (x.box w W (by simpa using hW))).mono fun e w' hq => ⟨hq.1, hW.trans (hq.2.mono hW.size)⟩))
  have HB1 := hide b1
  have HN := hide hn
  have hle := Ak.at_le L x
  have hix := Ak.at_ix L x
  rw [hn] at hle hix
  clear h hn b1
  obtain ⟨m, hm2⟩ : ∃ m, m = Ak.at_ L x := ⟨_, rfl⟩
  have HM := hide hm2
  rw [← hm2] at hle hix
  clear hm2
  have hcl : n + 1 ≤ 140737488355328 := by omega
  generalize ix (fun y => decide (x.n < y.n)) L = I at *
  have hlast : Hid (∀ W, Below (w.heap.size + 1) (w.alloc (.cells #[.int .i64 x.n, .int .u64 x.h, .int .u64 x.l, .int .i64 x.p] 82)) W → Calls Tryz.prog 122 #[.slice (some ⟨g, 0, none⟩) n n, .int .i64 (m : Int), .slice (some ⟨W.heap.size, 0, none⟩) 1 1] (W.alloc (.cells #[.int .i64 x.n, .int .u64 x.h, .int .u64 x.l, .int .i64 x.p] 82)) fun e w' => ∃ v, e = .returned v ∧ OwnY yAkV B w' v (Ak.ins L x) ∧ Below B w w') := fun W hW => by
    have hWs : w.heap.size + 1 ≤ W.heap.size := by have := hW.size; simpa using this
    have b2 : Below w.heap.size w (W.alloc (.cells #[.int .i64 x.n, .int .u64 x.h, .int .u64 x.l, .int .i64 x.p] 82)) := (HB1.out.trans (hW.mono (by omega))).alloc (by omega) _
    refine (Ak.insert_lib L x m n g B W.heap.size (W.alloc (.cells #[.int .i64 x.n, .int .u64 x.h, .int .u64 x.l, .int .i64 x.p] 82)) HN.out hle ((O1.out.grow (by simpa using hW)).alloc _) (sl_box (Y := yAkV) W x 82) (by simp; omega) hm).mono ?_
    rintro e w' ⟨v, rfl, o', b'⟩
    refine ⟨v, rfl, ?_, (b2.mono hB).trans b'⟩
    unfold Ak.ins
    rw [← HM.out]
    exact o'
  clear hm
  show Calls Tryz.prog 92 #[.slice (some ⟨g, 0, none⟩) n n, .agg #[.int .i64 x.n, .int .u64 x.h, .int .u64 x.l, .int .i64 x.p]] w _
  go_enter Tryz.func92, Tryz.ntmps92
  go_wp2_with fail
  refine CI.out.mono ?_
  rintro e w1 ⟨rfl, b2⟩
  have b2 : Below (w.heap.size + 1) (w.alloc (.cells #[.int .i64 x.n, .int .u64 x.h, .int .u64 x.l, .int .i64 x.p] 82)) w1 := by simpa using b2
  obtain ⟨y0, y1, y2, y3⟩ := x.box w w1 b2
  have cl := hide (hlast.out w1 b2)
  clear hlast CI
  dsimp only
  rcases hix with ⟨hneg, hmn⟩ | ⟨hpos, hmI⟩
  · subst hmn
    go_wp2_with fail
    refine cl.out.mono ?_
    rintro e w' ⟨v, rfl, o', b'⟩
    have O' := hide o'
    clear o'
    dsimp only
    go_wp2
    go_ret
    exact ⟨v, rfl, O'.out, b'⟩
  · subst hmI
    have hneg : ¬ ((m : Int) < 0) := by omega
    go_wp2_with fail
    refine cl.out.mono ?_
    rintro e w' ⟨v, rfl, o', b'⟩
    have O' := hide o'
    clear o'
    dsimp only
    go_wp2
    go_ret
    exact ⟨v, rfl, O'.out, b'⟩

end Go.Proofs.YtipkflaamncmbaaGreat
