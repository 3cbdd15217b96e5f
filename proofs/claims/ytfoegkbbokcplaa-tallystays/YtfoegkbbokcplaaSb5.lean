import Derived.Test.YtfoegkbbokcplaaSb4
import Derived.Test.YtfoegkbbokcplaaSbg
namespace Go.Proofs.Ytfoegkbbokcplaa
open Go.RowKit Go.Maps
set_option linter.unusedVariables false
set_option linter.unusedSimpArgs false

/-- Where a vote comes to stand that has none of its node. -/
def Bl.at_ (L : List Bl) (x : Bl) : Nat := (L.findIdx? (fun y => decide (x.n < y.n))).getD L.length
def Bl.ins (L : List Bl) (x : Bl) : List Bl := L.take (Bl.at_ L x) ++ x :: L.drop (Bl.at_ L x)
theorem Bl.at_le (L : List Bl) (x : Bl) : Bl.at_ L x ≤ L.length := by
  unfold Bl.at_
  cases h : L.findIdx? (fun y => decide (x.n < y.n)) with
  | none => exact Nat.le_refl _
  | some i =>
    have := (List.findIdx?_eq_some_iff_getElem.1 h).1
    exact Nat.le_of_lt this
theorem Bl.at_ix (L : List Bl) (x : Bl) : (ix (fun y => decide (x.n < y.n)) L < 0 ∧ Bl.at_ L x = L.length) ∨ (0 ≤ ix (fun y => decide (x.n < y.n)) L ∧ ix (fun y => decide (x.n < y.n)) L = (Bl.at_ L x : Int)) := by
  unfold Bl.at_ ix
  cases h : L.findIdx? (fun y => decide (x.n < y.n)) with
  | none => exact .inl ⟨by decide, rfl⟩
  | some i => exact .inr ⟨by simp, rfl⟩
/-- Does a vote take an older one's place? -/
def Bl.rep (x y : Bl) : Bool := decide (0 < cmpD x.h x.l y.h y.l) || (decide (cmpD x.h x.l y.h y.l = 0) && Bl.gt x y)
/-- A list with a vote put in. -/
def Bl.put (L : List Bl) (x : Bl) : List Bl := match L.findIdx? (fun y => decide (y.n = x.n)) with
  | none => Bl.ins L x
  | some i => if Bl.rep x (L.getD i x) = true then L.set i x else L
theorem Bl.f30 (args : Array Value) (w : World) : (callFunc 39 args).run Try.prog w = .ok (.enter 39 args) w := enters_of Try.func39 (by kernel_rfl) rfl args w
theorem Bl.f22 (args : Array Value) (w : World) : (callFunc 28 args).run Try.prog w = .ok (.enter 28 args) w := enters_of Try.func28 (by kernel_rfl) rfl args w
theorem Bl.box (x : Bl) (w v : World) (hv : Below (w.heap.size + 1) (w.alloc (.cells #[.int .i64 x.n, .int .u64 x.h, .int .u64 x.l, .int .i64 x.v, .int .i64 x.c, .slice x.s.a x.s.D.length x.s.c] 40)) v) : v.cell? ⟨w.heap.size, 0, none⟩ = some (.int .i64 x.n) ∧ v.cell? ⟨w.heap.size, 1, none⟩ = some (.int .u64 x.h) ∧ v.cell? ⟨w.heap.size, 2, none⟩ = some (.int .u64 x.l) ∧ v.cell? ⟨w.heap.size, 3, none⟩ = some (.int .i64 x.v) ∧ v.cell? ⟨w.heap.size, 4, none⟩ = some (.int .i64 x.c) ∧ v.cell? ⟨w.heap.size, 5, none⟩ = some (.slice x.s.a x.s.D.length x.s.c) :=
  ⟨(hv.cell (p := ⟨w.heap.size, 0, none⟩) (by simp)).trans (by simp), (hv.cell (p := ⟨w.heap.size, 1, none⟩) (by simp)).trans (by simp), (hv.cell (p := ⟨w.heap.size, 2, none⟩) (by simp)).trans (by simp), (hv.cell (p := ⟨w.heap.size, 3, none⟩) (by simp)).trans (by simp), (hv.cell (p := ⟨w.heap.size, 4, none⟩) (by simp)).trans (by simp), (hv.cell (p := ⟨w.heap.size, 5, none⟩) (by simp)).trans (by simp)⟩
set_option maxRecDepth 100000 in
set_option maxHeartbeats 1000000 in
theorem Bl.insert_any (L : List Bl) (x : Bl) (n g B : Nat) (w : World) (hn : L.length = n) (h : OwnY yBlV B w (.slice (some ⟨g, 0, none⟩) n n) L) (hB : B ≤ w.heap.size) (hm : (n + 1) * 64 ≤ 140737488355328) :
    Calls Try.prog 29 #[.slice (some ⟨g, 0, none⟩) n n, x.val] w fun e w' => ∃ v, e = .returned v ∧ OwnY yBlV B w' v (Bl.ins L x) ∧ Below B w w' := by
  have O1 := hide (h.alloc (.cells #[.int .i64 x.n, .int .u64 x.h, .int .u64 x.l, .int .i64 x.v, .int .i64 x.c, .slice x.s.a x.s.D.length x.s.c] 40))
  have b1 : Below w.heap.size w (w.alloc (.cells #[.int .i64 x.n, .int .u64 x.h, .int .u64 x.l, .int .i64 x.v, .int .i64 x.c, .slice x.s.a x.s.D.length x.s.c] 40)) := (Below.refl _ w).alloc (Nat.le_refl _) _
  have CI := hide (Bl.index_any (fun y => decide (x.n < y.n)) 39 #[.pointer (some ⟨w.heap.size, 0, none⟩)] Bl.f30 L (some ⟨g, 0, none⟩) n n (w.alloc (.cells #[.int .i64 x.n, .int .u64 x.h, .int .u64 x.l, .int .i64 x.v, .int .i64 x.c, .slice x.s.a x.s.D.length x.s.c] 40)) (O1.out.sl' kBlV)
    (fun W y hW => (Bl.isAbove y x w.heap.size W (by have := hW.size; simp at this; omega) (x.box w W (by simpa using hW))).mono fun e w' hq => ⟨hq.1, hW.trans (hq.2.mono hW.size)⟩))
  have HB1 := hide b1
  have HN := hide hn
  have hle := Bl.at_le L x
  have hix := Bl.at_ix L x
  rw [hn] at hle hix
  clear h hn b1
  obtain ⟨m, hm2⟩ : ∃ m, m = Bl.at_ L x := ⟨_, rfl⟩
  have HM := hide hm2
  rw [← hm2] at hle hix
  clear hm2
  have hcl : n + 1 ≤ 140737488355328 := by omega
  generalize ix (fun y => decide (x.n < y.n)) L = I at *
  have hlast : Hid (∀ W, Below (w.heap.size + 1) (w.alloc (.cells #[.int .i64 x.n, .int .u64 x.h, .int .u64 x.l, .int .i64 x.v, .int .i64 x.c, .slice x.s.a x.s.D.length x.s.c] 40)) W → Calls Try.prog 40 #[.slice (some ⟨g, 0, none⟩) n n, .int .i64 (m : Int), .slice (some ⟨W.heap.size, 0, none⟩) 1 1] (W.alloc (.cells #[.int .i64 x.n, .int .u64 x.h, .int .u64 x.l, .int .i64 x.v, .int .i64 x.c, .slice x.s.a x.s.D.length x.s.c] 40)) fun e w' => ∃ v, e = .returned v ∧ OwnY yBlV B w' v (Bl.ins L x) ∧ Below B w w') := fun W hW => by
    have hWs : w.heap.size + 1 ≤ W.heap.size := by have := hW.size; simpa using this
    have b2 : Below w.heap.size w (W.alloc (.cells #[.int .i64 x.n, .int .u64 x.h, .int .u64 x.l, .int .i64 x.v, .int .i64 x.c, .slice x.s.a x.s.D.length x.s.c] 40)) := (HB1.out.trans (hW.mono (by omega))).alloc (by omega) _
    refine (Bl.insert_lib L x m n g B W.heap.size (W.alloc (.cells #[.int .i64 x.n, .int .u64 x.h, .int .u64 x.l, .int .i64 x.v, .int .i64 x.c, .slice x.s.a x.s.D.length x.s.c] 40)) HN.out hle ((O1.out.grow (by simpa using hW)).alloc _) (sl_box (Y := yBlV) W x 40) (by simp; omega) hm).mono ?_
    rintro e w' ⟨v, rfl, o', b'⟩
    refine ⟨v, rfl, ?_, (b2.mono hB).trans b'⟩
    unfold Bl.ins
    rw [← HM.out]
    exact o'
  clear hm
  show Calls Try.prog 29 #[.slice (some ⟨g, 0, none⟩) n n, .agg #[.int .i64 x.n, .int .u64 x.h, .int .u64 x.l, .int .i64 x.v, .int .i64 x.c, .slice x.s.a x.s.D.length x.s.c]] w _
  go_enter Try.func29, Try.ntmps29
  go_wp2_with fail
  refine CI.out.mono ?_
  rintro e w1 ⟨rfl, b2⟩
  have b2 : Below (w.heap.size + 1) (w.alloc (.cells #[.int .i64 x.n, .int .u64 x.h, .int .u64 x.l, .int .i64 x.v, .int .i64 x.c, .slice x.s.a x.s.D.length x.s.c] 40)) w1 := by simpa using b2
  obtain ⟨y0, y1, y2, y3, y4, y5⟩ := x.box w w1 b2
  have cl := hide (hlast.out w1 b2)
  clear hlast CI
  dsimp only
  rcases hix with ⟨hneg, hmn⟩ | ⟨hpos, hmI⟩
  · subst hmn
    go_wp2_with fail
    refine cl.out.mono ?_
    rintro e w' ⟨v, rfl, o', b'⟩
    have O' := hide o'
    clear o'
    dsimp only
    go_wp2
    go_ret
    exact ⟨v, rfl, O'.out, b'⟩
  · subst hmI
    have hneg : ¬ ((m : Int) < 0) := by omega
    go_wp2_with fail
    refine cl.out.mono ?_
    rintro e w' ⟨v, rfl, o', b'⟩
    have O' := hide o'
    clear o'
    dsimp only
    go_wp2
    go_ret
    exact ⟨v, rfl, O'.out, b'⟩

end Go.Proofs.Ytfoegkbbokcplaa
