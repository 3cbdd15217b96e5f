import Derived.Test.YtcmjhaljbmhpgaaGreatSbp
import Derived.Test.YtcmjhaljbmhpgaaGreatGSb
namespace Go.Proofs.YtcmjhaljbmhpgaaGreat
open Go.RowKit Go.Maps
open Classical
set_option linter.unusedVariables false
set_option linter.unusedSimpArgs false

set_option maxRecDepth 100000 in
set_option maxHeartbeats 1000000 in
theorem Bl.Prune_any (L : List Bl) (D : List (Int × Int)) (a av : Option Addr) (n c vn vc : Nat) (w : World) (h : SlY yBlA w a n c L) (hD : SlY yD w av vn vc D) (hlogs : ∀ x ∈ L, x.In w) (hm : n * 64 ≤ 281474976710656) :
    Calls Tryz.prog 27 #[.slice a n c, .slice av vn vc] w fun e w' => ∃ v R, e = .returned v ∧ OwnY yBlA w.heap.size w' v R ∧ Bl.Tolds w.heap.size w' (Bl.prn L D) R ∧ Below w.heap.size w w' := by
  have hln := h.len
  have ch := hide (Bl.hold_any L a n c w h hm)
  have HD := hide hD
  have HI := hide hlogs
  have HL : Hid ((Bl.prn L D).length * 64 ≤ 281474976710656) := by
    show _ ≤ _
    have h1 : (Bl.prn L D).length ≤ n := by rw [← hln]; exact List.length_filter_le _ _
    have h2 := Nat.mul_le_mul_right 64 h1
    omega
  clear h hD hlogs
  go_enter Tryz.func27, Tryz.ntmps27
  go_wp2_with fail
  refine ch.out.mono ?_
  rintro e w1 ⟨rfl, o1, b1⟩
  have z1 := b1.size
  have cp := hide (Bl.prune_any L D av vn vc n w.heap.size w.heap.size w1 hln o1 z1 (HD.out.later b1) (fun z hz hne => by
    rcases HD.out.at_ z hz with e | ⟨q, o, rfl, hq, _⟩
    · exact absurd e hne
    · show q ≠ w.heap.size
      omega))
  clear ch o1
  dsimp only
  go_wp2_with fail
  refine cp.out.mono ?_
  rintro e w2 ⟨m, rfl, o2, b2⟩
  have s2 := o2.sl' kBlV
  have hm2 := s2.len
  have B2 := hide (b1.trans b2)
  have z2 := b2.size
  have ct := hide (Bl.tell_any (Bl.prn L D) _ m n w2 s2 (by rw [← hm2]; exact HL.out) (fun x hx => (HI.out x (List.mem_filter.1 hx).1).later B2.out))
  clear cp o2 s2 b1 b2
  dsimp only
  go_wp2_with fail
  refine ct.out.mono ?_
  rintro e w3 ⟨rfl, ⟨R3, o3, t3⟩, b3⟩
  have O3 := hide (o3.low (B' := w.heap.size) (by omega))
  have T3 := hide (t3.low (B' := w.heap.size) (by omega))
  have B3 := hide (B2.out.trans (b3.mono (by omega)))
  clear ct o3 b3 t3
  dsimp only
  go_wp2
  go_ret
  exact ⟨_, R3, rfl, O3.out, T3.out, B3.out⟩

end Go.Proofs.YtcmjhaljbmhpgaaGreat
