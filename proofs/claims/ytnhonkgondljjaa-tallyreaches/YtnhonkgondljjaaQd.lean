import Derived.Test.YtnhonkgondljjaaQa
import Derived.Test.YtnhonkgondljjaaQb
import Derived.Test.YtnhonkgondljjaaSq
namespace Go.Proofs.Ytnhonkgondljjaa
open Go.RowKit Go.Maps
open Classical
set_option linter.unusedVariables false
set_option linter.unusedSimpArgs false

set_option maxRecDepth 100000 in
set_option maxHeartbeats 1000000 in
theorem reaches_came (f own : Int) (a : Option Addr) (n c : Nat) (b : Option Addr) (m d : Nat) (w : World) (h : CameAk w a n c) (h2 : CameMk w b m d) :
    Calls Try.prog 4 #[.int .i64 f, .int .i64 own, .slice a n c, .slice b m d] w fun e w' => e = .returned (.bool true) ∧ Below w.heap.size w w' := by
  obtain ⟨L, h, hm⟩ := h
  clear h2
  have c1 := hide (reached_any f own L a n c w h (by omega))
  have c2 := hide (fun W (hb : Below w.heap.size w W) => refreached_any f own L a n c W (h.later hb))
  generalize rch f own L = R at *
  clear h hm
  go_enter Try.func4, Try.ntmps4
  go_wp2_with fail
  refine c1.out.mono ?_
  rintro e w1 ⟨rfl, b1⟩
  dsimp only
  have z1 := b1.size
  have B1 := hide b1
  clear c1
  go_wp2_with fail
  refine (c2.out w1 b1).mono ?_
  rintro e w1' ⟨rfl, rfl⟩
  dsimp only
  clear c2 b1
  go_wp2_with fail
  refine (marked_any f b m d _).mono ?_
  rintro e w1' ⟨rfl, rfl⟩
  dsimp only
  go_wp2_with fail
  refine (refmarked_any f b m d _).mono ?_
  rintro e w1' ⟨rfl, rfl⟩
  dsimp only
  go_wp2_with fail
  refine (works8_any _).mono ?_
  rintro e w2 ⟨rfl, b2⟩
  dsimp only
  have B2 := hide (B1.out.trans (b2.mono z1))
  clear b2
  go_wp2
  go_ret
  exact ⟨rfl, B2.out⟩

end Go.Proofs.Ytnhonkgondljjaa
