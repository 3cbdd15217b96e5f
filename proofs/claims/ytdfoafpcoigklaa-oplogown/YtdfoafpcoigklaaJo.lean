import Derived.Test.YtdfoafpcoigklaaKz
import Derived.Test.YtdfoafpcoigklaaYf
namespace Go.Proofs.Ytdfoafpcoigklaa
open Go.RowKit Go.Maps
open Classical
set_option linter.unusedVariables false
set_option linter.unusedSimpArgs false

/-- Cells and results as rows. -/
def yCl : Lay Cl := ⟨76, 58, 2, 24, fun x => [.int .i64 x.1, .string x.2], (0, ByteArray.empty)⟩
theorem kCl : yCl.Ok := ⟨by decide, fun x => rfl, fun x u h => by
    simp [yCl] at h
    rcases h with rfl | rfl <;> rfl, Try.underlying58, ⟨.agg #[.int .i64 0, .string ByteArray.empty], by kernel_rfl, rfl⟩⟩
def clV (x : Cl) : Value := .agg #[.int .i64 x.1, .string x.2]
def yRs : Lay Rs := ⟨78, 59, 3, 32, fun x => [.int .i64 x.1, .int .i64 x.2.1, .string x.2.2], (0, 0, ByteArray.empty)⟩
theorem kRs : yRs.Ok := ⟨by decide, fun x => rfl, fun x u h => by
    simp [yRs] at h
    rcases h with rfl | rfl | rfl <;> rfl, Try.underlying59, ⟨.agg #[.int .i64 0, .int .i64 0, .string ByteArray.empty], by kernel_rfl, rfl⟩⟩
def rsV (x : Rs) : Value := .agg #[.int .i64 x.1, .int .i64 x.2.1, .string x.2.2]
theorem fl_cl : ∀ l : List Cl, fl yCl l = ccs l
  | [] => rfl
  | x :: r => by rw [fl, ccs, fl_cl r]; rfl
theorem fl_rs : ∀ l : List Rs, fl yRs l = rcs l
  | [] => rfl
  | x :: r => by rw [fl, rcs, fl_rs r]; rfl
theorem OwnC.y {B : Nat} {w : World} {v : Value} {l : List Cl} (h : OwnC B w v l) : OwnY yCl B w v l := by unfold OwnY; rw [fl_cl]; exact h
theorem own3_y {B : Nat} {w : World} {v : Value} {l : List Rs} (h : Own3 78 B w v l) : OwnY yRs B w v l := by unfold OwnY; rw [fl_rs]; exact h

end Go.Proofs.Ytdfoafpcoigklaa
