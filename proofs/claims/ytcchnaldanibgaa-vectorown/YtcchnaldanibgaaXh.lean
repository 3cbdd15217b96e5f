import Derived.Test.YtcchnaldanibgaaXa
import Derived.Test.YtcchnaldanibgaaXg
namespace Go.Proofs.Ytcchnaldanibgaa
open Go.RowKit
set_option linter.unusedVariables false
set_option linter.unusedSimpArgs false

set_option maxRecDepth 100000 in
set_option maxHeartbeats 2000000 in
/-- A book that holds numbers and vectors alone. -/
theorem apart_any (b : Nat) (S1 S2 : Nat → Prop) (w : World) (hb : b < w.heap.size) (hS : ¬ (S1 b ∨ S2 b)) (hc : w.cell? ⟨b, 0, none⟩ = some (.slice none 0 0) ∧ w.cell? ⟨b, 3, none⟩ = some (.slice none 0 0) ∧ w.cell? ⟨b, 4, none⟩ = some (.slice none 0 0) ∧ w.cell? ⟨b, 5, none⟩ = some (.slice none 0 0) ∧ w.cell? ⟨b, 6, none⟩ = some (.slice none 0 0) ∧ w.cell? ⟨b, 7, none⟩ = some (.slice none 0 0) ∧ w.cell? ⟨b, 8, none⟩ = some (.slice none 0 0) ∧ w.cell? ⟨b, 9, none⟩ = some (.slice none 0 0))
    (h1 : ∀ v, Below w.heap.size w v → Calls Try.prog 57 #[.pointer (some ⟨b, 0, none⟩)] v fun e w' => e = .returned (.bool true) ∧ Upd S1 w w')
    (h2 : ∀ v, Upd S1 w v → Calls Try.prog 58 #[.pointer (some ⟨b, 0, none⟩)] v fun e w' => e = .returned (.bool true) ∧ Upd (fun k => S1 k ∨ S2 k) w w') :
    Calls Try.prog 36 #[.pointer (some ⟨b, 0, none⟩)] w fun e w' => e = .returned (.bool true) ∧ Upd (fun k => S1 k ∨ S2 k) w w' := by
  have H1 := hide h1
  have H2 := hide h2
  have CE : Hid (∀ v, Upd (fun k => S1 k ∨ S2 k) w v → (v.cell? ⟨b, 0, none⟩ = some (.slice none 0 0) ∧ v.cell? ⟨b, 3, none⟩ = some (.slice none 0 0) ∧ v.cell? ⟨b, 4, none⟩ = some (.slice none 0 0) ∧ v.cell? ⟨b, 5, none⟩ = some (.slice none 0 0) ∧ v.cell? ⟨b, 6, none⟩ = some (.slice none 0 0) ∧ v.cell? ⟨b, 7, none⟩ = some (.slice none 0 0) ∧ v.cell? ⟨b, 8, none⟩ = some (.slice none 0 0) ∧ v.cell? ⟨b, 9, none⟩ = some (.slice none 0 0))) := fun v u => by
    obtain ⟨e0, e3, e4, e5, e6, e7, e8, e9⟩ := hc
    exact ⟨(u.cell (p := ⟨b, 0, none⟩) hb hS).trans e0, (u.cell (p := ⟨b, 3, none⟩) hb hS).trans e3, (u.cell (p := ⟨b, 4, none⟩) hb hS).trans e4, (u.cell (p := ⟨b, 5, none⟩) hb hS).trans e5, (u.cell (p := ⟨b, 6, none⟩) hb hS).trans e6, (u.cell (p := ⟨b, 7, none⟩) hb hS).trans e7, (u.cell (p := ⟨b, 8, none⟩) hb hS).trans e8, (u.cell (p := ⟨b, 9, none⟩) hb hS).trans e9⟩
  clear h1 h2 hc
  go_enter Try.func36, Try.ntmps36
  go_wp2_with fail
  refine (apartBytes_nil b w (CE.out w (Upd.refl _ _)).1).mono ?_
  rintro e v1 ⟨rfl, b1⟩
  go_wp2_with fail
  refine (H1.out v1 b1).mono ?_
  rintro e v2 ⟨rfl, u2⟩
  go_wp2_with fail
  refine (H2.out v2 u2).mono ?_
  rintro e v3 ⟨rfl, u3⟩
  go_wp2_with fail
  refine (apartEntries_nil b v3 (CE.out v3 u3).2.1).mono ?_
  rintro e v4 ⟨rfl, c4⟩
  have u4 := u3.trans (Upd.of_below c4)
  go_wp2_with fail
  refine (apartCells_nil b v4 (CE.out v4 u4).2.2.1).mono ?_
  rintro e v5 ⟨rfl, c5⟩
  have u5 := u4.trans (Upd.of_below c5)
  go_wp2_with fail
  refine (apartRows_nil b v5 (CE.out v5 u5).2.2.2.1).mono ?_
  rintro e v6 ⟨rfl, c6⟩
  have u6 := u5.trans (Upd.of_below c6)
  go_wp2_with fail
  refine (apartResults_nil b v6 (CE.out v6 u6).2.2.2.2.1).mono ?_
  rintro e v7 ⟨rfl, c7⟩
  have u7 := u6.trans (Upd.of_below c7)
  go_wp2_with fail
  refine (apartStamps_nil b v7 (CE.out v7 u7).2.2.2.2.2.1).mono ?_
  rintro e v8 ⟨rfl, c8⟩
  have u8 := u7.trans (Upd.of_below c8)
  go_wp2_with fail
  refine (apartAcks_nil b v8 (CE.out v8 u8).2.2.2.2.2.2.1).mono ?_
  rintro e v9 ⟨rfl, c9⟩
  have u9 := u8.trans (Upd.of_below c9)
  go_wp2_with fail
  refine (apartMarks_nil b v9 (CE.out v9 u9).2.2.2.2.2.2.2).mono ?_
  rintro e v10 ⟨rfl, c10⟩
  have u10 := u9.trans (Upd.of_below c10)
  have hfin := u10
  clear H1 H2 CE
  go_wp2
  go_ret
  exact ⟨rfl, hfin⟩

end Go.Proofs.Ytcchnaldanibgaa
