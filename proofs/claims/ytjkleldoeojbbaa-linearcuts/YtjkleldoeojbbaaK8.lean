import Derived.Test.YtjkleldoeojbbaaK7
import Derived.Test.YtjkleldoeojbbaaMq
import Derived.Test.YtjkleldoeojbbaaVr
import Derived.Test.YtjkleldoeojbbaaKa
namespace Go.Proofs.Ytjkleldoeojbbaa
open Go.RowKit Go.Maps
open Classical
set_option linter.unusedVariables false
set_option linter.unusedSimpArgs false

/-! A point of a search: what is done, and what the ledger has. -/
def cz (L : List Cl) (i : Nat) : Cl := (L[i]?).getD (0, ByteArray.empty)
def czs (L : List Cl) : List Value := [.int .i64 (cz L 0).1, .string (cz L 0).2, .int .i64 (cz L 1).1, .string (cz L 1).2, .int .i64 (cz L 2).1, .string (cz L 2).2, .int .i64 (cz L 3).1, .string (cz L 3).2, .int .i64 (cz L 4).1, .string (cz L 4).2, .int .i64 (cz L 5).1, .string (cz L 5).2, .int .i64 (cz L 6).1, .string (cz L 6).2, .int .i64 (cz L 7).1, .string (cz L 7).2]
def ptC (D : List Bool) (L : List Cl) : List Value := D.map .bool ++ .int .i64 (L.length : Int) :: czs L
def zPt : KeyT (List Bool × List Cl) := ⟨167, fun k => .agg (ptC k.1 k.2).toArray, fun k => k.1.length = 8 ∧ k.2.length ≤ 8 ∧ Ok k.2⟩
theorem list8 {D : List Bool} (h : D.length = 8) : ∃ b0 b1 b2 b3 b4 b5 b6 b7, D = [b0, b1, b2, b3, b4, b5, b6, b7] := by
  match D, h with
  | [b0, b1, b2, b3, b4, b5, b6, b7], _ => exact ⟨b0, b1, b2, b3, b4, b5, b6, b7, rfl⟩
theorem cz_ok {L : List Cl} (h : Ok L) (i : Nat) : (Lit.int .i64 (cz L i).1).wf = true ∧ (cz L i).2.size ≤ maxLen := by
  unfold cz
  cases hx : L[i]? with
  | none => exact ⟨by decide, by unfold maxLen; decide⟩
  | some p =>
    have := h.may p (List.mem_of_getElem? hx)
    exact ⟨wf_i64 (by show _ ≤ p.1 ∧ p.1 ≤ _; omega), by show p.2.size ≤ _; unfold maxLen; omega⟩
theorem rowPt : 167 < Try.prog.types.size := of_decide_eq_true (by kernel_rfl)
theorem cellsPt : Try.prog.cellsOf 167 = 25 := by kernel_rfl
theorem cellsB8 : Try.prog.cellsOf 164 = 8 := by kernel_rfl
theorem cellsC8 : Try.prog.cellsOf 165 = 16 := by kernel_rfl
theorem cellsCl : Try.prog.cellsOf 148 = 2 := by kernel_rfl
set_option maxRecDepth 100000 in
theorem lawPt : WideMaps.KeyLaw Try.prog 167 := deep_law_laid laidOutK (m := 4) (by omega) rowPt (by kernel_rfl) (by kernel_rfl)
theorem formedPt (k : List Bool × List Cl) (hk : zPt.ok k) : (zPt.enc k).formed Try.prog 167 = true := by
  obtain ⟨b0, b1, b2, b3, b4, b5, b6, b7, e⟩ := list8 hk.1
  simp [zPt, ptC, czs, e, Value.formed, Try.underlying167, cellsPt]
set_option maxRecDepth 100000 in
theorem keyLitsCl (d : Nat) (s : Int) (v : ByteArray) (hs : (Lit.int .i64 s).wf = true) (hv : v.size ≤ maxLen) : Try.prog.keyLits (d + 2) 148 [.int .i64 s, .string v] = some [.int .i64 s, .string v.data.toList] := by
  simp [Program.keyLits, Try.underlying148, cellsCl, Try.underlying3, Try.underlying9, cellsI, cellsS, hs, hv]
set_option maxRecDepth 100000 in
theorem keyLitsC8 (d : Nat) (L : List Cl) (h : Ok L) : ∃ l, Try.prog.keyLits (d + 3) 165 (czs L) = some l := by
  have h0 := keyLitsCl d _ _ (cz_ok h 0).1 (cz_ok h 0).2
  have h1 := keyLitsCl d _ _ (cz_ok h 1).1 (cz_ok h 1).2
  have h2 := keyLitsCl d _ _ (cz_ok h 2).1 (cz_ok h 2).2
  have h3 := keyLitsCl d _ _ (cz_ok h 3).1 (cz_ok h 3).2
  have h4 := keyLitsCl d _ _ (cz_ok h 4).1 (cz_ok h 4).2
  have h5 := keyLitsCl d _ _ (cz_ok h 5).1 (cz_ok h 5).2
  have h6 := keyLitsCl d _ _ (cz_ok h 6).1 (cz_ok h 6).2
  have h7 := keyLitsCl d _ _ (cz_ok h 7).1 (cz_ok h 7).2
  unfold Program.keyLits
  simp [Try.underlying165, cellsC8, cellsCl, czs, List.range_succ, h0, h1, h2, h3, h4, h5, h6, h7]
set_option maxRecDepth 100000 in
theorem keyLitsB8 (d : Nat) (b0 b1 b2 b3 b4 b5 b6 b7 : Bool) : ∃ l, Try.prog.keyLits (d + 2) 164 [.bool b0, .bool b1, .bool b2, .bool b3, .bool b4, .bool b5, .bool b6, .bool b7] = some l := by
  simp [Program.keyLits, Try.underlying164, cellsB8, cellsB, Try.underlying4, List.range_succ]
set_option maxRecDepth 100000 in
set_option maxHeartbeats 2000000 in
theorem keyOfPt (k : List Bool × List Cl) (hk : zPt.ok k) : ∃ x : Lit, keyOf Try.prog 167 (zPt.enc k) = some x ∧ WideAt.IsKeyLit x := by
  have hF := formedPt k hk
  have hl : ∃ l, Try.prog.keyLits (Try.prog.types.size + 1) 167 (zPt.enc k).cells.toList = some l := by
    obtain ⟨m, hm⟩ : ∃ m, Try.prog.types.size = m + 3 := ⟨Try.prog.types.size - 3, (Nat.sub_add_cancel (Nat.le_trans (by decide) (Nat.le_of_lt rowPt))).symm⟩
    rw [hm]
    obtain ⟨b0, b1, b2, b3, b4, b5, b6, b7, e⟩ := list8 hk.1
    have hn : (Lit.int .i64 (k.2.length : Int)).wf = true := wf_i64 (by have := hk.2.1; omega)
    obtain ⟨l1, h1⟩ := keyLitsB8 (m + 1) b0 b1 b2 b3 b4 b5 b6 b7
    obtain ⟨l2, h2⟩ := keyLitsC8 m k.2 hk.2.2
    have h3 : Try.prog.keyLits (m + 3) 3 [.int .i64 (k.2.length : Int)] = some [.int .i64 (k.2.length : Int)] := by
      simp [Program.keyLits, Try.underlying3, hn]
    have e2 : (zPt.enc k).cells.toList = ([.bool b0, .bool b1, .bool b2, .bool b3, .bool b4, .bool b5, .bool b6, .bool b7] ++ .int .i64 (k.2.length : Int) :: czs k.2 : List Value) := by
      simp [zPt, ptC, e, Value.cells]
    rw [e2]
    unfold Program.keyLits
    have hcl : (czs k.2).length = 16 := rfl
    have hdr : (czs k.2).take 16 = czs k.2 := rfl
    simp [Try.underlying167, cellsPt, cellsB8, cellsC8, cellsI, h1, h2, h3, hcl, hdr]
  obtain ⟨l, hl⟩ := hl
  have kt : Try.prog.keyType 167 = true := by kernel_rfl
  simp only [keyOf, Try.underlying167, kt, hF, Bool.and_self, if_true, hl, Option.map_some]
  exact ⟨_, rfl, trivial⟩
theorem cz_ext {L L' : List Cl} (hl : L.length = L'.length) (h8 : L.length ≤ 8) (h : ∀ i, i < 8 → cz L i = cz L' i) : L = L' := by
  apply List.ext_getElem hl
  intro i h1 h2
  have := h i (by omega)
  unfold cz at this
  rw [List.getElem?_eq_getElem h1, List.getElem?_eq_getElem h2] at this
  exact this
theorem kPt : zPt.Ok := ⟨Keyed.of_law lawPt, keyOfPt, fun k k' x hk hk' h h' => by
  have e := lawPt.inj h h'
  obtain ⟨b0, b1, b2, b3, b4, b5, b6, b7, e1⟩ := list8 hk.1
  obtain ⟨c0, c1, c2, c3, c4, c5, c6, c7, e2⟩ := list8 hk'.1
  obtain ⟨D, L⟩ := k
  obtain ⟨D', L'⟩ := k'
  dsimp only at e1 e2
  subst e1
  subst e2
  simp only [zPt, ptC, czs, Value.agg.injEq, List.map_cons, List.map_nil, List.cons_append, List.nil_append] at e
  simp at e
  obtain ⟨q0, q1, q2, q3, q4, q5, q6, q7, ql, s0, v0, s1, v1, s2, v2, s3, v3, s4, v4, s5, v5, s6, v6, s7, v7⟩ := e
  have : L = L' := cz_ext (by omega) hk.2.1 (fun i hi => by
    match i, hi with
    | 0, _ => exact Prod.ext s0 v0
    | 1, _ => exact Prod.ext s1 v1
    | 2, _ => exact Prod.ext s2 v2
    | 3, _ => exact Prod.ext s3 v3
    | 4, _ => exact Prod.ext s4 v4
    | 5, _ => exact Prod.ext s5 v5
    | 6, _ => exact Prod.ext s6 v6
    | 7, _ => exact Prod.ext s7 v7)
  rw [q0, q1, q2, q3, q4, q5, q6, q7, this]⟩

end Go.Proofs.Ytjkleldoeojbbaa
