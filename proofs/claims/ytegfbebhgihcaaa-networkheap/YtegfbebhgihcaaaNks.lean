import Derived.Test.YtegfbebhgihcaaaNkn
import Derived.Test.YtegfbebhgihcaaaNkr
namespace Go.Proofs.Ytegfbebhgihcaaa
open Go.RowKit Go.Maps
set_option linter.unusedVariables false
set_option linter.unusedSimpArgs false

set_option maxRecDepth 100000 in
theorem samebytes14 (a a' : Option Addr) (c c' : Nat) (s : List UInt8) (w : World) (h : SlY yU w a s.length c s) (h' : SlY yU w a' s.length c' s) : Calls Try.prog 81 #[.slice a s.length c, .slice a' s.length c'] w fun e w' => e = .returned (.bool true) ∧ w' = w := by
  have k1 := conv_u h
  have k2 := conv_u h'
  have k3 := bst_beq s
  clear h h'
  go_enter Try.func81, Try.ntmps81
  go_wp2
  go_ret
  exact ⟨by simp, rfl⟩
set_option maxRecDepth 100000 in
set_option maxHeartbeats 2000000 in
/-- SamePackets of rows of the same packets. -/
theorem samepks_any (L L' : List Ap) (a a' : Option Addr) (c c' : Nat) (w : World) (h : SlY yA w a L.length c L) (h' : SlY yA w a' L.length c' L') (hin : ∀ x ∈ L, x.In w) (hin' : ∀ x ∈ L', x.In w) (hp : L.map Ap.pk = L'.map Ap.pk) (hm : L.length < 4611686018427387904) :
    Calls Try.prog 38 #[.slice a L.length c, .slice a' L.length c'] w fun e w' => e = .returned (.bool true) ∧ Below w.heap.size w w' := by
  have HL := hide h
  have HL' := hide h'
  have HI := hide hin
  have HI' := hide hin'
  have HP := hide hp
  have hcap := h.cap
  have hcap' := h'.cap
  clear h h' hin hin' hp
  go_enter Try.func38, Try.ntmps38
  go_wp2_with fail
  go_loopw [5] (fun i wr => ∃ j : Nat, i = .int .i64 (j : Int) ∧ j ≤ L.length ∧ Hid (Below w.heap.size w wr)) (fun i _ => L.length - (intOf i).toNat)
  case atStart => exact ⟨0, rfl, Nat.zero_le _, Below.refl _ _⟩
  case round =>
    obtain ⟨j, rfl, hj, HJ⟩ := hrel
    by_cases hlt : j < L.length
    · have d1 : decide ((j : Int) < (L.length : Int)) = true := decide_eq_true (by omega)
      have i1 : (j : Int) < (L.length : Int) := by omega
      have hlt' : j < L'.length := by have := HL'.out.len; omega
      have hg := List.getElem?_eq_getElem hlt
      have hg' := List.getElem?_eq_getElem hlt'
      generalize L[j] = x at hg
      generalize L'[j] = y at hg'
      have hxy : x.pk = y.pk := by
        have := congrArg (·[j]?) HP.out
        simp only [List.getElem?_map, hg, hg', Option.map_some, Option.some.injEq] at this
        exact this
      obtain ⟨q, o, hqa, hq, hlie⟩ := HL.out.place (by intro e; rw [e] at hlt; simp at hlt)
      obtain ⟨q', o', hqa', hq', hlie'⟩ := HL'.out.place (by intro e; rw [e] at hlt'; simp at hlt')
      subst hqa hqa'
      have hxm := List.mem_of_getElem? hg
      have hym := List.mem_of_getElem? hg'
      have hxi := HI.out x hxm
      have hyi := HI'.out y hym
      obtain ⟨xf, xt, xa, xc, xs⟩ := x
      obtain ⟨yf, yt, ya, yc, ys⟩ := y
      unfold Ap.pk at hxy
      injection hxy with e1 e2 e3
      dsimp only at e1 e2 e3
      subst e1 e2 e3
      have KF : Hid (∀ v, Below w.heap.size w v → v.cell? ⟨q, o + j * 3, none⟩ = some (.int .i64 xf) ∧ v.cell? ⟨q, o + j * 3 + 1, none⟩ = some (.int .i64 xt) ∧ v.cell? ⟨q, o + j * 3 + 2, none⟩ = some (.slice xa xs.length xc) ∧ v.cell? ⟨q', o' + j * 3, none⟩ = some (.int .i64 xf) ∧ v.cell? ⟨q', o' + j * 3 + 1, none⟩ = some (.int .i64 xt) ∧ v.cell? ⟨q', o' + j * 3 + 2, none⟩ = some (.slice ya xs.length yc)) := fun v hb => ⟨(hb.cell (p := ⟨q, _, none⟩) hq).trans (hlie _ _ hg 0 _ rfl), (hb.cell (p := ⟨q, _, none⟩) hq).trans (hlie _ _ hg 1 _ rfl), (hb.cell (p := ⟨q, _, none⟩) hq).trans (hlie _ _ hg 2 _ rfl), (hb.cell (p := ⟨q', _, none⟩) hq').trans (hlie' _ _ hg' 0 _ rfl), (hb.cell (p := ⟨q', _, none⟩) hq').trans (hlie' _ _ hg' 1 _ rfl), (hb.cell (p := ⟨q', _, none⟩) hq').trans (hlie' _ _ hg' 2 _ rfl)⟩
      have HB := hide HJ.out.drew
      have s0 := KF.out wr.drew HB.out
      have HS := hide (samebytes14 xa ya xc yc xs wr.drew (SlY.later hxi HB.out) (SlY.later hyi HB.out))
      have hw1 : IntKind.i64.wrap ((j : Int) + 1) = ((j + 1 : Nat) : Int) := by rw [IntKind.wrap_i64]; omega
      clear hlie hlie' hg hg' hxm hym hxi hyi HJ
      go_wp2_with fail
      go_region_held3 (fun v => v.cell? ⟨q, o + j * 3, none⟩ = some (.int .i64 xf) ∧ v.cell? ⟨q, o + j * 3 + 1, none⟩ = some (.int .i64 xt) ∧ v.cell? ⟨q, o + j * 3 + 2, none⟩ = some (.slice xa xs.length xc) ∧ v.cell? ⟨q', o' + j * 3, none⟩ = some (.int .i64 xf) ∧ v.cell? ⟨q', o' + j * 3 + 1, none⟩ = some (.int .i64 xt) ∧ v.cell? ⟨q', o' + j * 3 + 2, none⟩ = some (.slice ya xs.length yc)) (first | with_reducible assumption | go_keep)
        (first | (go_at_call 81; refine HS.out.mono ?_; rintro e w6 ⟨rfl, hy_⟩; rw [hy_]; clear hy_ w6))
      clear s0 KF HS
      go_wp2
      exact ⟨⟨j + 1, by go_num, by omega, HB⟩, by simp [intOf]; omega⟩
    · have d1 : decide ((j : Int) < (L.length : Int)) = false := decide_eq_false (by omega)
      go_wp2
      go_ret
      exact ⟨rfl, HJ.out⟩

end Go.Proofs.Ytegfbebhgihcaaa
