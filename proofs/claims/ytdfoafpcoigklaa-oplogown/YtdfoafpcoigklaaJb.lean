import Derived.Test.YtdfoafpcoigklaaKr
import Derived.Test.YtdfoafpcoigklaaKv
import Derived.Deep.RegionHeld3
namespace Go.Proofs.Ytdfoafpcoigklaa
open Go.RowKit Go.Maps
open Classical
set_option linter.unusedVariables false
set_option linter.unusedSimpArgs false

/-- Raw entries lie as entries do. -/
def yW : Lay En := ⟨119, 66, 5, 48, En.cs, ⟨0, 0, ⟨0, 0, ByteArray.empty⟩⟩⟩
theorem SlY.raw {w : World} {a : Option Addr} {n c : Nat} {L : List En} (h : SlY yW w a n c L) {j : Nat} {x : En} (hx : L[j]? = some x) : ∃ q o, a = some ⟨q, o, none⟩ ∧ q < w.heap.size ∧ w.cell? ⟨q, o + j * 5, none⟩ = some (.int .i64 x.c) ∧ w.cell? ⟨q, o + j * 5 + 1, none⟩ = some (.int .i64 x.n) ∧ w.cell? ⟨q, o + j * 5 + 2, none⟩ = some (.int .i64 x.o.k) ∧ w.cell? ⟨q, o + j * 5 + 3, none⟩ = some (.int .i64 x.o.s) ∧ w.cell? ⟨q, o + j * 5 + 4, none⟩ = some (.string x.o.v) := by
  obtain ⟨q, o, ea, hq, hl⟩ := h.place (by rintro rfl; simp at hx)
  exact ⟨q, o, ea, hq, hl j x hx 0 _ rfl, hl j x hx 1 _ rfl, hl j x hx 2 _ rfl, hl j x hx 3 _ rfl, hl j x hx 4 _ rfl⟩
set_option maxRecDepth 100000 in
theorem within6_any (k m : Int) (hk : (Lit.int .i64 k).wf = true) (h0 : 0 ≤ m) (h1 : m < 9223372036854775807) (w : World) :
    Calls Try.prog 46 #[.int .i64 k, .int .i64 m] w fun e w' => ∃ r : Int, e = .returned (.int .i64 r) ∧ (0 ≤ r ∧ r ≤ m) ∧ w' = w := by
  have hb := i64_wf hk
  have hr1 := Int.emod_nonneg k (show m + 1 ≠ 0 by omega)
  have t1 : k.tmod (m + 1) < m + 1 := Int.tmod_lt_of_pos k (by omega)
  have t2 : -(m + 1) < k.tmod (m + 1) := by
    have := Int.lt_tmod_of_pos k (show 0 < m + 1 by omega)
    omega
  have hne : ¬ (m + 1 = 0) := by omega
  clear hk hr1
  obtain ⟨r, hr⟩ : ∃ r, k.tmod (m + 1) = r := ⟨_, rfl⟩
  rw [hr] at t1 t2
  by_cases hs : r < 0
  · have d1 : decide (r < 0) = true := by simpa using hs
    go_enter Try.func46, Try.ntmps46
    go_wp2
    go_ret
    exact ⟨_, rfl, by omega, rfl⟩
  · have d1 : decide (r < 0) = false := by simpa using hs
    go_enter Try.func46, Try.ntmps46
    go_wp2
    go_ret
    exact ⟨_, rfl, by omega, rfl⟩
/-- The last number of a client. -/
def ln (L : List En) (c : Int) : Int := L.foldl (fun a e => if e.c = c then e.n else a) 0
theorem ln_snoc (L : List En) (e : En) (c : Int) : ln (L ++ [e]) c = if e.c = c then e.n else ln L c := by simp [ln, List.foldl_append]
theorem ln_take {L : List En} {j : Nat} {e : En} (c : Int) (h : L[j]? = some e) : ln (L.take (j + 1)) c = if e.c = c then e.n else ln (L.take j) c := by
  rw [List.take_add_one, h]
  exact ln_snoc _ _ _
/-- A log that was laid entry by entry. -/
structure GL (L : List En) (room : Int) : Prop where
  ok : (chk L room).1 = 0
  fit : ∀ e ∈ L, e.fits
  last : ∀ c, ln L c = gm L c
theorem GL.nil {room : Int} (h1 : 1 ≤ room) (h2 : room ≤ 256) : GL [] room := by
  refine ⟨?_, by simp, fun c => rfl⟩
  have hr : ¬ (room < 1 ∨ 256 < room) := by omega
  have hr2 : ¬ (room < (([] : List En).length : Int)) := by simp; omega
  rw [chk, if_neg hr, if_neg hr2]
  rfl
theorem GL.num {L : List En} {room : Int} (h : GL L room) (c : Int) : 0 ≤ ln L c := by rw [h.last]; exact gm_nonneg L c
theorem GL.fitn {L : List En} {room : Int} (h : GL L room) (c : Int) : ln L c ≤ 9223372036854775807 := by
  have : ∀ (M : List En) (a : Int), a ≤ 9223372036854775807 → (∀ e ∈ M, e.fits) → M.foldl (fun a e => if e.c = c then e.n else a) a ≤ 9223372036854775807 := by
    intro M
    induction M with
    | nil => intro a ha _; exact ha
    | cons e M ih =>
      intro a ha hM
      rw [List.foldl_cons]
      refine ih _ ?_ (fun x hx => hM x (by simp [hx]))
      split
      · exact (i64_wf (hM e (by simp)).nw).2
      · exact ha
  exact this L 0 (by omega) h.fit
/-- One entry more. -/
theorem GL.snoc {L : List En} {room : Int} (h : GL L room) (x : En) (hl : (L.length : Int) < room) (hc : ckE x = 0) (hn : ln L x.c < x.n) (hf : x.fits) : spE L room ((L.length : Int) + 1) [x] = 0 ∧ spL L room ((L.length : Int) + 1) [x] = L ++ [x] ∧ GL (L ++ [x]) room := by
  have htw : tw L x = false := by
    rw [tw_iff x (ckE_zero hc).2.2.1 L, ← h.last]
    simp; omega
  have her : er L x = 0 := by rw [er, hc, htw]; simp
  have hE : spE L room ((L.length : Int) + 1) [x] = 0 := by
    rw [spE_append, if_neg (by simp [h.ok]), if_neg (by omega), her]
  have hL : spL L room ((L.length : Int) + 1) [x] = L ++ [x] := by rw [spL_append, hE]; rfl
  refine ⟨hE, hL, ?_, ?_, fun c => ?_⟩
  · have h0 : ¬ ((L.length : Int) + 1 < 1 ∨ (L.length : Int) + 1 < (L.length : Int) + 1) := by omega
    have hnn : ((L.length : Int) + 1 - 1).toNat = L.length := by omega
    rw [spE, if_neg (by simp [h.ok]), if_neg h0, hnn, List.take_length] at hE
    exact hE
  · intro e he
    rcases List.mem_append.1 he with he | he
    · exact h.fit e he
    · simp at he; rw [he]; exact hf
  · rw [ln_snoc, gm_snoc]
    by_cases hcc : x.c = c
    · subst hcc
      rw [h.last] at hn
      simp only [if_true]
      omega
    · simp only [hcc, if_false]
      exact h.last c

end Go.Proofs.Ytdfoafpcoigklaa
