import Derived.Test.YtkfkkajeoocbbaaGreatDoorF13
set_option maxRecDepth 100000
set_option linter.unusedVariables false
set_option linter.unusedSimpArgs false
namespace Go.Proofs.YtkfkkajeoocbbaaGreatDoor
open Go.RowKit Go.Maps Go.Shelf
open Classical
def c39 : Cg := ⟨1, 4, 6, false⟩
def zG9 : Mg := ⟨0, 0, 0, ⟨0, 0, ⟨0, 0, ⟨#[]⟩⟩⟩, (0, 0, ⟨#[]⟩), 0, 0, 0, (0, 0)⟩
def cm9 (a b : Int) (g : Nat) : Ms9 := ⟨{ zG9 with k := 5 }, none, 0, [], some ⟨g, 0, none⟩, 3, [(0, a), (0, b), (0, 0)]⟩
theorem cm9_fit (a b : Int) (g : Nat) : (cm9 a b g).Fit := ⟨fun e h => (by cases h), ⟨(by show (Lit.int .i64 0).wf = true; decide), (by show (Lit.int .i64 0).wf = true; decide), ⟨(by show (Lit.int .i64 0).wf = true; decide), (by show (Lit.int .i64 0).wf = true; decide), by show (ByteArray.mk #[]).size ≤ maxLen; decide⟩⟩, by show 0 * 48 ≤ 140737488351232; decide, by show 3 * 16 ≤ 140737488351232; decide⟩
theorem kn_al9 {t : Sta} {B : Nat} {s : Sta} {D : List (Int × Int)} {w : World} {x st : Int} {g n : Nat} {V : List (Int × Int)} (hs : (vst9 x st g n V).Alike9 s) (h : t.Kn B s D w) : (vst9 x st g n D).Alike9 t := by
  have ea : s.A = [] := hs.a
  have em : s.M = [] := hs.m
  have eb : s.B = [] := List.eq_nil_of_length_eq_zero hs.b.1
  have en : s.N = [] := List.eq_nil_of_length_eq_zero hs.n.1
  have hb := h.b
  have hn := h.n
  rw [eb] at hb
  rw [en] at hn
  have tb : t.B = [] := List.eq_nil_of_length_eq_zero hb.1
  have tn : t.N = [] := List.eq_nil_of_length_eq_zero hn.1
  refine ⟨h.self.trans hs.self, h.st.trans hs.st, h.view.trans hs.view, h.last.trans hs.last, h.commit.trans hs.commit, h.idle.trans hs.idle, h.l.trans hs.l, h.v, ?_, ?_, ⟨by rw [tb]; rfl, fun i x y hx hy => ?_⟩, ⟨by rw [tn]; rfl, fun i x y hx hy => ?_⟩⟩
  · rw [h.a, ea]; rfl
  · rw [h.m, em]; rfl
  · rw [tb] at hy; cases hy
  · rw [tn] at hy; cases hy
theorem vst9_fit {x st : Int} {g n : Nat} {V : List (Int × Int)} (h : V.length * 16 ≤ 140737488351232) : (vst9 x st g n V).Fit := ⟨fun e h => (by cases h), fun e h => (by cases h), fun e h => (by cases h), by show 0 * 48 ≤ 140737488351232; decide, h, by show 0 * 32 ≤ 140737488351232; decide, by show 0 * 24 ≤ 140737488351232; decide, by show 0 * 64 ≤ 140737488351232; decide, by show 0 * 64 ≤ 140737488351232; decide⟩
theorem Ad9.in9 {B q : Nat} {c : Cg} {s t : Sta} {m : Ms9} {b : Bool} {w w' : World} (h : Ad9 B c s m t b w) (hi : t.In w) (U : Upd (fun k => k = q) w w') (hq : q < B) : t.In w' := by
  rcases h with ⟨_, rfl, _⟩ | ⟨_, k, lo, _⟩
  · exact zS8_in _
  · exact (k.set8 U hq lo).inn
def Z39 : List (Int × Int) := [(0, 0), (0, 0), (0, 0)]
def F39 : List (Int × Int) := [(0, 4), (0, 0), (0, 0)]
theorem ck_z9 (g n : Nat) : (vst9 1 1 g n Z39).ckE c39 = 0 := by rfl
theorem ck_f9 (g n : Nat) : (vst9 1 1 g n F39).ckE c39 = 0 := by rfl
theorem cm_ok9 (a b : Int) (g : Nat) : adM9 c39 (cm9 a b g) = 0 := by rfl
theorem admitC9 (s : Sta) (V D : List (Int × Int)) (a b : Int) (g : Nat) (r : Bool) (w : World) (hal : (vst9 1 1 0 0 V).Alike9 s) (hV : V.length * 16 ≤ 140737488351232) (hck : (vst9 1 1 0 0 V).ckE c39 = 0) (hr : adB9 c39 (vst9 1 1 0 0 V) (cm9 a b g) = r) (hD : adV9 c39 (vst9 1 1 0 0 V) (cm9 a b g) = D)
    (hI : s.In w) (hM : (cm9 a b g).In w) (hT : Tab w) : Calls Tryz.prog 31 #[c39.val, s.val, (cm9 a b g).val] w fun e w' => ∃ t : Sta, e = .returned (.tuple #[t.val, .bool r, .int .i64 0]) ∧ t.In w' ∧ (vst9 1 1 0 0 D).Alike9 t ∧ (∀ q w'', q < w.heap.size → Upd (fun k => k = q) w' w'' → t.In w'') ∧ Below w.heap.size w w' := by
  refine (admit9 c39 s (cm9 a b g) w hI (hal.fit (vst9_fit hV)) hM (cm9_fit a b g) hT).mono ?_
  rintro e w' ⟨t, b1, rfl, tin, ha, hb⟩
  have hs : s.ckE c39 = 0 := by rw [ckE_alike9 hal]; exact hck
  have hE : adE9 c39 s (cm9 a b g) = 0 := by unfold adE9; rw [if_pos hs]; exact cm_ok9 a b g
  have ha' := ha
  have e1 : hear9 s (cm9 a b g) = hear9 (vst9 1 1 0 0 V) (cm9 a b g) := by
    have hv := hal.v
    have hf := hal.self
    unfold hear9 ovB9 vmB9 mine9
    simp only [hv, hf]
  have e2 : s.self = (vst9 1 1 0 0 V).self := hal.self
  rcases ha with ⟨h0, _⟩ | ⟨_, k, lo, hb1⟩
  · exact absurd hE h0
  · have eb : b1 = r := by rw [hb1, ← hr]; unfold adB9; rw [e1, e2]
    have eD : adV9 c39 s (cm9 a b g) = D := by rw [← hD]; unfold adV9; rw [e1, e2, hal.v]
    rw [eD] at k
    rw [hE, eb]
    exact ⟨t, rfl, tin, kn_al9 hal k, fun q w'' hq U => ha'.in9 tin U hq, hb⟩
theorem ad1_9 (g : Nat) : adB9 c39 (vst9 1 1 0 0 Z39) (cm9 4 0 g) = true ∧ adV9 c39 (vst9 1 1 0 0 Z39) (cm9 4 0 g) = F39 := by
  constructor <;> rfl
theorem ad2_9 (g : Nat) : adB9 c39 (vst9 1 1 0 0 F39) (cm9 0 0 g) = false ∧ adV9 c39 (vst9 1 1 0 0 F39) (cm9 0 0 g) = F39 := by
  constructor <;> rfl
theorem ad3_9 (g : Nat) : adB9 c39 (vst9 1 1 0 0 F39) (cm9 4 3 g) = false ∧ adV9 c39 (vst9 1 1 0 0 F39) (cm9 4 3 g) = F39 := by
  constructor <;> rfl
end Go.Proofs.YtkfkkajeoocbbaaGreatDoor
