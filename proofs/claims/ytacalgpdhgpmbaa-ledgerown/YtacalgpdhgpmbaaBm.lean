import Derived.Test.YtacalgpdhgpmbaaBj
import Derived.Test.YtacalgpdhgpmbaaGLo
import Derived.Test.YtacalgpdhgpmbaaMn
import Derived.Test.YtacalgpdhgpmbaaMe
import Derived.Test.YtacalgpdhgpmbaaJr
namespace Go.Proofs.Ytacalgpdhgpmbaa
open Go.RowKit
open Classical
set_option linter.unusedVariables false
set_option linter.unusedSimpArgs false

/-- The operations that are written over the caller's own. -/
def zo (i : Nat) : Opn := ⟨1, (i : Int) % 1024, ⟨#[122]⟩⟩
def zw (n : Nat) : List Opn := (List.range n).map zo
theorem zw_length (n : Nat) : (zw n).length = n := by simp [zw]
theorem zw_succ (n : Nat) : zw (n + 1) = zw n ++ [zo n] := by simp [zw, List.range_succ]
theorem zo_fits (i : Nat) : (zo i).fits := ⟨wf_i64 (by show _ ≤ (1 : Int) ∧ (1 : Int) ≤ _; omega), wf_i64 (by show _ ≤ ((i : Int) % 1024) ∧ ((i : Int) % 1024) ≤ _; omega), by show (1 : Nat) ≤ _; unfold maxLen; omega⟩
theorem zw_fits (n : Nat) : ∀ p ∈ zw n, p.fits := fun p hp => by
  obtain ⟨i, _, rfl⟩ := List.mem_map.1 hp
  exact zo_fits i
theorem dn_write {L : List Cl} {s : Int} {v : ByteArray} (hc : ck 1 s v = 0) : dn L 1 s v = if (gv L s).isSome then L else ins (s, v) L := by
  have hw : wd L 1 s v = match gv L s with
      | some x => (2, s, x)
      | none => (1, s, v) := by
    unfold wd
    rw [if_neg (fun h => h hc), if_pos rfl]
    cases gv L s <;> rfl
  unfold dn
  rw [hw]
  cases gv L s <;> simp
theorem ck_zo (i : Nat) : ck 1 ((i : Int) % 1024) ⟨#[122]⟩ = 0 := by
  have h : ¬ (((i : Int) % 1024) < 0 ∨ 1024 ≤ ((i : Int) % 1024)) := by omega
  unfold ck
  rw [if_pos (.inl rfl), if_neg h, if_neg (by show ¬ (64 < 1); omega)]
theorem pl_zw (n : Nat) : (pl [] (zw n)).length = min n 1024 ∧ ∀ s : Int, gv (pl [] (zw n)) s = if 0 ≤ s ∧ s < ((min n 1024 : Nat) : Int) then some ⟨#[122]⟩ else none := by
  induction n with
  | zero => exact ⟨rfl, fun s => by rw [if_neg (by omega)]; rfl⟩
  | succ n ih =>
    obtain ⟨h1, h2⟩ := ih
    rw [zw_succ, pl_snoc]
    show (dn (pl [] (zw n)) 1 ((n : Int) % 1024) ⟨#[122]⟩).length = _ ∧ ∀ s : Int, gv (dn (pl [] (zw n)) 1 ((n : Int) % 1024) ⟨#[122]⟩) s = _
    rw [dn_write (ck_zo n)]
    have h3 := h2 ((n : Int) % 1024)
    by_cases hn : n < 1024
    · rw [if_neg (by omega)] at h3
      rw [h3]
      have hm : (n : Int) % 1024 = n := by omega
      rw [hm] at h3 ⊢
      refine ⟨by show (ins _ _).length = _; rw [len_ins, h1]; omega, fun s => ?_⟩
      show gv (ins _ _) s = _
      rw [gv_ins (p := ((n : Int), ⟨#[122]⟩)) h3, h2 s]
      by_cases hs : (n : Int) = s
      · rw [if_pos hs, if_pos (by omega)]
      · rw [if_neg hs]
        by_cases h4 : 0 ≤ s ∧ s < ((min n 1024 : Nat) : Int)
        · rw [if_pos h4, if_pos (by omega)]
        · rw [if_neg h4, if_neg (by omega)]
    · rw [if_pos (by omega)] at h3
      rw [h3]
      refine ⟨by show (pl [] (zw n)).length = _; rw [h1]; omega, fun s => ?_⟩
      show gv (pl [] (zw n)) s = _
      rw [h2 s, show min n 1024 = min (n + 1) 1024 by omega]
/-- The caller's operations, written over up to a place. -/
def zl (P : List Opn) (j : Nat) : List Rs := (zw j).map Opn.t ++ (P.map Opn.t).drop j
theorem zl_zero (P : List Opn) : zl P 0 = P.map Opn.t := by simp [zl, zw]
theorem zl_length (P : List Opn) {j : Nat} (h : j ≤ P.length) : (zl P j).length = P.length := by simp [zl, zw_length]; omega
theorem zl_end (P : List Opn) : zl P P.length = (zw P.length).map Opn.t := by simp [zl]
theorem zl_set (P : List Opn) {j : Nat} (h : j < P.length) : (zl P j).set j (zo j).t = zl P (j + 1) := by
  unfold zl
  have hl : ((zw j).map Opn.t).length = j := by simp [zw_length]
  have hd : (P.map Opn.t).drop j = (P[j]).t :: (P.map Opn.t).drop (j + 1) := by
    rw [List.drop_eq_getElem_cons (by simpa using h)]
    simp
  rw [List.set_append_right _ _ (by omega), hl, Nat.sub_self, hd, List.set_cons_zero, zw_succ, List.map_append, List.append_assoc]
  rfl
theorem fl_rs : ∀ l : List Rs, fl yRs l = rcs l
  | [] => rfl
  | x :: r => by rw [fl, rcs, fl_rs r]; rfl
theorem own3_y {B : Nat} {w : World} {v : Value} {l : List Rs} (h : Own3 53 B w v l) : OwnY yRs B w v l := by unfold OwnY; rw [fl_rs]; exact h
/-- Operations as rows. -/
def yOp : Lay Rs := ⟨23, 29, 3, 32, fun x => [.int .i64 x.1, .int .i64 x.2.1, .string x.2.2], (0, 0, ByteArray.empty)⟩
theorem kOp : yOp.Ok := ⟨by decide, fun x => rfl, fun x u h => by
    simp [yOp] at h
    rcases h with rfl | rfl | rfl <;> rfl, Try.underlying29, ⟨.agg #[.int .i64 0, .int .i64 0, .string ByteArray.empty], by kernel_rfl, rfl⟩⟩
theorem fl_op : ∀ l : List Rs, fl yOp l = rcs l
  | [] => rfl
  | x :: r => by rw [fl, rcs, fl_op r]; rfl
theorem own3_op {B : Nat} {w : World} {v : Value} {l : List Rs} (h : Own3 23 B w v l) : OwnY yOp B w v l := by unfold OwnY; rw [fl_op]; exact h
theorem OwnY.op3 {B : Nat} {w : World} {v : Value} {l : List Rs} (h : OwnY yOp B w v l) : Own3 23 B w v l := by unfold OwnY at h; rw [fl_op] at h; exact h
theorem Row3.ops {w : World} {a : Option Addr} {P : List Opn} (h : Row3 w a (P.map Opn.t)) : Ops w a P := fun i hi => by
  obtain ⟨g, rfl, h0, h1, h2⟩ := h i (P[i].t) (by simp [hi])
  exact ⟨g, 0, rfl, by rw [Nat.zero_add]; exact h0, by rw [Nat.zero_add]; exact h1, by rw [Nat.zero_add]; exact h2⟩
theorem rl_len (P : List Opn) : (rl [] P).length = P.length := rl_length [] P
theorem OwnY.c {B : Nat} {w : World} {v : Value} {l : List Cl} (h : OwnY yCl B w v l) : OwnC B w v l := by unfold OwnY at h; rw [fl_cl] at h; exact h
theorem OwnY.r3 {B : Nat} {w : World} {v : Value} {l : List Rs} (h : OwnY yRs B w v l) : Own3 53 B w v l := by unfold OwnY at h; rw [fl_rs] at h; exact h
theorem OwnC.slC {B : Nat} {w : World} {a : Option Addr} {n c : Nat} {l : List Cl} (h : OwnC B w (.slice a n c) l) : SlC w (.slice a l.length c) l a c := by
  obtain ⟨a', c', hs, _⟩ := h.sl
  obtain ⟨a2, c2, hf, _⟩ := h.form
  injection hf with h1 h2 h3
  subst h2
  have he := hs.form
  injection he with e1 e2 e3
  subst e1 e3
  exact hs
theorem Pn.slC {N : Nat → Prop} {A : Nat} {w : World} {L : List (SV Cl)} (h : Pn yCl N A w L) {a : Option Addr} {c : Nat} {D : List Cl} (hx : ⟨a, c, D⟩ ∈ L) : SlC w (.slice a D.length c) D a c := (h.own _ hx).1.c.slC
theorem Pn.same {N : Nat → Prop} {A : Nat} {w : World} {L : List (SV Cl)} (h : Pn yCl N A w L) {a a' : Option Addr} {c c' : Nat} {D : List Cl} (hx : ⟨a, c, D⟩ ∈ L) (hy : ⟨a', c', D⟩ ∈ L) :
    Calls Try.prog 23 #[.slice a D.length c, .slice a' D.length c'] w fun e w' => e = .returned (.bool true) ∧ Below w.heap.size w w' := same_own D a a' c c' w (h.slC hx) (h.slC hy)
theorem Pn.sameR {N : Nat → Prop} {A : Nat} {w : World} {L : List (SV Rs)} (h : Pn yRs N A w L) {a a' : Option Addr} {c c' : Nat} {D : List Rs} (hx : ⟨a, c, D⟩ ∈ L) (hy : ⟨a', c', D⟩ ∈ L) :
    Calls Try.prog 27 #[.slice a D.length c, .slice a' D.length c'] w fun e w' => e = .returned (.bool true) ∧ Below w.heap.size w w' := sameres_own D A A _ _ w (h.own _ hx).1.r3 (h.own _ hy).1.r3

end Go.Proofs.Ytacalgpdhgpmbaa
