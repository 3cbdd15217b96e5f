import Derived.Test.YtdfoafpcoigklaaJj
namespace Go.Proofs.Ytdfoafpcoigklaa
open Go.RowKit Go.Maps
open Classical
set_option linter.unusedVariables false
set_option linter.unusedSimpArgs false

theorem Upd.trans26 {S T : Nat → Prop} {a b c : World} (h : Upd S a b) (k : Upd T b c) (hs : ∀ i, i < a.heap.size → T i → S i) : Upd S a c :=
  ⟨k.os.trans h.os, k.tape.trans h.tape, k.output.trans h.output, Nat.le_trans h.size k.size, fun i hi hn => (k.block i (Nat.lt_of_lt_of_le hi h.size) (fun ht => hn (hs i hi ht))).trans (h.block i hi hn)⟩
/-- What OplogOwn keeps: a book at b of which nothing is older than w5, and a row of lists beside it. -/
structure OS (S : Nat → Prop) (w5 : World) (b A : Nat) (W : World) (vk : Value) (K : List (SV En)) (v1 v2 v3 : Value) (V1 : List (SV En)) (V2 : List (SV Cl)) (V3 : List (SV Rs)) (l1 l2 l3 : Nat) : Prop where
  hb : b < w5.heap.size
  hA : A ≤ b
  sb : S b
  u : Upd S w5 W
  g : B3 W b A w5.heap.size v1 v2 v3 V1 V2 V3
  k : OwnY zE w5.heap.size W vk K
  ke : ∀ y, y ∈ K → OwnY yE w5.heap.size W y.v y.D
  ne : ∀ g, vk.ownBlock = some g → v1.ownBlock ≠ some g
  m1 : ∀ y, y ∈ V1 → ∀ z, y.a = some z → w5.heap.size ≤ z.block ∧ z.block < l1
  m2 : ∀ y, y ∈ V2 → ∀ z, y.a = some z → z.block < l2
  m3 : ∀ y, y ∈ V3 → ∀ z, y.a = some z → z.block < l3
section
variable {S : Nat → Prop} {w5 W W' : World} {b A l1 l2 l3 : Nat} {vk v1 v2 v3 : Value} {K V1 : List (SV En)} {V2 : List (SV Cl)} {V3 : List (SV Rs)}
theorem OS.bel (h : OS S w5 b A W vk K v1 v2 v3 V1 V2 V3 l1 l2 l3) (hb : Below W.heap.size W W') : OS S w5 b A W' vk K v1 v2 v3 V1 V2 V3 l1 l2 l3 :=
  ⟨h.hb, h.hA, h.sb, h.u.trans (Upd.of_below hb), h.g.bel hb, h.k.grow hb, fun y hy => (h.ke y hy).grow hb, h.ne, h.m1, h.m2, h.m3⟩
theorem OS.lim (h : OS S w5 b A W vk K v1 v2 v3 V1 V2 V3 l1 l2 l3) {l1' l2' l3' : Nat} (h1 : l1 ≤ l1') (h2 : l2 ≤ l2') (h3 : l3 ≤ l3') : OS S w5 b A W vk K v1 v2 v3 V1 V2 V3 l1' l2' l3' :=
  ⟨h.hb, h.hA, h.sb, h.u, h.g, h.k, h.ke, h.ne, fun y hy z hz => ⟨(h.m1 y hy z hz).1, Nat.lt_of_lt_of_le (h.m1 y hy z hz).2 h1⟩, fun y hy z hz => Nat.lt_of_lt_of_le (h.m2 y hy z hz) h2, fun y hy z hz => Nat.lt_of_lt_of_le (h.m3 y hy z hz) h3⟩
theorem OwnY.slb {α : Type} {Y : Lay α} {B : Nat} {w : World} {a : Option Addr} {n c : Nat} {l : List α} (h : OwnY Y B w (.slice a n c) l) {z : Addr} (hz : a = some z) : B ≤ z.block ∧ z.block < w.heap.size := by
  obtain ⟨a', c', e, _, _, _, hs⟩ := h.form
  injection e with e1 e2 e3
  obtain ⟨g, rfl, h1, h2⟩ := hs z (e1.symm.trans hz)
  exact ⟨h1, h2⟩
/-- A list of entries is put into the book. -/
theorem OS.bookE (h : OS S w5 b A W vk K v1 v2 v3 V1 V2 V3 l1 l2 l3) {a : Option Addr} {n c lim : Nat} {D : List En} (own : OwnY yE lim W (.slice a n c) D) (hA : A ≤ lim) (hnb : ∀ z, a = some z → z.block ≠ b) (hne : n ≠ 0 → ∀ y, y ∈ V1 → y.a ≠ a) (h1 : n ≤ 1000) (hV : V1.length ≤ 99) :
    Calls Try.prog 48 #[.pointer (some ⟨b, 0, none⟩), .slice a n c] W fun e W' => e = .returned (.tuple #[]) ∧ ∃ v1' V1', B3 W' b A w5.heap.size v1' v2 v3 V1' V2 V3 ∧ (n ≠ 0 ∨ V1' = V1) ∧ V1'.length ≤ V1.length + 1 ∧ (∀ y, y ∈ V1' → y ∈ V1 ∨ y.a = a) ∧ Upd (fun k => k = b ∨ v1.ownBlock = some k) W W' ∧ OwnY zE w5.heap.size W' vk K ∧ (∀ y, y ∈ K → OwnY yE w5.heap.size W' y.v y.D) ∧ (∀ g, vk.ownBlock = some g → v1'.ownBlock ≠ some g) ∧ Upd S w5 W' := by
  by_cases h0 : n = 0
  · subst h0
    refine (bookEn_none b a c W).mono ?_
    rintro e w2 ⟨rfl, rfl⟩
    exact ⟨rfl, _, _, h.g, .inr rfl, Nat.le_succ _, fun y hy => .inl hy, Upd.refl _ _, h.k, h.ke, h.ne, h.u⟩
  · refine (h.g.bookEn hA own hnb hne h1 hV).mono ?_
    rintro e w2 ⟨rfl, v', V', g', hm, hl', u, n3⟩
    have hbk : ∀ g, v1.ownBlock = some g → w5.heap.size ≤ g ∧ g < W.heap.size := fun g e => h.g.e.o.blk g e
    refine ⟨rfl, v', V', g', .inl h0, hl', hm, u, h.k.upd1 u (fun g e hs => ?_), fun y hy => own_beside (h.ke y hy) h.hb h.g.e.o (by decide) u, fun g e e' => ?_, h.u.trans26 u (fun i hi hs => ?_)⟩
    · rcases hs with hs | hs
      · have := (h.k.blk g e).1; have := h.hb; omega
      · exact h.ne g e hs
    · rcases n3 with n3 | ⟨k', h1', h2'⟩
      · exact h.ne g e (n3.symm.trans e')
      · rw [h1'] at e'
        cases e'
        have := (h.k.blk _ e).2
        omega
    · rcases hs with hs | hs
      · rw [hs]; exact h.sb
      · have := (hbk i hs).1; omega
theorem OS.bookE' (h : OS S w5 b A W vk K v1 v2 v3 V1 V2 V3 l1 l2 l3) {a : Option Addr} {n c lim lim' : Nat} {D : List En} (own : OwnY yE lim W (.slice a n c) D) (hll : l1 ≤ lim) (h5 : w5.heap.size ≤ lim) (hlm : lim ≤ lim') (h1 : n ≤ 1000) (hV : V1.length ≤ 99) (hz : ∀ z, a = some z → z.block < lim') :
    Calls Try.prog 48 #[.pointer (some ⟨b, 0, none⟩), .slice a n c] W fun e W' => e = .returned (.tuple #[]) ∧ ∃ v1' V1', OS S w5 b A W' vk K v1' v2 v3 V1' V2 V3 lim' l2 l3 ∧ V1'.length ≤ V1.length + 1 ∧ Upd (fun k => k = b ∨ v1.ownBlock = some k) W W' := by
  have hb := h.hb
  have hA := h.hA
  refine (h.bookE (lim := lim) own (by omega) (fun z e => by have := (own.slb e).1; omega) (fun _ y hy e => ?_) h1 hV).mono ?_
  · cases a with
    | none => have := (h.g.e.ev y hy).1.form; obtain ⟨a', c', e1, _, _, hn, _⟩ := this; unfold SV.v at e1; injection e1 with e1 e2 e3; have := (hn (e1.symm.trans e)).1; have h3 := (h.g.e.ev y hy).2.1; rw [this] at h3; simp at h3
    | some z => have h2 := (h.m1 y hy z e).2; have h3 := (own.slb (z := z) rfl).1; omega
  · rintro e W' ⟨rfl, v1', V1', g', hor, hlen, hmem, u, hk, hke, hne, hu⟩
    refine ⟨rfl, v1', V1', ⟨h.hb, h.hA, h.sb, hu, g', hk, hke, hne, fun y hy z hz' => ?_, h.m2, h.m3⟩, hlen, u⟩
    rcases hmem y hy with hy | hy
    · exact ⟨(h.m1 y hy z hz').1, Nat.lt_of_lt_of_le (h.m1 y hy z hz').2 (by omega)⟩
    · have hz2 := hy.symm.trans hz'
      exact ⟨by have := (own.slb hz2).1; omega, hz z hz2⟩
theorem OS.bookC (h : OS S w5 b A W vk K v1 v2 v3 V1 V2 V3 l1 l2 l3) {a : Option Addr} {n c lim lim' : Nat} {D : List Cl} (own : OwnY yCl lim W (.slice a n c) D) (hll : l2 ≤ lim) (h5 : w5.heap.size ≤ lim) (hlm : lim ≤ lim') (h1 : n ≤ 1000) (hV : V2.length ≤ 99) (hz : ∀ z, a = some z → z.block < lim') :
    Calls Try.prog 49 #[.pointer (some ⟨b, 0, none⟩), .slice a n c] W fun e W' => e = .returned (.tuple #[]) ∧ ∃ v2' V2', OS S w5 b A W' vk K v1 v2' v3 V1 V2' V3 l1 lim' l3 ∧ V2'.length ≤ V2.length + 1 ∧ Upd (fun k => k = b ∨ v2.ownBlock = some k) W W' := by
  have hb := h.hb
  have hA := h.hA
  refine (h.g.bookCl (lim := lim) (by omega) own (fun z e => by have := (own.slb e).1; omega) (fun _ y hy e => ?_) h1 hV).mono ?_
  · cases a with
    | none => have := (h.g.c.ev y hy).1.form; obtain ⟨a', c', e1, _, _, hn, _⟩ := this; unfold SV.v at e1; injection e1 with e1 e2 e3; have := (hn (e1.symm.trans e)).1; have h3 := (h.g.c.ev y hy).2.1; rw [this] at h3; simp at h3
    | some z => have h2 := h.m2 y hy z e; have h3 := (own.slb (z := z) rfl).1; omega
  · rintro e W' ⟨rfl, v', V', g', hm, hl', u, n3⟩
    refine ⟨rfl, v', V', ⟨h.hb, h.hA, h.sb, h.u.trans26 u (fun i hi hs => ?_), g', own_beside h.k h.hb h.g.c.o (by decide) u, fun y hy => own_beside (h.ke y hy) h.hb h.g.c.o (by decide) u, h.ne, h.m1, fun y hy z hz' => ?_, h.m3⟩, hl', u⟩
    · rcases hs with hs | hs
      · rw [hs]; exact h.sb
      · have := (h.g.c.o.blk i hs).1; omega
    · rcases hm y hy with hy | hy
      · exact Nat.lt_of_lt_of_le (h.m2 y hy z hz') (by omega)
      · exact hz z (hy.symm.trans hz')
theorem OS.bookR (h : OS S w5 b A W vk K v1 v2 v3 V1 V2 V3 l1 l2 l3) {a : Option Addr} {n c lim lim' : Nat} {D : List Rs} (own : OwnY yRs lim W (.slice a n c) D) (hll : l3 ≤ lim) (h5 : w5.heap.size ≤ lim) (hlm : lim ≤ lim') (h1 : n ≤ 1000) (hV : V3.length ≤ 99) (hz : ∀ z, a = some z → z.block < lim') :
    Calls Try.prog 50 #[.pointer (some ⟨b, 0, none⟩), .slice a n c] W fun e W' => e = .returned (.tuple #[]) ∧ ∃ v3' V3', OS S w5 b A W' vk K v1 v2 v3' V1 V2 V3' l1 l2 lim' ∧ V3'.length ≤ V3.length + 1 ∧ Upd (fun k => k = b ∨ v3.ownBlock = some k) W W' := by
  have hb := h.hb
  have hA := h.hA
  refine (h.g.bookRs (lim := lim) (by omega) own (fun z e => by have := (own.slb e).1; omega) (fun _ y hy e => ?_) h1 hV).mono ?_
  · cases a with
    | none => have := (h.g.r.ev y hy).1.form; obtain ⟨a', c', e1, _, _, hn, _⟩ := this; unfold SV.v at e1; injection e1 with e1 e2 e3; have := (hn (e1.symm.trans e)).1; have h3 := (h.g.r.ev y hy).2.1; rw [this] at h3; simp at h3
    | some z => have h2 := h.m3 y hy z e; have h3 := (own.slb (z := z) rfl).1; omega
  · rintro e W' ⟨rfl, v', V', g', hm, hl', u, n3⟩
    refine ⟨rfl, v', V', ⟨h.hb, h.hA, h.sb, h.u.trans26 u (fun i hi hs => ?_), g', own_beside h.k h.hb h.g.r.o (by decide) u, fun y hy => own_beside (h.ke y hy) h.hb h.g.r.o (by decide) u, h.ne, h.m1, h.m2, fun y hy z hz' => ?_⟩, hl', u⟩
    · rcases hs with hs | hs
      · rw [hs]; exact h.sb
      · have := (h.g.r.o.blk i hs).1; omega
    · rcases hm y hy with hy | hy
      · exact Nat.lt_of_lt_of_le (h.m3 y hy z hz') (by omega)
      · exact hz z (hy.symm.trans hz')
/-- Beside a store into an older list of entries. -/
theorem OS.store (h : OS S w5 b A W vk K v1 v2 v3 V1 V2 V3 l1 l2 l3) {lo go : Nat} {vo : Value} {Lo : List En} (own : OwnY yE lo W vo Lo) (e : vo.ownBlock = some go) (u : Upd (· = go) W W') (h5 : go < w5.heap.size) (hn : go ≠ b) : OS (fun k => S k ∨ k = go) w5 b A W' vk K v1 v2 v3 V1 V2 V3 l1 l2 l3 := by
  have hblt : b < W.heap.size := Nat.lt_of_lt_of_le h.hb h.u.size
  refine ⟨h.hb, h.hA, .inl h.sb, (h.u.mono (fun k _ hk => .inl hk)).trans26 u (fun i _ hi => .inr hi), ⟨?_, ?_, ?_, fun i a1 a2 a3 a4 => (u.cell (p := ⟨b, i, none⟩) hblt (fun hc => hn hc.symm)).trans (h.g.ce i a1 a2 a3 a4)⟩, h.k.upd1 u (fun g e' hc => ?_), fun y hy => (h.ke y hy).upd1 u (fun g e' hc => ?_), h.ne, h.m1, h.m2, h.m3⟩
  · refine h.g.e.upd u (fun hc => hn hc.symm) (fun g e' hc => ?_) (fun x hx g e' hc => ?_)
    · have := (h.g.e.o.blk g e').1; have : g = go := hc; omega
    · obtain ⟨a', c', e1, _, _, _, hs⟩ := (h.g.e.ev x hx).1.form
      unfold SV.v at e1 e'
      cases hxa : x.a with
      | none => rw [hxa] at e'; cases e'
      | some z =>
        rw [hxa] at e'
        have hz := (h.m1 x hx z hxa).1
        have e2 : z.block = g := by injection e' 
        have : g = go := hc
        omega
  · refine h.g.c.upd u (fun hc => hn hc.symm) (fun g e' hc => ?_) (fun x hx g e' hc => ?_)
    · have := (h.g.c.o.blk g e').1; have : g = go := hc; omega
    · have hc : g = go := hc
      subst hc
      exact (h.g.c.ev x hx).1.apart own (by decide) g e' e
  · refine h.g.r.upd u (fun hc => hn hc.symm) (fun g e' hc => ?_) (fun x hx g e' hc => ?_)
    · have := (h.g.r.o.blk g e').1; have : g = go := hc; omega
    · have hc : g = go := hc
      subst hc
      exact (h.g.r.ev x hx).1.apart own (by decide) g e' e
  · have := (h.k.blk g e').1; have : g = go := hc; omega
  · have := ((h.ke y hy).blk g e').1; have : g = go := hc; omega
end

end Go.Proofs.Ytdfoafpcoigklaa
