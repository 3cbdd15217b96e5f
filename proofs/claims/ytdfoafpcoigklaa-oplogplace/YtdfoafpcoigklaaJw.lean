import Derived.Test.YtdfoafpcoigklaaJg
namespace Go.Proofs.Ytdfoafpcoigklaa
open Go.RowKit Go.Maps
open Classical
set_option linter.unusedVariables false
set_option linter.unusedSimpArgs false

theorem er_or {past : List En} {e : En} (h : ckE e = 0) : er past e = 0 ∨ er past e = 64 := by
  rw [er, if_neg (by simp [h])]
  cases tw past e <;> simp
theorem ckA_or : ∀ (r past : List En), (∀ e ∈ r, ckE e = 0) → (ckA past r).1 = 0 ∨ (ckA past r).1 = 64
  | [], past, _ => Or.inl rfl
  | e :: r, past, h => by
    rw [ckA]
    rcases er_or (past := past) (h e (by simp)) with h1 | h1
    · rw [if_neg (by simp [h1])]
      exact ckA_or r _ (fun x hx => h x (by simp [hx]))
    · rw [if_pos (by rw [h1]; decide)]
      exact Or.inr h1
theorem chk_each {L : List En} {room : Int} (h : (chk L room).1 = 0) : ∀ e ∈ L, ckE e = 0 := fun e he => by
  obtain ⟨i, hi⟩ := List.getElem?_of_mem he
  exact (er_zero (chk_ok h hi)).1
theorem chk_both {L T : List En} {room : Int} (p : Nat) (h : (chk L room).1 = 0) (ht : (chk T room).1 = 0) : (chk (L.take p ++ T) room).1 = 0 ∨ (chk (L.take p ++ T) room).1 = 60 ∨ (chk (L.take p ++ T) room).1 = 64 := by
  obtain ⟨z1, z2, z3, z4⟩ := chk_zero h
  have hr : ¬ (room < 1 ∨ 256 < room) := by omega
  rw [chk, if_neg hr]
  by_cases h2 : room < ((L.take p ++ T).length : Int)
  · rw [if_pos h2]; exact Or.inr (Or.inl rfl)
  · rw [if_neg h2]
    rcases ckA_or (L.take p ++ T) [] (fun e he => by
      rcases List.mem_append.1 he with he | he
      · exact chk_each h e (List.mem_of_mem_take he)
      · exact chk_each ht e he) with h3 | h3
    · exact Or.inl h3
    · exact Or.inr (Or.inr h3)
theorem spE_at {L T : List En} {room : Int} {p : Nat} (h : (chk L room).1 = 0) (hp : p ≤ L.length) : spE L room ((p : Int) + 1) T = (chk (L.take p ++ T) room).1 := by
  have e : ((p : Int) + 1 - 1).toNat = p := by omega
  rw [spE, if_neg (by simp [h]), if_neg (by omega), e]
theorem spL_at {L T : List En} {room : Int} {p : Nat} (h : (chk L room).1 = 0) (hp : p ≤ L.length) : spL L room ((p : Int) + 1) T = if (chk (L.take p ++ T) room).1 = 0 then L.take p ++ T else [] := by
  have e : ((p : Int) + 1 - 1).toNat = p := by omega
  rw [spL, spE_at h hp, e]
theorem begins_take (L : List En) (aa al : Option Addr) (p ll ca cl : Nat) (W : World) (hs : SlY yE W aa p ca (L.take p)) (hl : SlY yE W al ll cl L) (hp : p ≤ ll) (h256 : ll ≤ 256) :
    Calls Try.prog 32 #[.slice aa p ca, .slice al ll cl] W fun e w' => e = .returned (.bool true) ∧ Below W.heap.size W w' := by
  have := beginsO_any _ _ _ _ _ _ _ _ W hs hl (by omega)
  have e : decide (cmn (L.take p) L = (L.take p).length) = true := by
    have h2 := cmn_take L (show p ≤ L.length by rw [hl.len]; exact hp) (Nat.le_refl _)
    rw [List.take_length] at h2
    rw [h2, hs.len, hl.len]
    simp; exact Nat.min_eq_left hp
  rw [e] at this
  exact this
theorem appYwG {α : Type} {Y : Lay α} (K : Y.Ok) (w : World) {ops : Array Oper} {rest : List Oper} {o : Oper} {a : Act} {Q : Exit → Act → World → Prop} (hgd : Region.wanted o (yielded ops a.tmps) = true) (s x : Operand)
    (ho : o.op = .call { callee := .builtin .append, args := #[s, x], argTypes := #[Y.ST, Y.ST] }) (B : Nat) (l : List α) (v : Value) (hs : a.eval s = v)
    (ad : Option Addr) (m c : Nat) (hx : a.eval x = .slice ad m c) (news : List α) (hh : SlY Y w ad m c news) (hown : OwnY Y B w v l) (hB : B ≤ w.heap.size) (hm : l.length + m ≤ maxLen) (hb : ((l.length + m) + (l.length + m) / 4 + 192) * Y.by_ ≤ 281474976710656)
    (hk : ∀ v' w', OwnY Y B w' v' (l ++ news) → w.grownBy w' v.ownBlock → wpList Try.prog ops Q rest (a.put o.dst v') w') : wpList Try.prog ops Q (o :: rest) a w := by
  have h1 : wpList Try.prog ops Q ({ o with guard := none } :: rest) a w := appYw K w rfl s x ho B l v hs ad m c hx news hh hown hB hm hb hk
  have hw2 : Region.wanted { o with guard := none } (yielded ops a.tmps) = true := rfl
  unfold wpList at h1 ⊢
  rw [hgd]
  rw [hw2] at h1
  exact h1

set_option maxRecDepth 100000 in
set_option maxHeartbeats 4000000 in
theorem whole6_walk (R R2 : List En) (a b : Option Addr) (n c n2 c2 : Nat) (k1 k2 : Int) (hk1 : (Lit.int .i64 k1).wf = true) (hk2 : (Lit.int .i64 k2).wf = true) (w : World) (h : SlY yW w a n c R) (h2 : SlY yW w b n2 c2 R2) (hf : ∀ e ∈ R, e.fits) (hf2 : ∀ e ∈ R2, e.fits) :
    Calls Try.prog 11 #[.slice a n c, .slice b n2 c2, .int .i64 k1, .int .i64 k2] w fun e w' => e = .returned (.bool true) ∧ Below w.heap.size w w' := by
  have HK1 := hide hk1
  have HK2 := hide hk2
  have H := hide h
  have HF := hide hf
  have H2 := hide h2
  have HF2 := hide hf2
  clear h hf hk1 hk2 h2 hf2
  go_enter Try.func11, Try.ntmps11
  go_wp2_with fail
  refine (size6_any k1 HK1.out w).mono ?_
  rintro e w0 ⟨rm, rfl, ⟨r0, r1⟩, hw0⟩
  subst hw0
  go_wp2_with fail
  refine (grown_any R a n c rm r0 r1 w0 H.out HF.out).mono ?_
  rintro e w1 ⟨v, L, rfl, o1, hG, b1⟩
  obtain ⟨al, cl, hv0, hlc, hcm, _⟩ := o1.form
  obtain ⟨ll, hll⟩ : ∃ ll, L.length = ll := ⟨_, rfl⟩
  have hl256 := (chk_zero hG.ok).1
  rw [hll] at hv0 hlc hl256
  subst hv0
  have HLL := hide hll
  have O1 := hide o1
  have HG := hide hG
  have HB1 := hide b1
  unfold maxLen at hcm
  clear o1 hll hG H HF b1
  go_wp2_with fail
  refine (grown_any R2 b n2 c2 rm r0 r1 w1 (H2.out.later HB1.out) HF2.out).mono ?_
  rintro e w2 ⟨vt, T, rfl, ot, hGT, b2⟩
  obtain ⟨at_, ct, hvt, htc, htm, _⟩ := ot.form
  obtain ⟨lt, hlt⟩ : ∃ lt, T.length = lt := ⟨_, rfl⟩
  have ht256 := (chk_zero hGT.ok).1
  rw [hlt] at hvt htc ht256
  subst hvt
  have HLT := hide hlt
  have HGT := hide hGT
  unfold maxLen at htm
  have OT := hide ot
  have O2 := hide (O1.out.grow b2)
  have HB2 := hide (HB1.out.trans (b2.mono HB1.out.size))
  clear ot hlt hGT H2 HF2 O1 HB1 b2
  go_wp2_with fail
  refine (works6_any w2).mono ?_
  rintro e w3 ⟨rfl, b3⟩
  have B3 := hide (HB2.out.trans (b3.mono HB2.out.size))
  have SL3 := hide ((O2.out.grow b3).sl' kE)
  have ST3 := hide ((OT.out.grow b3).sl' kE)
  clear O2 OT HB2 b3
  go_wp2_with fail
  refine (within6_any k2 (ll : Int) HK2.out (by omega) (by omega) w3).mono ?_
  rintro e w4 ⟨r2, rfl, ⟨p0, p1⟩, hw4⟩
  subst hw4
  obtain ⟨p, rfl⟩ : ∃ p : Nat, r2 = (p : Int) := ⟨r2.toNat, by omega⟩
  have hp : p ≤ ll := by omega
  clear p0 p1
  have HPL : Hid (p ≤ L.length) := by rw [← HLL.out] at hp; exact hp
  have C1 := cutO_any L al ll cl (p : Int) w4 SL3.out (by omega)
  have e1 : ctE L (p : Int) = 0 := by have := HLL.out; simp [ctE, this]; omega
  have e2 : ctL L (p : Int) = L.take p := by have := HLL.out; simp [ctL, this]; omega
  rw [e1, e2] at C1
  have HC1 := hide C1
  clear C1 e1 e2
  go_wp2_with fail
  refine HC1.out.mono ?_
  rintro e w5 ⟨va, rfl, oa, b5⟩
  obtain ⟨aa, ca, hva, hca1, hca2, _⟩ := oa.form
  have hlp : (L.take p).length = p := by rw [List.length_take, HLL.out]; omega
  rw [hlp] at hva hca1
  subst hva
  have OA5 := hide oa
  have B5 := hide (B3.out.trans (b5.mono B3.out.size))
  have SL5 := hide (SL3.out.later b5)
  have ST5 := hide (ST3.out.later b5)
  have HLP := hide hlp
  unfold maxLen at hca2
  clear oa HC1 SL3 ST3 B3 b5 hlp
  have C1 := tailO_any L al ll cl ((p : Int) + 1) w5 SL5.out (by omega)
  have e1 : tlE L ((p : Int) + 1) = 0 := by have := HLL.out; simp [tlE, this]; omega
  have e2 : tlL L ((p : Int) + 1) = L.drop p := by
    have e : ((p : Int) + 1 - 1).toNat = p := by omega
    rw [tlL, if_neg (by rw [HLL.out]; omega), e]
  rw [e1, e2] at C1
  have HC1 := hide C1
  clear C1 e1 e2
  go_wp2_with fail
  refine HC1.out.mono ?_
  rintro e w6 ⟨vb, rfl, ob, b6⟩
  obtain ⟨ab, cb, hvb, hcb1, hcb2, _⟩ := ob.form
  obtain ⟨lb, hlb⟩ : ∃ lb, (L.drop p).length = lb := ⟨_, rfl⟩
  have hlb2 : lb ≤ 256 := by rw [← hlb, List.length_drop, HLL.out]; omega
  rw [hlb] at hvb hcb1
  subst hvb
  unfold maxLen at hcb2
  have SB6 := hide (ob.sl' kE)
  have SA6 := hide ((OA5.out.grow b6).sl' kE)
  have B6 := hide (B5.out.trans (b6.mono B5.out.size))
  have SL6 := hide (SL5.out.later b6)
  have ST6 := hide (ST5.out.later b6)
  clear ob HC1 SL5 ST5 B5 b6 OA5 hlb
  go_wp2_with fail
  refine (copyent_any aa p ca (L.take p) w6 SA6.out (by omega)).mono ?_
  rintro e w7 ⟨vx, rfl, ox, b7⟩
  have OX := hide ox
  have HB7 := hide b7
  have SB7 := hide (SB6.out.later b7)
  have z7 := hide b7.size
  clear ox b7
  go_wp2_with (at_builtin; go_must (refine appYwG kE _ rfl (.tmp 82) (.tmp 83) rfl w6.heap.size (L.take p) vx rfl ab lb cb rfl (L.drop p) SB7.out OX.out z7.out (by rw [HLP.out]; unfold maxLen; omega) (by rw [HLP.out]; show (_ + _ + 192) * 48 ≤ _; omega) ?_))
  intro v8 w8 o8 g8
  have b8 : Below w6.heap.size w6 w8 := OX.out.grown HB7.out g8 z7.out
  have o8 : OwnY yE w6.heap.size w8 v8 L := by simpa using o8
  obtain ⟨a8, c8, hv8, hc8, hc8m, _⟩ := o8.form
  rw [HLL.out] at hv8 hc8
  subst hv8
  unfold maxLen at hc8m
  have Q8 := o8.sl' kE
  have SL8 := SL6.out.later b8
  have hc := sameents_any L a8 al c8 cl w8 (by rw [HLL.out]; exact Q8) (by rw [HLL.out]; exact SL8)
  rw [HLL.out] at hc
  have HC := hide hc
  have B8 := hide (B6.out.trans (b8.mono B6.out.size))
  have SA8 := hide (SA6.out.later b8)
  have SB8 := hide (SB6.out.later b8)
  have ST8 := hide (ST6.out.later b8)
  have SLL8 := hide SL8
  clear hc o8 g8 b8 Q8 SL8 B6 SA6 SB6 ST6 SL6 OX HB7 SB7 z7
  go_wp2_with fail
  refine HC.out.mono ?_
  rintro e w9 ⟨rfl, n9, rfl⟩
  obtain ⟨w9, hw9⟩ : ∃ w9, w8.drewN n9 = w9 := ⟨_, rfl⟩
  have B9 := hide (belN B8.out n9)
  have SA9 := hide (SA8.out.drewN n9)
  have SB9 := hide (SB8.out.drewN n9)
  have ST9 := hide (ST8.out.drewN n9)
  have SL9 := hide (SLL8.out.drewN n9)
  rw [hw9] at B9 SA9 SB9 ST9 SL9
  rw [hw9]
  clear hw9 B8 SA8 SB8 ST8 SLL8 HC
  go_wp2_with fail
  refine (begins_take L aa al p ll ca cl w9 SA9.out SL9.out hp hl256).mono ?_
  rintro e x1 ⟨rfl, d1⟩
  have B1 := hide (B9.out.trans (d1.mono B9.out.size))
  have SA1 := hide (SA9.out.later d1)
  have SB1 := hide (SB9.out.later d1)
  have ST1 := hide (ST9.out.later d1)
  have SL1 := hide (SL9.out.later d1)
  clear B9 SA9 SB9 ST9 SL9 d1
  obtain ⟨M, hM⟩ : ∃ M, L.take p ++ T = M := ⟨_, rfl⟩
  obtain ⟨E, hE⟩ : ∃ E, (chk M rm).1 = E := ⟨_, rfl⟩
  have HE : Hid (E = 0 ∨ E = 60 ∨ E = 64) := by rw [← hE, ← hM]; exact chk_both p HG.out.ok HGT.out.ok
  have hMf : Hid (∀ e ∈ M, e.fits) := fun e he => by
    rw [← hM] at he
    rcases List.mem_append.1 he with he | he
    · exact HG.out.fit e (List.mem_of_mem_take he)
    · exact HGT.out.fit e he
  have hMl : Hid (M.length = p + lt) := hide (by rw [← hM, List.length_append, HLP.out, HLT.out])
  have C1 := spliceO_any L T al at_ ll cl lt ct rm ((p : Int) + 1) x1 SL1.out ST1.out HG.out.fit HGT.out.fit (by omega)
  rw [spE_at HG.out.ok HPL.out, spL_at HG.out.ok HPL.out, hM, hE] at C1
  have HC1 := hide C1
  have HM := hide hM
  have HEQ := hide hE
  clear C1 hM hE
  go_wp2_with fail
  refine HC1.out.mono ?_
  rintro e x2 ⟨vs, rfl, os, d2⟩
  have OS2 := hide os
  have B2 := hide (B1.out.trans (d2.mono B1.out.size))
  have SA2 := hide (SA1.out.later d2)
  have SB2 := hide (SB1.out.later d2)
  have ST2 := hide (ST1.out.later d2)
  have SL2 := hide (SL1.out.later d2)
  clear B1 SA1 SB1 ST1 SL1 d2 os HC1
  go_wp2_with fail
  refine (copyent_any aa p ca (L.take p) x2 SA2.out (by omega)).mono ?_
  rintro e x3 ⟨vz, rfl, oz, d3⟩
  have OZ := hide oz
  have HD3 := hide d3
  have ST3 := hide (ST2.out.later d3)
  have z3 := hide d3.size
  clear oz d3
  go_wp2_with (at_builtin; go_must (refine appYw kE _ rfl (.tmp 105) (.tmp 106) rfl x2.heap.size (L.take p) vz rfl at_ lt ct rfl T ST3.out OZ.out z3.out (by rw [HLP.out]; unfold maxLen; omega) (by rw [HLP.out]; show (_ + _ + 192) * 48 ≤ _; omega) ?_))
  intro v4 x4 o4 g4
  have d4 : Below x2.heap.size x2 x4 := OZ.out.grown HD3.out g4 z3.out
  rw [HM.out] at o4
  obtain ⟨a4, c4, hv4, hc4, hc4m, _⟩ := o4.form
  rw [hMl.out] at hv4 hc4
  subst hv4
  unfold maxLen at hc4m
  have B4 := hide (B2.out.trans (d4.mono B2.out.size))
  have SB4 := hide (SB2.out.later d4)
  have SL4 := hide (SL2.out.later d4)
  have OS4 := hide (OS2.out.grow d4)
  have SM4 := hide (o4.sl' kE)
  clear o4 g4 d4 B2 SA2 SB2 ST2 SL2 OS2 OZ HD3 ST3 z3
  have C1 := checkO_any M a4 (p + lt) c4 rm x4 SM4.out hMf.out
  rw [HEQ.out] at C1
  generalize (chk M rm).2 = E2 at C1
  have HC1 := hide C1
  clear C1
  go_wp2_with fail
  refine HC1.out.mono ?_
  rintro e x5 ⟨rfl, d5⟩
  have B5 := hide (B4.out.trans (d5.mono B4.out.size))
  have SB5 := hide (SB4.out.later d5)
  have SL5 := hide (SL4.out.later d5)
  have OS5 := hide (OS4.out.grow d5)
  have SM5 := hide (SM4.out.later d5)
  clear B4 SB4 SL4 OS4 SM4 d5 HC1
  rcases HE.out with rfl | rfl | rfl
  · have o5 := OS5.out
    rw [if_pos rfl] at o5
    obtain ⟨as_, cs, hvs, hcs, hcsm, _⟩ := o5.form
    rw [hMl.out] at hvs hcs
    subst hvs
    unfold maxLen at hcsm
    have S5 := hide (o5.sl' kE)
    clear o5 OS5 HE
    have C1 := checkO_any M as_ (p + lt) cs rm x5 S5.out hMf.out
    rw [HEQ.out, chk_snd HEQ.out] at C1
    have HC1 := hide C1
    clear C1
    go_wp2_with fail
    refine HC1.out.mono ?_
    rintro e x6 ⟨rfl, d6⟩
    have B6 := hide (B5.out.trans (d6.mono B5.out.size))
    have SB6 := hide (SB5.out.later d6)
    have SL6 := hide (SL5.out.later d6)
    have S6 := hide (S5.out.later d6)
    have SM6 := hide (SM5.out.later d6)
    clear B5 SB5 SL5 S5 SM5 d6 HC1
    have C1 := spliceO_any M (L.drop p) as_ ab (p + lt) cs lb cb rm ((p : Int) + 1) x6 S6.out SB6.out hMf.out (fun e he => HG.out.fit e (List.mem_of_mem_drop he)) (by omega)
    have hpM : p ≤ M.length := by rw [hMl.out]; omega
    have hq : M.take p ++ L.drop p = L := by
      rw [← HM.out, List.take_append_of_le_length (by rw [HLP.out]; exact Nat.le_refl _), List.take_take, Nat.min_self, List.take_append_drop]
    rw [spE_at HEQ.out hpM, spL_at HEQ.out hpM, hq, HG.out.ok, if_pos rfl] at C1
    have HC1 := hide C1
    clear C1 hpM hq
    go_wp2_with fail
    refine HC1.out.mono ?_
    rintro e x7 ⟨vk, rfl, ok, d7⟩
    obtain ⟨ak, ck, hvk, hck, hckm, _⟩ := ok.form
    rw [HLL.out] at hvk hck
    subst hvk
    unfold maxLen at hckm
    have Q7 := ok.sl' kE
    have B7 := hide (B6.out.trans (d7.mono B6.out.size))
    have hc1 := sameents_any M as_ a4 cs c4 x7 (by rw [hMl.out]; exact S6.out.later d7) (by rw [hMl.out]; exact SM6.out.later d7)
    rw [hMl.out] at hc1
    have SL7 := SL6.out.later d7
    have hc2 := fun j => sameents_any L ak al ck cl (x7.drewN j) (by rw [HLL.out]; exact Q7.drewN j) (by rw [HLL.out]; exact SL7.drewN j)
    rw [HLL.out] at hc2
    have HS1 := hide hc1
    have HS2 := hide hc2
    clear hc1 hc2 SL7 Q7 ok d7 B6 SB6 SL6 S6 SM6 HC1
    go_wp2_with fail
    refine HS1.out.mono ?_
    rintro e x8 ⟨rfl, n8, rfl⟩
    go_wp2_with fail
    refine (HS2.out n8).mono ?_
    rintro e x9 ⟨rfl, n9', rfl⟩
    go_wp2
    go_ret
    exact ⟨rfl, belN B7.out (n8 + n9')⟩
  · have o5 := OS5.out
    rw [if_neg (by decide)] at o5
    obtain ⟨as_, cs, hvs, hcs, hcsm, _⟩ := o5.form
    subst hvs
    unfold maxLen at hcsm
    clear o5 OS5 HE
    go_wp2
    go_ret
    exact ⟨rfl, B5.out⟩
  · have o5 := OS5.out
    rw [if_neg (by decide)] at o5
    obtain ⟨as_, cs, hvs, hcs, hcsm, _⟩ := o5.form
    subst hvs
    unfold maxLen at hcsm
    clear o5 OS5 HE
    go_wp2
    go_ret
    exact ⟨rfl, B5.out⟩
theorem whole6_came (a : Option Addr) (len cap : Nat) (b : Option Addr) (len2 cap2 : Nat) (k1 k2 : Int) (W : World) (h : CameR W a len cap) (h2 : CameR W b len2 cap2) (hk1 : (Lit.int .i64 k1).wf = true) (hk2 : (Lit.int .i64 k2).wf = true) :
    Calls Try.prog 11 #[.slice a len cap, .slice b len2 cap2, .int .i64 k1, .int .i64 k2] W fun e w' => e = .returned (.bool true) ∧ Below W.heap.size W w' := by
  obtain ⟨P, hs, hf, hm⟩ := h
  obtain ⟨P2, hs2, hf2, hm2⟩ := h2
  exact whole6_walk P P2 a b len cap len2 cap2 k1 k2 hk1 hk2 W hs hs2 hf hf2

end Go.Proofs.Ytdfoafpcoigklaa
