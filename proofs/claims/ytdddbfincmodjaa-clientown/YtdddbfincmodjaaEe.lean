import Derived.Test.YtdddbfincmodjaaEd
import Derived.Test.YtdddbfincmodjaaDo
namespace Go.Proofs.Ytdddbfincmodjaa
open Go.RowKit Go.Maps
open Classical
set_option linter.unusedVariables false
set_option linter.unusedSimpArgs false

theorem tbl_le (L : List En) (k : Int) : (tbl L k).length ≤ 16 := by
  unfold tbl
  split
  · exact tb_length_le _ _ _
  · simp
theorem btw_le (L : List En) : (btw L 0 (L.length : Int)).length ≤ 256 := by
  unfold btw
  rw [ckB_len]
  split
  · rename_i h
    have := (lg_zero h).1
    rw [List.length_drop, List.length_take, rws_length]
    omega
  · simp
theorem Upd.trans2 {S T : Nat → Prop} {a b c : World} (h : Upd S a b) (k : Upd T b c) (hs : ∀ i, i < a.heap.size → T i → S i) : Upd S a c :=
  ⟨k.os.trans h.os, k.tape.trans h.tape, k.output.trans h.output, Nat.le_trans h.size k.size, fun i hi hn => (k.block i (Nat.lt_of_lt_of_le hi h.size) (fun ht => hn (hs i hi ht))).trans (h.block i hi hn)⟩

end Go.Proofs.Ytdddbfincmodjaa
