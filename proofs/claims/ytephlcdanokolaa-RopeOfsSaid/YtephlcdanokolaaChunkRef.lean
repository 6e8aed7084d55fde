/-
  Contracts of the document's Fits, Half, Texts, Whole, Join (layer 15).
-/
import Derived.Test.YtephlcdanokolaaChunkMath
import Derived.Test.YtephlcdanokolaaStrs
import Derived.Test.YtephlcdanokolaaBlk
import Derived.Deep.QuietTactic
import Derived.BigQuiet
namespace Go.Proofs.Ytephlcdanokolaa
open Go.RowKit
set_option linter.unusedVariables false

theorem fits_short (s : ByteArray) (h : ¬ 1 ≤ s.size) : fitsB s = false := by unfold fitsB; rw [decide_eq_false h]; rfl
theorem fits_long (s : ByteArray) (h : ¬ s.size ≤ 16) : fitsB s = false := by unfold fitsB; rw [decide_eq_false h, Bool.false_and, Bool.and_false]
theorem fits_mid (s : ByteArray) (h1 : 1 ≤ s.size) (h2 : s.size ≤ 16) : fitsB s = vldB s.data.toList := by unfold fitsB; rw [decide_eq_true h1, decide_eq_true h2]; rfl

theorem wholeF_mono (L : List ByteArray) : ∀ p : ByteArray, p.size ≤ (L.foldl (· ++ ·) p).size := by
  induction L with
  | nil => intro p; exact Nat.le_refl _
  | cons x L ih => intro p; have := ih (p ++ x); rw [ByteArray.size_append] at this; rw [List.foldl_cons]; omega
theorem whole_take_size (L : List ByteArray) (k : Nat) : (wholeL (L.take k)).size ≤ (wholeL L).size := by
  have e : wholeL L = (L.drop k).foldl (· ++ ·) (wholeL (L.take k)) := by
    unfold wholeL
    rw [← List.foldl_append, List.take_append_drop]
  rw [e]; exact wholeF_mono _ _

end Go.Proofs.Ytephlcdanokolaa
