/-
  Contracts of the document's Fits, Half, Texts, Whole, Join (layer 15).
-/
import Derived.Test.YtlakebdldcnniaaChunkMath
import Derived.Test.YtlakebdldcnniaaStrs
import Derived.Test.YtlakebdldcnniaaBlk
import Derived.Deep.QuietTactic
import Derived.BigQuiet
namespace Go.Proofs.Ytlakebdldcnniaa
open Go.RowKit
set_option linter.unusedVariables false

theorem fits_short (s : ByteArray) (h : ¬ 1 ≤ s.size) : fitsB s = false := by unfold fitsB; rw [decide_eq_false h]; rfl
theorem fits_long (s : ByteArray) (h : ¬ s.size ≤ 16) : fitsB s = false := by unfold fitsB; rw [decide_eq_false h, Bool.false_and, Bool.and_false]
theorem fits_mid (s : ByteArray) (h1 : 1 ≤ s.size) (h2 : s.size ≤ 16) : fitsB s = vldB s.data.toList := by unfold fitsB; rw [decide_eq_true h1, decide_eq_true h2]; rfl

set_option maxRecDepth 100000 in
set_option maxHeartbeats 400000 in
theorem rfits_any (s : ByteArray) (hs : s.size ≤ 4294967296) (w : World) :
    Calls Try.prog 50 #[.string s] w fun e w' => e = .returned (.bool (fitsB s)) ∧ Below w.heap.size w w' := by
  have hv := rvalid_any s hs
  by_cases h1 : 1 ≤ s.size
  · by_cases h2 : s.size ≤ 16
    · rw [fits_mid s h1 h2]
      obtain ⟨b, hb⟩ : ∃ b, vldB s.data.toList = b := ⟨_, rfl⟩
      rw [hb] at hv ⊢
      have HV := Lib.hid hv; clear hv hb
      go_enter Try.func50, Try.ntmps50
      go_wp2_with fail
      refine (HV.out _).mono ?_; rintro e w' ⟨rfl, hb1⟩
      go_wp2
      go_ret
      exact ⟨ret_bool (by simp), hb1⟩
    · rw [fits_long s h2]
      clear hv
      go_enter Try.func50, Try.ntmps50
      go_wp2
      go_ret
      exact ⟨ret_bool (by simp), Below.refl _ _⟩
  · rw [fits_short s h1]
    clear hv
    go_enter Try.func50, Try.ntmps50
    go_wp2
    go_ret
    exact ⟨ret_bool (by simp), Below.refl _ _⟩

theorem wholeF_mono (L : List ByteArray) : ∀ p : ByteArray, p.size ≤ (L.foldl (· ++ ·) p).size := by
  induction L with
  | nil => intro p; exact Nat.le_refl _
  | cons x L ih => intro p; have := ih (p ++ x); rw [ByteArray.size_append] at this; rw [List.foldl_cons]; omega
theorem whole_take_size (L : List ByteArray) (k : Nat) : (wholeL (L.take k)).size ≤ (wholeL L).size := by
  have e : wholeL L = (L.drop k).foldl (· ++ ·) (wholeL (L.take k)) := by
    unfold wholeL
    rw [← List.foldl_append, List.take_append_drop]
  rw [e]; exact wholeF_mono _ _

end Go.Proofs.Ytlakebdldcnniaa
