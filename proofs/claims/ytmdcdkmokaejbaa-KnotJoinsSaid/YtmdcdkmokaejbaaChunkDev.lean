/-
  Contracts of the program's short, Fits, Half, Tight (layer 15).
-/
import Derived.Test.YtmdcdkmokaejbaaChunkRef2
namespace Go.Proofs.Ytmdcdkmokaejbaa
open Go.RowKit
set_option linter.unusedVariables false

theorem empty_yes {s : ByteArray} (h : s.size = 0) : s = ⟨#[]⟩ := by
  apply str_ext
  rw [List.eq_nil_of_length_eq_zero (l := s.data.toList) (by simpa using h)]
theorem toList_ne {s : ByteArray} (h : 1 ≤ s.size) : (s.toList != []) = true := by
  have e := isEmpty_size s
  rw [decide_eq_false (by omega)] at e
  cases hl : s.toList with
  | nil => rw [hl] at e; cases e
  | cons a l => rfl
theorem toList_isEmpty {s : ByteArray} (h : 1 ≤ s.size) : s.toList.isEmpty = false := by
  rw [isEmpty_size]; exact decide_eq_false (by omega)

set_option maxRecDepth 100000 in
theorem short_yes (s : ByteArray) (h : s.size ≤ 16) (w : World) :
    Calls Try.prog 47 #[.string s] w fun e w' => e = .returned (.bool true) ∧ w = w' := by
  go_enter Try.func47, Try.ntmps47
  go_wp2
  go_ret
  exact ⟨ret_bool (by simp; omega), rfl⟩
set_option maxRecDepth 100000 in
theorem short_no (s : ByteArray) (h : ¬ s.size ≤ 16) (w : World) :
    Calls Try.prog 47 #[.string s] w fun e w' => e = .returned (.bool false) ∧ w = w' := by
  go_enter Try.func47, Try.ntmps47
  go_wp2
  go_ret
  exact ⟨ret_bool (by simp; omega), rfl⟩

set_option maxRecDepth 100000 in
set_option maxHeartbeats 400000 in
theorem fits_any (s : ByteArray) (hs : s.size ≤ maxLen) (w : World) :
    Calls Try.prog 39 #[.string s] w fun e w' => e = .returned (.bool (fitsB s)) ∧ Below w.heap.size w w' := by
  have hv := valid_any s hs
  by_cases h1 : 1 ≤ s.size
  · have t1 := toList_ne h1
    have t2 := toList_isEmpty h1
    by_cases h2 : s.size ≤ 16
    · rw [fits_mid s h1 h2]
      have c1 := short_yes s h2
      obtain ⟨b, hb⟩ : ∃ b, vldB s.data.toList = b := ⟨_, rfl⟩
      rw [hb] at hv ⊢
      have HV := Lib.hid hv; have C1 := Lib.hid c1; clear hv hb c1
      go_enter Try.func39, Try.ntmps39
      go_wp2_with fail
      refine (C1.out _).mono ?_; rintro e w' ⟨rfl, rfl⟩
      go_wp2_with fail
      refine (HV.out _).mono ?_; rintro e w' ⟨rfl, hb1⟩
      go_wp2
      go_ret
      exact ⟨ret_bool (by simp), hb1⟩
    · rw [fits_long s h2]
      have c1 := short_no s h2
      have C1 := Lib.hid c1
      clear hv c1
      go_enter Try.func39, Try.ntmps39
      go_wp2_with fail
      refine (C1.out _).mono ?_; rintro e w' ⟨rfl, rfl⟩
      go_wp2
      go_ret
      exact ⟨ret_bool (by simp), Below.refl _ _⟩
  · rw [fits_short s h1]
    obtain rfl := empty_yes (s := s) (by omega)
    clear hv h1
    go_enter Try.func39, Try.ntmps39
    go_wp2
    go_ret
    exact ⟨ret_bool (by simp), Below.refl _ _⟩

end Go.Proofs.Ytmdcdkmokaejbaa
