/-
  What a range over a text tells at a place: the rune that stands there and its number of bytes, or U+FFFD and 1.
-/
import Derived.Test.YthboipmlkgmofaaUtfBack
namespace Go.Proofs.Ythboipmlkgmofaa
open Go.RowKit

theorem get_bt (s : ByteArray) (i : Nat) : (s.get! i).toNat = bt s.data.toList i := by
  by_cases h : i < s.size
  · rw [bt_get s i h]; simp [ByteArray.get!, getElem!_pos, h]; rfl
  · rw [bt_of_le _ _ (by simp; omega)]
    have : s.get! i = 0 := by
      show s.data[i]! = 0
      rw [getElem!_neg s.data i (by simpa using h)]; rfl
    rw [this]; rfl

theorem decode_tk (s : ByteArray) (i : Nat) (h : i < s.size) :
    Utf8.decode s i = if (tkl (s.data.toList.drop i)).2 = 0 then (65533, 1) else tkl (s.data.toList.drop i) := by
  rw [tkl_drop _ i (by simpa using h)]
  have c : ∀ k, (decide (i + k < s.size) && bt s.data.toList (i + k) / 64 == 2) = decide (128 ≤ bt s.data.toList (i + k) ∧ bt s.data.toList (i + k) ≤ 191) := by
    intro k
    by_cases hk : i + k < s.size
    · rw [decide_eq_true hk, Bool.true_and, Bool.eq_iff_iff]; simp; omega
    · rw [decide_eq_false hk, Bool.false_and, bt_of_le _ _ (by simp; omega)]; rfl
  simp only [Utf8.decode, get_bt, c, Nat.add_zero]
  generalize bt s.data.toList i = b0
  rw [show i + 1 + 1 = i + 2 from rfl, show i + 1 + 2 = i + 3 from rfl]
  generalize bt s.data.toList (i + 1) = b1
  generalize bt s.data.toList (i + 2) = b2
  generalize bt s.data.toList (i + 3) = b3
  by_cases h1 : b0 < 128
  · have T : tk b0 b1 b2 b3 = (b0, 1) := by unfold tk; rw [if_pos h1]
    rw [if_pos h1, T]; rfl
  rw [if_neg h1]
  by_cases h2 : b0 / 32 = 6 ∧ 128 ≤ b1 ∧ b1 ≤ 191
  · rw [if_pos (by simp; omega)]
    by_cases h3 : 128 ≤ b0 % 32 * 64 + b1 % 64
    · have T : tk b0 b1 b2 b3 = ((b0 - 192) * 64 + (b1 - 128), 2) := by unfold tk; rw [if_neg h1, if_pos (by omega)]
      rw [if_pos h3, T, if_neg (by simp)]
      simp only [Prod.mk.injEq, and_true]; omega
    · have T : tk b0 b1 b2 b3 = (0, 0) := by unfold tk; rw [if_neg h1, if_neg (by omega), if_neg (by omega), if_neg (by omega)]
      rw [if_neg h3, T]; rfl
  rw [if_neg (by simp; omega)]
  by_cases h4 : b0 / 16 = 14 ∧ (128 ≤ b1 ∧ b1 ≤ 191) ∧ 128 ≤ b2 ∧ b2 ≤ 191
  · rw [if_pos (by simp; omega)]
    have E : b0 % 16 * 4096 + b1 % 64 * 64 + b2 % 64 = (b0 - 224) * 4096 + (b1 - 128) * 64 + (b2 - 128) := by omega
    rw [E]
    by_cases h5 : (b0 = 224 → 160 ≤ b1) ∧ (b0 = 237 → b1 < 160)
    · have T : tk b0 b1 b2 b3 = ((b0 - 224) * 4096 + (b1 - 128) * 64 + (b2 - 128), 3) := by unfold tk; rw [if_neg h1, if_neg (by omega), if_pos (by omega)]
      rw [if_pos (by simp [Utf8.valid]; omega), T, if_neg (by simp)]
    · have T : tk b0 b1 b2 b3 = (0, 0) := by unfold tk; rw [if_neg h1, if_neg (by omega), if_neg (by omega), if_neg (by omega)]
      rw [if_neg (by simp [Utf8.valid]; omega), T]; rfl
  rw [if_neg (by simp; omega)]
  by_cases h6 : b0 / 8 = 30 ∧ (128 ≤ b1 ∧ b1 ≤ 191) ∧ (128 ≤ b2 ∧ b2 ≤ 191) ∧ 128 ≤ b3 ∧ b3 ≤ 191
  · rw [if_pos (by simp; omega)]
    have E : b0 % 8 * 262144 + b1 % 64 * 4096 + b2 % 64 * 64 + b3 % 64 = (b0 - 240) * 262144 + (b1 - 128) * 4096 + (b2 - 128) * 64 + (b3 - 128) := by omega
    rw [E]
    by_cases h5 : b0 < 245 ∧ (b0 = 240 → 144 ≤ b1) ∧ (b0 = 244 → b1 < 144)
    · have T : tk b0 b1 b2 b3 = ((b0 - 240) * 262144 + (b1 - 128) * 4096 + (b2 - 128) * 64 + (b3 - 128), 4) := by unfold tk; rw [if_neg h1, if_neg (by omega), if_neg (by omega), if_pos (by omega)]
      rw [if_pos (by simp [Utf8.valid]; omega), T, if_neg (by simp)]
    · have T : tk b0 b1 b2 b3 = (0, 0) := by unfold tk; rw [if_neg h1, if_neg (by omega), if_neg (by omega), if_neg (by omega)]
      rw [if_neg (by simp [Utf8.valid]; omega), T]; rfl
  · have T : tk b0 b1 b2 b3 = (0, 0) := by unfold tk; rw [if_neg h1, if_neg (by omega), if_neg (by omega), if_neg (by omega)]
    rw [if_neg (by simp; omega), T]; rfl
end Go.Proofs.Ythboipmlkgmofaa
