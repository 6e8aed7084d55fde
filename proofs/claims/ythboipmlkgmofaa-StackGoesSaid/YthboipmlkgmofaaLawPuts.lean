/-
  The walk of the law UtfPuts: any number's bytes, and what is taken of these, are what the page says.
-/
import Derived.Test.YthboipmlkgmofaaUtfLives
namespace Go.Proofs.Ythboipmlkgmofaa
open Go.RowKit

theorem tkl_nums (x : Int) (xs : List Int) : tkl (strOfNums (x :: xs)).data.toList = tk (bt (strOfNums (x :: xs)).data.toList 0) (bt (strOfNums (x :: xs)).data.toList 1) (bt (strOfNums (x :: xs)).data.toList 2) (bt (strOfNums (x :: xs)).data.toList 3) := by
  unfold tkl; rw [if_neg (by simp [strOfNums])]

/-- What is put is taken, and has its own number of bytes. -/
theorem put_takes (c : Int) (h : sz c ≠ 0) : 0 ≤ c ∧ tkl (putS c).data.toList = (c.toNat, sz c) ∧ (putS c).size = sz c := by
  by_cases hb : c < 0 ∨ 1114111 < c ∨ (55296 ≤ c ∧ c ≤ 57343)
  · exact absurd (by unfold sz; rw [if_pos hb]) h
  refine ⟨by omega, ?_⟩
  by_cases h1 : c < 128
  · have hs : sz c = 1 := by unfold sz; rw [if_neg hb, if_pos h1]
    rw [hs, putS_1 c (by omega) h1, tkl_nums, size_nums, bt_nums _ 0 (by simp)]
    refine ⟨?_, rfl⟩
    simp only [List.getD_cons_zero]
    unfold tk; rw [if_pos (by omega)]; simp only [Prod.mk.injEq, and_true]; omega
  by_cases h2 : c < 2048
  · have hs : sz c = 2 := by unfold sz; rw [if_neg hb, if_neg h1, if_pos h2]
    rw [hs, putS_2 c (by omega) h2, tkl_nums, size_nums, bt_nums _ 0 (by simp), bt_nums _ 1 (by simp)]
    refine ⟨?_, rfl⟩
    simp only [List.getD_cons_zero, List.getD_cons_succ]
    unfold tk; rw [if_neg (by omega), if_pos (by omega)]; simp only [Prod.mk.injEq, and_true]; omega
  by_cases h3 : c < 65536
  · have hs : sz c = 3 := by unfold sz; rw [if_neg hb, if_neg h1, if_neg h2, if_pos h3]
    rw [hs, putS_3 c (by omega) h3 (by omega), tkl_nums, size_nums, bt_nums _ 0 (by simp), bt_nums _ 1 (by simp), bt_nums _ 2 (by simp)]
    refine ⟨?_, rfl⟩
    simp only [List.getD_cons_zero, List.getD_cons_succ]
    unfold tk; rw [if_neg (by omega), if_neg (by omega), if_pos (by omega)]; simp only [Prod.mk.injEq, and_true]; omega
  · have hs : sz c = 4 := by unfold sz; rw [if_neg hb, if_neg h1, if_neg h2, if_neg h3]
    rw [hs, putS_4 c (by omega) (by omega), tkl_nums, size_nums, bt_nums _ 0 (by simp), bt_nums _ 1 (by simp), bt_nums _ 2 (by simp), bt_nums _ 3 (by simp)]
    refine ⟨?_, rfl⟩
    simp only [List.getD_cons_zero, List.getD_cons_succ]
    unfold tk; rw [if_neg (by omega), if_neg (by omega), if_neg (by omega), if_pos (by omega)]; simp only [Prod.mk.injEq, and_true]; omega

end Go.Proofs.Ythboipmlkgmofaa
