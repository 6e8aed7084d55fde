/-
  Plain facts on lists of marks, further: what loops over them find.
-/
import Derived.Test.YtimlfgjljnkbcaaMarkMath
namespace Go.Proofs.Ytimlfgjljnkbcaa
open Go.RowKit
set_option linter.unusedVariables false

theorem fnd_yes {l : List Mrk} {s : ByteArray} {k : Nat} (hk : k < l.length) (h : ∀ j, j < k → nmB s l[j]! = false) (he : (l[k]!).name = s) : fndM l s = ((l[k]!).p, true) := by
  have e := idx_yes hk h (by unfold nmB; exact decide_eq_true he)
  unfold fndM
  rw [e, if_pos hk]
theorem fnd_no {l : List Mrk} {s : ByteArray} (h : ∀ j, j < l.length → nmB s l[j]! = false) : fndM l s = (0, false) := by
  have e := idx_no h
  unfold fndM
  rw [e, if_neg (Nat.lt_irrefl _)]
theorem ahead_more {l : List Mrk} {f : Mrk → Bool} {k : Nat} (h : ∀ j, j < k → f l[j]! = false) (h2 : f l[k]! = false) : ∀ j, j < k + 1 → f l[j]! = false := fun j hj => by
  rcases Nat.lt_or_ge j k with g | g
  · exact h j g
  · rw [show j = k by omega]; exact h2
theorem rise_more {l : List Mrk} {k : Nat} (h : ∀ i, i + 1 < k + 1 → nleB (l[i + 1]!).name (l[i]!).name = false) (h2 : nleB (l[k + 1]!).name (l[k]!).name = false) : ∀ i, i + 1 < k + 2 → nleB (l[i + 1]!).name (l[i]!).name = false := fun i hi => by
  rcases Nat.lt_or_ge i k with g | g
  · exact h i (by omega)
  · rw [show i = k by omega]; exact h2
theorem same_more {a b : List Mrk} {k : Nat} (h : ∀ j, j < k → a[j]! = b[j]!) (h2 : a[k]! = b[k]!) : ∀ j, j < k + 1 → a[j]! = b[j]! := fun j hj => by
  rcases Nat.lt_or_ge j k with g | g
  · exact h j g
  · rw [show j = k by omega]; exact h2
theorem same_all {a b : List Mrk} (hl : a.length = b.length) (h : ∀ j, j < a.length → a[j]! = b[j]!) : a = b :=
  List.ext_getElem hl fun j h1 h2 => by have := h j h1; rwa [mget h1, mget h2] at this
instance : DecidableEq Mrk := fun x y => if h : x.name = y.name ∧ x.p = y.p then isTrue (by cases x; cases y; simp at h; simp [h]) else isFalse (fun e => h (by rw [e]; exact ⟨rfl, rfl⟩))
theorem mrk_ne {x y : Mrk} (h : ¬ x = y) : ¬ x.name = y.name ∨ (x.name = y.name ∧ ¬ x.p = y.p) := by
  by_cases h1 : x.name = y.name
  · right
    refine ⟨h1, fun h2 => h ?_⟩
    cases x; cases y
    simp at h1 h2
    simp [h1, h2]
  · exact .inl h1
/-- All so far may be there. -/
theorem ok_more {l : List Mrk} {t : ByteArray} {k : Nat} (h : ∀ j, j < k → okM t l[j]! = true) (h2 : okM t l[k]! = true) : ∀ j, j < k + 1 → okM t l[j]! = true := fun j hj => by
  rcases Nat.lt_or_ge j k with g | g
  · exact h j g
  · rw [show j = k by omega]; exact h2
theorem rightM_off {l : List Mrk} {t : ByteArray} {k : Nat} (hk : k < l.length) (h : okM t l[k]! = false) : rightM l t = false := by
  unfold rightM
  rw [allN_no hk h]
  rfl
theorem rightM_end {l : List Mrk} {t : ByteArray} (h : ∀ j, j < l.length → okM t l[j]! = true) : rightM l t = (decide (l.length ≤ 16) && riseM l) := by
  unfold rightM
  rw [allN_iff.2 h]
  rfl
end Go.Proofs.Ytimlfgjljnkbcaa
