/-
  Plain facts on what the program's Read does: how a name begins, and what is given of what is told.
-/
import Derived.Test.YtfbocmmdkhnaoaaTitleMath
import Derived.Lib.Bytealg
namespace Go.Proofs.Ytfbocmmdkhnaoaa
open Go.RowKit

/-- What stands ahead of the first '-' and behind it. -/
def cutL : List UInt8 → List UInt8 × List UInt8 × Bool
  | [] => ([], [], false)
  | c :: l => if (c == 45) = true then ([], l, true) else (c :: (cutL l).1, (cutL l).2.1, (cutL l).2.2)
theorem cutL_miss (l : List UInt8) (h : Lib.indexByte l 45 < 0) : cutL l = (l, [], false) := by
  induction l with
  | nil => rfl
  | cons c l ih =>
    have hge := Lib.indexByte_ge l 45
    unfold Lib.indexByte at h
    unfold cutL
    by_cases hc : (c == 45) = true
    · rw [if_pos hc] at h; omega
    · rw [if_neg hc] at h ⊢
      by_cases h1 : (Lib.indexByte l 45 == -1) = true
      · have h2 := beq_iff_eq.1 h1
        rw [ih (by omega)]
      · rw [if_neg h1] at h; omega
theorem cutL_hit (l : List UInt8) (i : Nat) (h : Lib.indexByte l 45 = i) : cutL l = (l.take i, l.drop (i + 1), true) ∧ i < l.length := by
  induction l generalizing i with
  | nil => unfold Lib.indexByte at h; omega
  | cons c l ih =>
    have hge := Lib.indexByte_ge l 45
    unfold Lib.indexByte at h
    unfold cutL
    by_cases hc : (c == 45) = true
    · rw [if_pos hc] at h ⊢
      obtain rfl : i = 0 := by omega
      exact ⟨rfl, by simp⟩
    · rw [if_neg hc] at h ⊢
      by_cases h1 : (Lib.indexByte l 45 == -1) = true
      · rw [if_pos h1] at h; omega
      · rw [if_neg h1] at h
        have h2 : Lib.indexByte l 45 ≠ -1 := fun e => h1 (beq_iff_eq.2 e)
        obtain ⟨j, rfl⟩ : ∃ j, i = j + 1 := ⟨i - 1, by omega⟩
        obtain ⟨e, hl⟩ := ih j (by omega)
        rw [e]
        exact ⟨rfl, by simp; omega⟩
theorem cutL_le (l : List UInt8) : (cutL l).1.length ≤ l.length ∧ (cutL l).2.1.length ≤ l.length := by
  induction l with
  | nil => simp [cutL]
  | cons c l ih =>
    unfold cutL
    split
    · simp
    · simp; omega
theorem cutL_at (a b : List UInt8) (h : allDig a = true) : cutL (a ++ [45] ++ b) = (a, b, true) := by
  induction a with
  | nil => rfl
  | cons c l ih =>
    unfold allDig at h ih
    rw [List.all_cons, Bool.and_eq_true] at h
    have hc : (c == 45) = false := by
      rw [beq_eq_false_iff_ne]
      rintro rfl
      have h1 := h.1
      simp at h1
    show cutL (c :: (l ++ [45] ++ b)) = _
    unfold cutL
    rw [ih h.2, hc]
    rfl

/-- What each kind's names begin with. -/
def headL : Nat → List UInt8
  | 1 => [99, 104, 101, 99, 107, 45]
  | 2 => [108, 111, 103, 45]
  | 3 => [116, 109, 112, 45]
  | 4 => [120, 45]
  | _ => []
/-- Of which kind a name may be, and what stands behind its head. -/
def begK (l : List UInt8) : Nat :=
  if Lib.hasPrefix l (headL 1) = true then 1 else if Lib.hasPrefix l (headL 2) = true then 2 else if Lib.hasPrefix l (headL 3) = true then 3 else if Lib.hasPrefix l (headL 4) = true then 4 else 0
def begR (l : List UInt8) : List UInt8 := l.drop (headL (begK l)).length
theorem pre_iff (l p : List UInt8) (h : Lib.hasPrefix l p = true) : l = p ++ l.drop p.length := by
  unfold Lib.hasPrefix at h
  obtain ⟨r, rfl⟩ := List.isPrefixOf_iff_prefix.1 h
  simp
theorem pre_app (p r : List UInt8) : Lib.hasPrefix (p ++ r) p = true := by
  unfold Lib.hasPrefix
  exact List.isPrefixOf_iff_prefix.2 ⟨r, rfl⟩
/-- The first kind by whose head it begins. -/
theorem begK_first (l : List UInt8) (k : Nat) (h1 : 1 ≤ k) (h4 : k ≤ 4) (hn : ∀ j, 1 ≤ j → j < k → Lib.hasPrefix l (headL j) = false) (h : Lib.hasPrefix l (headL k) = true) : begK l = k := by
  unfold begK
  rcases (show k = 1 ∨ k = 2 ∨ k = 3 ∨ k = 4 by omega) with rfl | rfl | rfl | rfl
  · rw [if_pos h]
  · rw [if_neg (by rw [hn 1 (by omega) (by omega)]; simp), if_pos h]
  · rw [if_neg (by rw [hn 1 (by omega) (by omega)]; simp), if_neg (by rw [hn 2 (by omega) (by omega)]; simp), if_pos h]
  · rw [if_neg (by rw [hn 1 (by omega) (by omega)]; simp), if_neg (by rw [hn 2 (by omega) (by omega)]; simp), if_neg (by rw [hn 3 (by omega) (by omega)]; simp), if_pos h]
theorem begK_none (l : List UInt8) (hn : ∀ j, 1 ≤ j → j < 5 → Lib.hasPrefix l (headL j) = false) : begK l = 0 := by
  unfold begK
  rw [if_neg (by rw [hn 1 (by omega) (by omega)]; simp), if_neg (by rw [hn 2 (by omega) (by omega)]; simp), if_neg (by rw [hn 3 (by omega) (by omega)]; simp), if_neg (by rw [hn 4 (by omega) (by omega)]; simp)]
theorem begR_0 (l : List UInt8) (h : begK l = 0) : begR l = l := by unfold begR; rw [h]; rfl
theorem beg_le (l : List UInt8) : begK l ≤ 4 := by
  unfold begK
  repeat' split
  all_goals omega
theorem beg_is (l : List UInt8) (k : Nat) (h : begK l = k) : l = headL k ++ begR l := by
  subst h
  unfold begR
  unfold begK
  split
  · rename_i h; exact pre_iff _ _ h
  · split
    · rename_i h; exact pre_iff _ _ h
    · split
      · rename_i h; exact pre_iff _ _ h
      · split
        · rename_i h; exact pre_iff _ _ h
        · rfl
theorem beg_of (k : Nat) (h1 : 1 ≤ k) (h4 : k ≤ 4) (r : List UInt8) : begK (headL k ++ r) = k := by
  refine begK_first _ k h1 h4 (fun j hj hk => ?_) (pre_app _ _)
  rcases (show (k = 2 ∧ j = 1) ∨ (k = 3 ∧ j = 1) ∨ (k = 3 ∧ j = 2) ∨ (k = 4 ∧ j = 1) ∨ (k = 4 ∧ j = 2) ∨ (k = 4 ∧ j = 3) by omega) with h | h | h | h | h | h <;> obtain ⟨rfl, rfl⟩ := h <;> rfl

theorem offC_is (e : Int) (l : List UInt8) (h : offC e = l) (hl : l ≠ []) : l = headL 1 ++ digitsI e 6 ∧ digitsI e 6 ≠ [] := by
  unfold offC at h
  split at h
  · exact absurd h.symm hl
  · rename_i hd; exact ⟨h.symm, hd⟩
theorem offL_is (e p : Int) (l : List UInt8) (h : offL e p = l) (hl : l ≠ []) : l = headL 2 ++ (digitsI e 6 ++ [45] ++ digitsI p 4) ∧ digitsI e 6 ≠ [] ∧ digitsI p 4 ≠ [] := by
  unfold offL at h
  split at h
  · exact absurd h.symm hl
  · rename_i hd
    rw [not_or] at hd
    refine ⟨?_, hd.1, hd.2⟩
    rw [← h]
    simp [headL]
theorem offX_is (n l : List UInt8) (h : offX n = l) (hl : l ≠ []) : l = headL 4 ++ n := by
  unfold offX at h
  split at h
  · exact h.symm
  · exact absurd h.symm hl
theorem readT_3 (l : List UInt8) (h : (readT l).k = 3) : condC l := by
  by_cases a : condA l
  · rw [readT_A l a] at h; simp at h
  by_cases b : condB l
  · rw [readT_B l a b] at h; simp at h
  by_cases c : condC l
  · exact c
  by_cases d : condD l
  · rw [readT_D l a b c d] at h; simp at h
  · rw [readT_E l a b c d] at h; simp at h
theorem readT_0 (l : List UInt8) (h1 : (readT l).k ≠ 1) (h2 : (readT l).k ≠ 2) (h3 : (readT l).k ≠ 3) (h4 : (readT l).k ≠ 4) : readT l = ⟨0, 0, 0, []⟩ := by
  obtain ⟨_, _, _, hz, hk⟩ := read_is l
  obtain ⟨he, hp, hn⟩ := hz h1 h2 h4
  have hk0 : (readT l).k = 0 := by omega
  generalize readT l = t at *
  cases t
  simp_all
theorem dropLen (a b : List UInt8) : (a ++ b).drop a.length = b := by simp
theorem readT_nil : readT [] = ⟨0, 0, 0, []⟩ := by
  refine readT_0 _ (fun h => ?_) (fun h => ?_) (fun h => ?_) (fun h => ?_)
  · have g := (read_is []).1 h
    unfold offC at g; split at g
    · rename_i hd
      have : condA [] := by
        by_cases a : condA []
        · exact a
        by_cases b : condB []
        · rw [readT_B _ a b] at h; simp at h
        by_cases c : condC []
        · rw [readT_C _ a b c] at h; simp at h
        by_cases d : condD []
        · rw [readT_D _ a b c d] at h; simp at h
        · rw [readT_E _ a b c d] at h; simp at h
      unfold condA at this; simp at this
    · simp at g
  · by_cases a : condA []
    · unfold condA at a; simp at a
    by_cases b : condB []
    · unfold condB at b; simp at b
    by_cases c : condC []
    · unfold condC at c; simp at c
    by_cases d : condD []
    · unfold condD at d; simp at d
    · rw [readT_E _ a b c d] at h; simp at h
  · have := (readT_3 _ h).1
    simp at this
  · by_cases a : condA []
    · unfold condA at a; simp at a
    by_cases b : condB []
    · unfold condB at b; simp at b
    by_cases c : condC []
    · unfold condC at c; simp at c
    by_cases d : condD []
    · unfold condD at d; simp at d
    · rw [readT_E _ a b c d] at h; simp at h
/-- A name of which more is read than nothing begins as its kind's do. -/
theorem read_beg (l : List UInt8) (k : Nat) (hl : l ≠ []) (h : (readT l).k = k) (h1 : 1 ≤ k) : begK l = k := by
  obtain ⟨r1, r2, r4, _, hk4⟩ := read_is l
  rcases (show k = 1 ∨ k = 2 ∨ k = 3 ∨ k = 4 by omega) with rfl | rfl | rfl | rfl
  · rw [(offC_is _ _ (r1 h) hl).1]; exact beg_of 1 (by omega) (by omega) _
  · rw [(offL_is _ _ _ (r2 h) hl).1]; exact beg_of 2 (by omega) (by omega) _
  · have h3 := (readT_3 _ h).1
    have e : l = headL 3 ++ l.drop 4 := by
      show l = [116, 109, 112, 45] ++ _
      rw [← h3]; exact (List.take_append_drop _ _).symm
    rw [e]; exact beg_of 3 (by omega) (by omega) _
  · rw [offX_is _ _ (r4 h) hl]; exact beg_of 4 (by omega) (by omega) _
theorem read_none (l : List UInt8) (h : begK l = 0) : readT l = ⟨0, 0, 0, []⟩ := by
  by_cases hl : l = []
  · rw [hl]; exact readT_nil
  · refine readT_0 _ (fun g => ?_) (fun g => ?_) (fun g => ?_) (fun g => ?_)
    all_goals
      have := read_beg l _ hl g (by omega)
      omega
theorem ne_of_beg (l : List UInt8) (k : Nat) (h1 : 1 ≤ k) (h : begK l = k) : l ≠ [] := by
  rintro rfl
  have : begK [] = 0 := rfl
  omega
/-- A checkpoint's name. -/
theorem read_1 (l : List UInt8) (h : begK l = 1) :
    (offC ((parseI (begR l)).1 : Nat) = l → readT l = ⟨1, (parseI (begR l)).1, 0, []⟩) ∧ (offC ((parseI (begR l)).1 : Nat) ≠ l → readT l = ⟨0, 0, 0, []⟩) := by
  have hl := ne_of_beg l 1 (by omega) h
  constructor
  · intro e
    have := (read_check ((parseI (begR l)).1 : Nat) (by rw [e]; exact hl)).2.1
    rw [e] at this
    simpa using this
  · intro hne
    refine readT_0 _ (fun g => ?_) (fun g => ?_) (fun g => ?_) (fun g => ?_)
    · have e := (read_is l).1 g
      obtain ⟨e1, e2⟩ := offC_is _ _ e hl
      refine hne ?_
      have er : begR l = digitsI ((readT l).e : Nat) 6 := by unfold begR; rw [h]; exact (congrArg (fun x => x.drop (headL 1).length) e1).trans (dropLen _ _)
      rw [er, (parse_digits _ _ e2).1]
      simpa using e
    all_goals
      have := read_beg l _ hl g (by omega)
      omega
/-- A log's name. -/
theorem read_2 (l : List UInt8) (h : begK l = 2) :
    (offL ((parseI (cutL (begR l)).1).1 : Nat) ((parseI (cutL (begR l)).2.1).1 : Nat) = l → readT l = ⟨2, (parseI (cutL (begR l)).1).1, (parseI (cutL (begR l)).2.1).1, []⟩) ∧
    (offL ((parseI (cutL (begR l)).1).1 : Nat) ((parseI (cutL (begR l)).2.1).1 : Nat) ≠ l → readT l = ⟨0, 0, 0, []⟩) := by
  have hl := ne_of_beg l 2 (by omega) h
  constructor
  · intro e
    have := (read_log ((parseI (cutL (begR l)).1).1 : Nat) ((parseI (cutL (begR l)).2.1).1 : Nat) (by rw [e]; exact hl)).2.1
    rw [e] at this
    simpa using this
  · intro hne
    refine readT_0 _ (fun g => ?_) (fun g => ?_) (fun g => ?_) (fun g => ?_)
    · have := read_beg l _ hl g (by omega); omega
    · have e := (read_is l).2.1 g
      obtain ⟨e1, e2, e3⟩ := offL_is _ _ _ e hl
      refine hne ?_
      have er : begR l = digitsI ((readT l).e : Nat) 6 ++ [45] ++ digitsI ((readT l).p : Nat) 4 := by unfold begR; rw [h]; exact (congrArg (fun x => x.drop (headL 2).length) e1).trans (dropLen _ _)
      rw [er, cutL_at _ _ (allDig_digits _ _)]
      simp only
      rw [(parse_digits _ _ e2).1, (parse_digits _ _ e3).1]
      simpa using e
    all_goals
      have := read_beg l _ hl g (by omega)
      omega
/-- A file of the while. -/
theorem read_3 (l : List UInt8) (h : begK l = 3) : (mayB l = true → readT l = ⟨3, 0, 0, []⟩) ∧ (mayB l = false → readT l = ⟨0, 0, 0, []⟩) := by
  have hl := ne_of_beg l 3 (by omega) h
  have e := beg_is l 3 h
  constructor
  · intro hm
    have hc : condC l := ⟨by rw [e]; rfl, hm⟩
    by_cases a : condA l
    · have := read_beg l 1 hl (by rw [readT_A l a]) (by omega); omega
    by_cases b : condB l
    · have := read_beg l 2 hl (by rw [readT_B l a b]) (by omega); omega
    exact readT_C l a b hc
  · intro hm
    refine readT_0 _ (fun g => ?_) (fun g => ?_) (fun g => ?_) (fun g => ?_)
    · have := read_beg l _ hl g (by omega); omega
    · have := read_beg l _ hl g (by omega); omega
    · have := (readT_3 _ g).2; rw [hm] at this; cases this
    · have := read_beg l _ hl g (by omega); omega
/-- A saved file's name. -/
theorem read_4 (l : List UInt8) (h : begK l = 4) : (offX (begR l) = l → readT l = ⟨4, 0, 0, begR l⟩) ∧ (offX (begR l) ≠ l → readT l = ⟨0, 0, 0, []⟩) := by
  have hl := ne_of_beg l 4 (by omega) h
  constructor
  · intro e
    have := (read_export (begR l) (by rw [e]; exact hl)).2
    rw [e] at this
    exact this
  · intro hne
    refine readT_0 _ (fun g => ?_) (fun g => ?_) (fun g => ?_) (fun g => ?_)
    · have := read_beg l _ hl g (by omega); omega
    · have := read_beg l _ hl g (by omega); omega
    · have := read_beg l _ hl g (by omega); omega
    · have e := (read_is l).2.2.1 g
      refine hne ?_
      have e1 := offX_is _ _ e hl
      have er : begR l = (readT l).n := by unfold begR; rw [h]; exact (congrArg (fun x => x.drop (headL 4).length) e1).trans (dropLen _ _)
      rw [er]; exact e
end Go.Proofs.Ytfbocmmdkhnaoaa
