/-
  What an edit makes of a text, as a plain function; what follows of it: it is taken back, and marks stay at edges.
-/
import Derived.Test.YthboipmlkgmofaaUtfBad
namespace Go.Proofs.Ythboipmlkgmofaa
open Go.RowKit

/-- What Apply tells: the text, or why there is none. -/
def appE (t : ByteArray) (p : Int) (o n : ByteArray) : ByteArray × Int :=
  if p < 0 ∨ (t.size : Int) < p then (⟨#[]⟩, 3)
  else if ¬ t.extract p.toNat (p.toNat + o.size) = o then (⟨#[]⟩, 8)
  else if (edgeB t.data.toList p.toNat && edgeB t.data.toList (p.toNat + o.size : Nat)) = false then (⟨#[]⟩, 4)
  else if (vldB o.data.toList && vldB n.data.toList) = false then (⟨#[]⟩, 5)
  else if 4096 + o.size < t.size + n.size then (⟨#[]⟩, 6)
  else (t.extract 0 p.toNat ++ n ++ t.extract (p.toNat + o.size) t.size, 0)
/-- Where a mark comes to stand. -/
def shiftI (p : Int) (o n : Nat) (a : Int) : Int := if a ≤ p then a else if p + o ≤ a then a - o + n else p

theorem appE_range {t o n : ByteArray} {p : Int} (h : p < 0 ∨ (t.size : Int) < p) : appE t p o n = (⟨#[]⟩, 3) := by unfold appE; rw [if_pos h]
theorem appE_none {t o n : ByteArray} {k : Nat} (hk : k ≤ t.size) (h : ¬ t.extract k (k + o.size) = o) : appE t k o n = (⟨#[]⟩, 8) := by
  unfold appE
  rw [if_neg (by omega), if_pos (by simpa using h)]
theorem appE_split {t o n : ByteArray} {k : Nat} (hk : k ≤ t.size) (h : t.extract k (k + o.size) = o) (he : edgeB t.data.toList k = false ∨ edgeB t.data.toList (k + o.size : Nat) = false) : appE t k o n = (⟨#[]⟩, 4) := by
  unfold appE
  rw [if_neg (by omega), if_neg (by simpa using h), if_pos]
  simp only [Int.toNat_natCast, Bool.and_eq_false_iff]
  exact he
theorem appE_form {t o n : ByteArray} {k : Nat} (hk : k ≤ t.size) (h : t.extract k (k + o.size) = o) (h1 : edgeB t.data.toList k = true) (h2 : edgeB t.data.toList (k + o.size : Nat) = true)
    (hv : vldB o.data.toList = false ∨ vldB n.data.toList = false) : appE t k o n = (⟨#[]⟩, 5) := by
  unfold appE
  rw [if_neg (by omega), if_neg (by simpa using h), if_neg (by simp only [Int.toNat_natCast]; rw [h1, h2]; decide), if_pos]
  simp only [Bool.and_eq_false_iff]
  exact hv
theorem appE_long {t o n : ByteArray} {k : Nat} (hk : k ≤ t.size) (h : t.extract k (k + o.size) = o) (h1 : edgeB t.data.toList k = true) (h2 : edgeB t.data.toList (k + o.size : Nat) = true)
    (v1 : vldB o.data.toList = true) (v2 : vldB n.data.toList = true) (hl : 4096 + o.size < t.size + n.size) : appE t k o n = (⟨#[]⟩, 6) := by
  unfold appE
  rw [if_neg (by omega), if_neg (by simpa using h), if_neg (by simp only [Int.toNat_natCast]; rw [h1, h2]; decide), if_neg (by rw [v1, v2]; decide), if_pos hl]
theorem appE_ok {t o n : ByteArray} {k : Nat} (hk : k ≤ t.size) (h : t.extract k (k + o.size) = o) (h1 : edgeB t.data.toList k = true) (h2 : edgeB t.data.toList (k + o.size : Nat) = true)
    (v1 : vldB o.data.toList = true) (v2 : vldB n.data.toList = true) (hl : ¬ 4096 + o.size < t.size + n.size) : appE t k o n = (t.extract 0 k ++ n ++ t.extract (k + o.size) t.size, 0) := by
  unfold appE
  rw [if_neg (by omega), if_neg (by simpa using h), if_neg (by simp only [Int.toNat_natCast]; rw [h1, h2]; decide), if_neg (by rw [v1, v2]; decide), if_neg hl]
  simp
/-- What is applied lies within the text. -/
theorem stands_le {t o : ByteArray} {k : Nat} (hk : k ≤ t.size) (h : t.extract k (k + o.size) = o) : k + o.size ≤ t.size := by
  have := congrArg ByteArray.size h
  rw [ByteArray.size_extract] at this
  omega
theorem edgeB_iff (l : List UInt8) (k : Nat) : edgeB l k = true ↔ edge l k := by unfold edgeB; simp

/-- The one way that an edit is applied. -/
theorem appE_zero {t o n s : ByteArray} {p : Int} (h : appE t p o n = (s, 0)) :
    ∃ k : Nat, p = k ∧ k ≤ t.size ∧ t.extract k (k + o.size) = o ∧ edgeB t.data.toList k = true ∧ edgeB t.data.toList (k + o.size : Nat) = true ∧ vldB o.data.toList = true ∧ vldB n.data.toList = true ∧ ¬ 4096 + o.size < t.size + n.size ∧ s = t.extract 0 k ++ n ++ t.extract (k + o.size) t.size := by
  by_cases hp : p < 0 ∨ (t.size : Int) < p
  · rw [appE_range hp] at h; cases h
  obtain ⟨k, rfl⟩ := Int.eq_ofNat_of_zero_le (show 0 ≤ p by omega)
  have hk : k ≤ t.size := by omega
  refine ⟨k, rfl, hk, ?_⟩
  by_cases ho : t.extract k (k + o.size) = o
  case neg => rw [appE_none hk ho] at h; cases h
  cases h1 : edgeB t.data.toList k
  · rw [appE_split hk ho (.inl h1)] at h; cases h
  cases h2 : edgeB t.data.toList (k + o.size : Nat)
  · rw [appE_split hk ho (.inr h2)] at h; cases h
  cases v1 : vldB o.data.toList
  · rw [appE_form hk ho h1 h2 (.inl v1)] at h; cases h
  cases v2 : vldB n.data.toList
  · rw [appE_form hk ho h1 h2 (.inr v2)] at h; cases h
  by_cases hl : 4096 + o.size < t.size + n.size
  · rw [appE_long hk ho h1 h2 v1 v2 hl] at h; cases h
  rw [appE_ok hk ho h1 h2 v1 v2 hl] at h
  refine ⟨ho, rfl, rfl, rfl, rfl, hl, ?_⟩
  have := congrArg Prod.fst h
  exact this.symm
/-- A text is there, or none: nothing is told beside an error. -/
theorem appE_empty {t o n : ByteArray} {p : Int} (h : (appE t p o n).2 ≠ 0) : (appE t p o n).1 = ⟨#[]⟩ := by
  unfold appE at h ⊢
  split
  · rfl
  split
  · rfl
  split
  · rfl
  split
  · rfl
  split
  · rfl
  rename_i a b c d e
  rw [if_neg a, if_neg b, if_neg c, if_neg d, if_neg e] at h
  exact absurd rfl h

/-- The text in three: what stands ahead of the edit, what goes, and what stands behind it. -/
theorem in_three {t o : ByteArray} {k : Nat} (hk : k ≤ t.size) (h : t.extract k (k + o.size) = o) : t.extract 0 k ++ o ++ t.extract (k + o.size) t.size = t := by
  have hle := stands_le hk h
  have e : t.extract 0 k ++ o = t.extract 0 (k + o.size) := by
    apply str_ext
    have ho := congrArg (fun x => x.data.toList) h
    simp only [extract_list, Nat.sub_zero, List.drop_zero, app_list] at ho ⊢
    conv => lhs; rw [← ho]
    rw [show k + o.size - k = o.size by omega, ← List.take_append_drop k (t.data.toList.take (k + o.size))]
    congr 1
    · rw [List.take_take, Nat.min_eq_left (by omega)]
    · rw [List.drop_take, show k + o.size - k = o.size by omega]
  rw [e]
  apply str_ext
  simp only [extract_list, Nat.sub_zero, List.drop_zero, app_list]
  have hlen : t.data.toList.length = t.size := by simp
  rw [List.take_of_length_le (l := t.data.toList.drop _) (by rw [List.length_drop]; omega), List.take_append_drop]

/-- Ahead of a cut and behind it. -/
theorem edge_ahead {a b c : List UInt8} {k : Nat} (hk : k ≤ a.length) (h : edge (a ++ b) k) (hc : clean c) : edge (a ++ c) k := by
  rcases Nat.lt_or_ge k a.length with hlt | hge
  · unfold edge at h ⊢
    rcases h with h | h | ⟨h, h1⟩
    · exact .inl h
    · exfalso; rw [List.length_append] at h; omega
    · refine .inr (.inr ⟨by rw [List.length_append]; omega, ?_⟩)
      rw [bt_app_lt _ _ _ hlt] at h1 ⊢
      exact h1
  · obtain rfl : k = a.length := by omega
    rcases hc with rfl | hc
    · exact .inr (.inl (by simp))
    · by_cases hz : c = []
      · subst hz; exact .inr (.inl (by simp))
      · refine .inr (.inr ⟨by rw [List.length_append]; have := len_pos hz; omega, ?_⟩)
        rw [bt_app_ge _ _ _ (Nat.le_refl _), Nat.sub_self]
        exact hc
theorem edge_behind {a b c : List UInt8} {k : Nat} (h : edge (a ++ b) (a.length + k)) (hb : clean b) (hz : k ≤ b.length) : edge (c ++ b) (c.length + k) := by
  rcases Nat.lt_or_ge k b.length with hlt | hge
  · refine .inr (.inr ⟨by rw [List.length_append]; omega, ?_⟩)
    rw [bt_app_ge _ _ _ (by omega), show c.length + k - c.length = k by omega]
    rcases h with h | h | ⟨_, h⟩
    · obtain rfl : k = 0 := by omega
      rcases hb with rfl | hb
      · simp at hlt
      · exact hb
    · rw [List.length_append] at h; omega
    · rw [bt_app_ge _ _ _ (by omega), show a.length + k - a.length = k by omega] at h
      exact h
  · exact .inr (.inl (by rw [List.length_append]; omega))
end Go.Proofs.Ythboipmlkgmofaa
