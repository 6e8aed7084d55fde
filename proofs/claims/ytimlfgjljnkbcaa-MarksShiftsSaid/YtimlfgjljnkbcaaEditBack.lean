/-
  An edit that was applied is taken back by its inverse; a mark at an edge stands at one, no further than one behind it.
-/
import Derived.Test.YtimlfgjljnkbcaaEditMath
namespace Go.Proofs.Ytimlfgjljnkbcaa
open Go.RowKit

/-- What an edit that is applied parts a text into. -/
structure Cut3 (t o n s : ByteArray) (k : Nat) (A B : List UInt8) : Prop where
  t : t.data.toList = A ++ (o.data.toList ++ B)
  s : s.data.toList = A ++ (n.data.toList ++ B)
  len : A.length = k
  vA : vld A
  vO : vld o.data.toList
  vN : vld n.data.toList
  vB : vld B
theorem len_list (s : ByteArray) : s.data.toList.length = s.size := by simp
theorem cut3 {t o n s : ByteArray} {p : Int} (hv : vld t.data.toList) (h : appE t p o n = (s, 0)) : ∃ (k : Nat) (A B : List UInt8), p = k ∧ Cut3 t o n s k A B := by
  obtain ⟨k, rfl, hk, ho, e1, e2, v1, v2, hl, hs⟩ := appE_zero h
  have h3 := in_three hk ho
  have hle := stands_le hk ho
  refine ⟨k, (t.extract 0 k).data.toList, (t.extract (k + o.size) t.size).data.toList, rfl, ?_, ?_, ?_, ?_, (vldB_iff _).1 v1, (vldB_iff _).1 v2, ?_⟩
  · have := congrArg (fun x => x.data.toList) h3
    simp only [app_list, List.append_assoc] at this
    exact this.symm
  · rw [hs, app_list, app_list, List.append_assoc]
  · rw [len_list, ByteArray.size_extract]; omega
  · rw [extract_list, List.drop_zero, Nat.sub_zero]
    exact (vld_edge _ k hv ((edgeB_iff _ _).1 e1)).1
  · rw [extract_list, List.take_of_length_le (by rw [List.length_drop, len_list]; omega)]
    exact (vld_edge _ _ hv ((edgeB_iff _ _).1 e2)).2
theorem Cut3.turn {t o n s : ByteArray} {k : Nat} {A B : List UInt8} (h : Cut3 t o n s k A B) : Cut3 s n o t k A B := ⟨h.s, h.t, h.len, h.vA, h.vN, h.vO, h.vB⟩
theorem Cut3.valid {t o n s : ByteArray} {k : Nat} {A B : List UInt8} (h : Cut3 t o n s k A B) : vldB s.data.toList = true := by
  rw [vldB_iff, h.s]
  exact vld_app _ _ h.vA (vld_app _ _ h.vN h.vB)
theorem Cut3.size {t o n s : ByteArray} {k : Nat} {A B : List UInt8} (h : Cut3 t o n s k A B) : t.size = k + o.size + B.length := by
  have := congrArg List.length h.t
  rw [len_list, List.length_append, List.length_append, len_list, h.len] at this
  omega
/-- Where something clean begins, there is an edge. -/
theorem edge_at_clean {t : List UInt8} {A B : List UInt8} {k : Nat} (h : t = A ++ B) (hA : A.length = k) (hc : clean B) : edge t k := by
  subst h hA
  rcases hc with rfl | hc
  · exact .inr (.inl (by simp))
  · by_cases hz : B = []
    · subst hz; exact .inr (.inl (by simp))
    · refine .inr (.inr ⟨by rw [List.length_append]; have := len_pos hz; omega, ?_⟩)
      rw [bt_app_ge _ _ _ (Nat.le_refl _), Nat.sub_self]
      exact hc
/-- A text in three is what an edit makes of another one. -/
theorem Cut3.app {t o n s : ByteArray} {k : Nat} {A B : List UInt8} (h : Cut3 t o n s k A B) (hl : s.size ≤ 4096) : appE t k o n = (s, 0) := by
  have ht := h.size
  have hs := h.turn.size
  have c1 : clean (o.data.toList ++ B) := vld_clean _ (vld_app _ _ h.vO h.vB)
  have c2 : clean B := vld_clean _ h.vB
  have ho : t.extract k (k + o.size) = o := by
    apply str_ext
    rw [extract_list, h.t, List.drop_left' h.len, show k + o.size - k = o.size by omega, List.take_left' (len_list o)]
  rw [appE_ok (by omega) ho ?_ ?_ ((vldB_iff _).2 h.vO) ((vldB_iff _).2 h.vN) (by omega)]
  · congr 1
    apply str_ext
    rw [app_list, app_list, extract_list, extract_list, h.s, List.drop_zero, Nat.sub_zero, h.t, List.take_left' h.len, List.append_assoc]
    congr 2
    rw [← List.append_assoc, List.drop_left' (by rw [List.length_append, h.len, len_list]), List.take_of_length_le (by omega)]
  · rw [edgeB_iff, h.t]
    exact edge_at_clean rfl h.len c1
  · rw [edgeB_iff]
    exact edge_at_clean (A := A ++ o.data.toList) (by rw [h.t, List.append_assoc]) (by rw [List.length_append, h.len, len_list]) c2
/-- An edit that was applied to a valid text is taken back; what it makes is valid. -/
theorem back_app {t o n s : ByteArray} {p : Int} (hv : vldB t.data.toList = true) (ht : t.size ≤ 4096) (h : appE t p o n = (s, 0)) : appE s p n o = (t, 0) ∧ vldB s.data.toList = true := by
  obtain ⟨k, A, B, rfl, hc⟩ := cut3 ((vldB_iff _).1 hv) h
  exact ⟨hc.turn.app ht, hc.valid⟩
/-- An edge stays one. -/
theorem shift_edge {t o n s : ByteArray} {p a : Int} (hv : vldB t.data.toList = true) (h : appE t p o n = (s, 0)) (ha : edgeB t.data.toList a = true) : edgeB s.data.toList (shiftI p o.size n.size a) = true := by
  obtain ⟨k, A, B, rfl, hc⟩ := cut3 ((vldB_iff _).1 hv) h
  have ha0 : 0 ≤ a := by unfold edgeB at ha; simp at ha; exact ha.1
  obtain ⟨j, rfl⟩ := Int.eq_ofNat_of_zero_le ha0
  rw [edgeB_iff] at ha
  have cN : clean (n.data.toList ++ B) := vld_clean _ (vld_app _ _ hc.vN hc.vB)
  have cB : clean B := vld_clean _ hc.vB
  have ht := hc.size
  have hj : j ≤ t.size := by rcases ha with h | h | h <;> rw [← len_list] <;> omega
  by_cases h1 : j ≤ k
  · rw [show shiftI k o.size n.size j = j by unfold shiftI; rw [if_pos (by omega)], edgeB_iff, hc.s]
    rw [hc.t] at ha
    exact edge_ahead (by rw [hc.len]; exact h1) ha cN
  by_cases h2 : k + o.size ≤ j
  · rw [show shiftI k o.size n.size j = ((k + n.size + (j - (k + o.size)) : Nat) : Int) by unfold shiftI; rw [if_neg (by omega), if_pos (by omega)]; omega, edgeB_iff, hc.s, ← List.append_assoc]
    have e1 : (A ++ o.data.toList).length = k + o.size := by rw [List.length_append, hc.len, len_list]
    have e2 : (A ++ n.data.toList).length = k + n.size := by rw [List.length_append, hc.len, len_list]
    rw [← e2]
    refine edge_behind (a := A ++ o.data.toList) ?_ cB (by omega)
    rw [e1, List.append_assoc, ← hc.t, show k + o.size + (j - (k + o.size)) = j by omega]
    exact ha
  · rw [show shiftI k o.size n.size j = (k : Int) by unfold shiftI; rw [if_neg (by omega), if_neg (by omega)], edgeB_iff]
    exact edge_at_clean hc.s hc.len cN
/-- Marks stay in their order. -/
theorem shift_mono {p a b : Int} {o n : Nat} (h : a ≤ b) : shiftI p o n a ≤ shiftI p o n b := by
  unfold shiftI
  split <;> split
  · exact h
  · repeat' split
    all_goals omega
  · repeat' split
    all_goals omega
  · repeat' split
    all_goals omega
end Go.Proofs.Ytimlfgjljnkbcaa
