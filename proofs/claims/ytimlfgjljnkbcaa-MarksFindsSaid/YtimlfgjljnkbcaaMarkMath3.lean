/-
  Plain facts on lists of marks: those between two places, by their places; the nearest one.
-/
import Derived.Test.YtimlfgjljnkbcaaMarkMath2
namespace Go.Proofs.Ytimlfgjljnkbcaa
open Go.RowKit
set_option linter.unusedVariables false

/-! ### Between -/
/-- Those at k places from f on, place by place. -/
def betK (l : List Mrk) (f : Nat) : Nat → List Mrk
  | 0 => []
  | k + 1 => betK l f k ++ l.filter fun x => x.p == ((f + k : Nat) : Int)
def betM (l : List Mrk) (f t : Nat) : List Mrk := betK l f (t + 1 - f)
def midM (l : List Mrk) (f t : Int) : List Mrk := l.filter fun x => decide (f ≤ x.p) && decide (x.p ≤ t)
def SrtL (l : List Mrk) : Prop := l.Pairwise fun x y => x.p ≤ y.p

theorem betK_len (l : List Mrk) (f : Nat) : ∀ k, (betK l f k).length ≤ k * l.length
  | 0 => Nat.zero_le _
  | k + 1 => by
    have h1 := betK_len l f k
    have h2 := List.length_filter_le (fun x : Mrk => x.p == ((f + k : Nat) : Int)) l
    rw [betK, List.length_append, Nat.add_mul, Nat.one_mul]
    omega
theorem betK_low (l : List Mrk) (f : Nat) : ∀ k, ∀ x ∈ betK l f k, x.p < ((f + k : Nat) : Int)
  | 0, x, hx => absurd hx (by simp [betK])
  | k + 1, x, hx => by
    rw [betK, List.mem_append] at hx
    rcases hx with h | h
    · have := betK_low l f k x h
      omega
    · have := (List.mem_filter.1 h).2
      have : x.p = ((f + k : Nat) : Int) := by simpa using this
      omega
theorem srt_same (l : List Mrk) (v : Int) : SrtL (l.filter fun x => x.p == v) := by
  unfold SrtL
  rw [List.pairwise_iff_forall_sublist]
  intro a b h
  have h1 := List.mem_filter.1 (h.subset (List.mem_cons_self ..))
  have h2 := List.mem_filter.1 (h.subset (List.mem_cons_of_mem _ (List.mem_cons_self ..)))
  have e1 : a.p = v := by simpa using h1.2
  have e2 : b.p = v := by simpa using h2.2
  omega
theorem betK_srt (l : List Mrk) (f : Nat) : ∀ k, SrtL (betK l f k)
  | 0 => List.Pairwise.nil
  | k + 1 => by
    unfold SrtL
    rw [betK, List.pairwise_append]
    refine ⟨betK_srt l f k, srt_same l _, fun x hx y hy => ?_⟩
    have h1 := betK_low l f k x hx
    have h2 : y.p = ((f + k : Nat) : Int) := by simpa using (List.mem_filter.1 hy).2
    omega
theorem filter_place (l : List Mrk) (u v : Int) : (l.filter fun x => x.p == u).filter (fun x => x.p == v) = if u = v then l.filter (fun x => x.p == v) else [] := by
  split
  · rename_i h
    subst h
    rw [List.filter_filter]
    congr 1
    funext x
    simp
  · rename_i h
    rw [List.filter_eq_nil_iff]
    intro x hx hp
    have h1 : x.p = u := by simpa using (List.mem_filter.1 hx).2
    have h2 : x.p = v := by simpa using hp
    omega
theorem betK_at (l : List Mrk) (f : Nat) (v : Int) : ∀ k, (betK l f k).filter (fun x => x.p == v) = if (f : Int) ≤ v ∧ v < ((f + k : Nat) : Int) then l.filter (fun x => x.p == v) else []
  | 0 => by rw [if_neg (by omega)]; rfl
  | k + 1 => by
    rw [betK, List.filter_append, betK_at l f v k, filter_place]
    by_cases h : (f : Int) ≤ v ∧ v < ((f + k : Nat) : Int)
    · rw [if_pos h, if_neg (by omega), if_pos (by omega), List.append_nil]
    · rw [if_neg h, List.nil_append]
      by_cases h2 : ((f + k : Nat) : Int) = v
      · rw [if_pos h2, if_pos (by omega)]
      · rw [if_neg h2, if_neg (by omega)]
theorem midM_at (l : List Mrk) (f t : Int) (v : Int) : (midM l f t).filter (fun x => x.p == v) = if f ≤ v ∧ v ≤ t then l.filter (fun x => x.p == v) else [] := by
  unfold midM
  rw [List.filter_filter]
  split
  · rename_i h
    congr 1
    funext x
    by_cases hx : x.p = v
    · rw [hx]; simp [h.1, h.2]
    · have e : (x.p == v) = false := beq_eq_false_iff_ne.2 hx
      rw [e]; rfl
  · rename_i h
    rw [List.filter_eq_nil_iff]
    intro x hx hp
    have e : x.p = v := by
      have := (Bool.and_eq_true _ _ ▸ hp : _ ∧ _).1
      simpa using this
    have h2 : f ≤ x.p ∧ x.p ≤ t := by
      have := (Bool.and_eq_true _ _ ▸ hp : _ ∧ _).2
      simpa using this
    exact h (by omega)
/-- One list is sorted, and has the marks of each place in their order. -/
theorem srt_uniq : ∀ (a b : List Mrk), SrtL a → SrtL b → (∀ v : Int, a.filter (fun x => x.p == v) = b.filter (fun x => x.p == v)) → a = b
  | [], b, _, _, h => by
    cases b with
    | nil => rfl
    | cons y s =>
      have := h y.p
      simp at this
  | x :: r, b, ha, hb, h => by
    cases b with
    | nil =>
      have := h x.p
      simp at this
    | cons y s =>
      have hxy : x.p = y.p := by
        have m1 : y ∈ (x :: r).filter (fun z => z.p == y.p) := by rw [h y.p]; exact List.mem_filter.2 ⟨List.mem_cons_self .., by simp⟩
        have m2 : x ∈ (y :: s).filter (fun z => z.p == x.p) := by rw [← h x.p]; exact List.mem_filter.2 ⟨List.mem_cons_self .., by simp⟩
        have g1 : x.p ≤ y.p := by
          rcases List.mem_cons.1 (List.mem_filter.1 m1).1 with e | e
          · rw [e]; exact Int.le_refl _
          · exact (List.pairwise_cons.1 ha).1 y e
        have g2 : y.p ≤ x.p := by
          rcases List.mem_cons.1 (List.mem_filter.1 m2).1 with e | e
          · rw [e]; exact Int.le_refl _
          · exact (List.pairwise_cons.1 hb).1 x e
        omega
      have h0 := h x.p
      rw [List.filter_cons_of_pos (by simp), List.filter_cons_of_pos (by simp [hxy])] at h0
      obtain ⟨e1, e2⟩ := List.cons.inj h0
      rw [e1]
      congr 1
      refine srt_uniq r s (List.pairwise_cons.1 ha).2 (List.pairwise_cons.1 hb).2 fun v => ?_
      by_cases hv : x.p = v
      · rw [← hv]; exact e2
      · have := h v
        rwa [List.filter_cons_of_neg (by simp [hv]), List.filter_cons_of_neg (by rw [← hxy]; simp [hv])] at this
/-- What is stable-sorted of those between is the list place by place. -/
theorem bet_uniq {l m : List Mrk} {f t : Nat} (h1 : SrtL m) (h2 : ∀ v : Int, m.filter (fun x => x.p == v) = (midM l f t).filter (fun x => x.p == v)) : m = betM l f t := by
  refine srt_uniq m _ h1 (betK_srt l f _) fun v => ?_
  unfold betM
  rw [h2, midM_at, betK_at]
  by_cases h : (f : Int) ≤ v ∧ v ≤ t
  · rw [if_pos h, if_pos (by omega)]
  · rw [if_neg h, if_neg (by omega)]
theorem midM_take (l : List Mrk) (f t : Int) (k : Nat) (h : k < l.length) : midM (l.take (k + 1)) f t = if f ≤ (l[k]!).p ∧ (l[k]!).p ≤ t then midM (l.take k) f t ++ [l[k]!] else midM (l.take k) f t := by
  unfold midM
  rw [take_mrk l k h, List.filter_append]
  split
  · rename_i g
    rw [List.filter_cons_of_pos (by rw [decide_eq_true g.1, decide_eq_true g.2]; rfl)]
    rfl
  · rename_i g
    rw [List.filter_cons_of_neg (by rw [Bool.and_eq_true, decide_eq_true_iff, decide_eq_true_iff]; exact g)]
    simp
theorem midM_len (l : List Mrk) (f t : Int) : (midM l f t).length ≤ l.length := List.length_filter_le _ _
theorem at_take (l : List Mrk) (v : Int) (k : Nat) (h : k < l.length) : (l.take (k + 1)).filter (fun x => x.p == v) = if (l[k]!).p = v then (l.take k).filter (fun x => x.p == v) ++ [l[k]!] else (l.take k).filter (fun x => x.p == v) := by
  rw [take_mrk l k h, List.filter_append]
  split
  · rename_i g
    rw [List.filter_cons_of_pos (p := fun x : Mrk => x.p == v) (a := l[k]!) (l := []) (beq_iff_eq.2 g)]
    rfl
  · rename_i g
    rw [List.filter_cons_of_neg (p := fun x : Mrk => x.p == v) (a := l[k]!) (l := []) (fun e => g (beq_iff_eq.1 e))]
    simp

/-! ### Near -/
def dstM (at_ : Int) (x : Mrk) : Nat := (x.p - at_).natAbs
def bigN : Nat := 18446744073709551615
def leastM (l : List Mrk) (at_ : Int) : Nat := l.foldl (fun m x => min m (dstM at_ x)) bigN
def nearB (at_ : Int) (l : List Mrk) (x : Mrk) : Bool := decide (dstM at_ x = leastM l at_)
/-- The nearest mark, and whether there is one. -/
def nearM (l : List Mrk) (at_ : Int) : Mrk × Bool := if l.findIdx (nearB at_ l) < l.length then (l[l.findIdx (nearB at_ l)]!, true) else (⟨⟨#[]⟩, 0⟩, false)
theorem leastM_take (l : List Mrk) (at_ : Int) (k : Nat) (h : k < l.length) : leastM (l.take (k + 1)) at_ = min (leastM (l.take k) at_) (dstM at_ l[k]!) := by
  unfold leastM
  rw [take_mrk l k h, List.foldl_append]
  rfl
theorem least_facts (at_ : Int) (l : List Mrk) : ∀ b : Nat, l.foldl (fun m x => min m (dstM at_ x)) b ≤ b ∧ (∀ x ∈ l, l.foldl (fun m x => min m (dstM at_ x)) b ≤ dstM at_ x) ∧ (l.foldl (fun m x => min m (dstM at_ x)) b = b ∨ ∃ x ∈ l, l.foldl (fun m x => min m (dstM at_ x)) b = dstM at_ x) := by
  induction l with
  | nil => exact fun b => ⟨Nat.le_refl _, fun x hx => absurd hx (by simp), .inl rfl⟩
  | cons y r ih =>
    intro b
    obtain ⟨h1, h2, h3⟩ := ih (min b (dstM at_ y))
    rw [List.foldl_cons]
    refine ⟨Nat.le_trans h1 (Nat.min_le_left _ _), fun x hx => ?_, ?_⟩
    · rcases List.mem_cons.1 hx with rfl | hx
      · exact Nat.le_trans h1 (Nat.min_le_right _ _)
      · exact h2 x hx
    · rcases h3 with h3 | ⟨x, hx, h3⟩
      · rw [h3]
        rcases Nat.le_total b (dstM at_ y) with g | g
        · exact .inl (Nat.min_eq_left g)
        · exact .inr ⟨y, List.mem_cons_self .., Nat.min_eq_right g⟩
      · exact .inr ⟨x, List.mem_cons_of_mem _ hx, h3⟩
theorem leastM_big (l : List Mrk) (at_ : Int) : leastM l at_ ≤ bigN := (least_facts at_ l bigN).1
theorem leastM_is {l : List Mrk} {at_ : Int} {k : Nat} (hk : k < l.length) (h : ∀ j, j < l.length → dstM at_ l[k]! ≤ dstM at_ l[j]!) (hb : dstM at_ l[k]! ≤ bigN) : leastM l at_ = dstM at_ l[k]! := by
  obtain ⟨h1, h2, h3⟩ := least_facts at_ l bigN
  have g1 : leastM l at_ ≤ dstM at_ l[k]! := h2 _ (by rw [mget hk]; exact List.getElem_mem hk)
  refine Nat.le_antisymm g1 ?_
  rcases h3 with h3 | ⟨x, hx, h3⟩
  · show _ ≤ l.foldl _ _
    rw [h3]; exact hb
  · show _ ≤ l.foldl _ _
    rw [h3]
    obtain ⟨j, hj, rfl⟩ := List.getElem_of_mem hx
    rw [← mget hj]
    exact h j hj
theorem nearM_yes {l : List Mrk} {at_ : Int} {k : Nat} (hk : k < l.length) (h : ∀ j, j < l.length → dstM at_ l[k]! ≤ dstM at_ l[j]!) (hb : dstM at_ l[k]! ≤ bigN) (hf : ∀ j, j < k → dstM at_ l[j]! ≠ dstM at_ l[k]!) : nearM l at_ = (l[k]!, true) := by
  have e := leastM_is hk h hb
  have i : l.findIdx (nearB at_ l) = k := idx_yes hk (fun j hj => by unfold nearB; rw [e]; exact decide_eq_false (hf j hj)) (by unfold nearB; rw [e]; exact decide_eq_true rfl)
  unfold nearM
  rw [i, if_pos hk]
theorem nearM_none (at_ : Int) : nearM [] at_ = (⟨⟨#[]⟩, 0⟩, false) := rfl
/-- Of marks within places there is a nearest one, unless there is none at all. -/
theorem near_some {l : List Mrk} {at_ : Int} (hl : l ≠ []) (hb : ∀ x ∈ l, dstM at_ x ≤ bigN) : l.findIdx (nearB at_ l) < l.length := by
  rw [List.findIdx_lt_length]
  obtain ⟨h1, h2, h3⟩ := least_facts at_ l bigN
  rcases h3 with h3 | ⟨x, hx, h3⟩
  · obtain ⟨y, hy⟩ := List.exists_mem_of_ne_nil l hl
    refine ⟨y, hy, ?_⟩
    have := h2 y hy
    have := hb y hy
    unfold nearB
    have e : leastM l at_ = bigN := h3
    rw [e]
    exact decide_eq_true (by omega)
  · refine ⟨x, hx, ?_⟩
    unfold nearB
    have e : leastM l at_ = dstM at_ x := h3
    rw [e]
    exact decide_eq_true rfl
end Go.Proofs.Ytimlfgjljnkbcaa
