/-
  Plain facts on rising lists of numbers: what is added once, what is sorted and told once (layer 9).
-/
import Derived.Test.YtpcbfkcpefcnjaaFoldHist
import Derived.Lib.SlicesCompact
namespace Go.Proofs.Ytpcbfkcpefcnjaa
open Go.RowKit
set_option linter.unusedVariables false

def riseI (l : List Int) : Prop := l.Pairwise (· < ·)
def insI (n : Int) : List Int → List Int
  | [] => [n]
  | e :: r => if n < e then n :: e :: r else e :: insI n r
theorem foldI_done (n : Int) : ∀ (l acc : List Int), l.foldl (addS n) (acc, true) = (acc ++ l, true)
  | [], acc => by simp
  | e :: r, acc => by
    rw [List.foldl_cons, addS_done, foldI_done n r]
    simp
theorem foldI_ins (n : Int) : ∀ (l acc : List Int), (if (l.foldl (addS n) (acc, false)).2 = true then (l.foldl (addS n) (acc, false)).1 else (l.foldl (addS n) (acc, false)).1 ++ [n]) = acc ++ insI n l
  | [], acc => by simp [insI]
  | e :: r, acc => by
    rw [List.foldl_cons]
    by_cases h : n < e
    · rw [addS_put n acc e h, foldI_done, if_pos rfl]
      simp [insI, h]
    · rw [addS_no n acc e h, foldI_ins n r]
      simp [insI, h]
theorem addI_ins (l : List Int) (n : Int) : addI l n = if n ∈ l then l else insI n l := by
  have := foldI_ins n l []
  unfold addI addK
  rw [List.take_length]
  split
  · rfl
  · simpa using this
theorem mem_insI (n e : Int) : ∀ l : List Int, e ∈ insI n l ↔ e = n ∨ e ∈ l
  | [] => by simp [insI]
  | f :: r => by
    unfold insI
    split
    · simp
    · rw [List.mem_cons, mem_insI n e r, List.mem_cons]
      constructor
      · rintro (h | h | h)
        · exact .inr (.inl h)
        · exact .inl h
        · exact .inr (.inr h)
      · rintro (h | h | h)
        · exact .inr (.inl h)
        · exact .inl h
        · exact .inr (.inr h)
theorem rise_insI (n : Int) : ∀ l : List Int, riseI l → n ∉ l → riseI (insI n l)
  | [], _, _ => List.pairwise_singleton _ _
  | f :: r, h, hn => by
    obtain ⟨h1, h2⟩ := List.pairwise_cons.1 h
    have hf : n ≠ f := fun g => hn (by rw [g]; exact List.mem_cons_self)
    unfold insI
    split
    · rename_i hg
      refine List.pairwise_cons.2 ⟨fun e he => ?_, h⟩
      rcases List.mem_cons.1 he with rfl | he
      · exact hg
      · exact Int.lt_trans hg (h1 e he)
    · rename_i hg
      refine List.pairwise_cons.2 ⟨fun e he => ?_, rise_insI n r h2 (fun g => hn (List.mem_cons_of_mem _ g))⟩
      rcases (mem_insI n e r).1 he with rfl | he
      · omega
      · exact h1 e he
theorem mem_addI (l : List Int) (n e : Int) : e ∈ addI l n ↔ e = n ∨ e ∈ l := by
  rw [addI_ins]
  split
  · rename_i h
    constructor
    · exact .inr
    · rintro (rfl | g)
      · exact h
      · exact g
  · exact mem_insI n e l
theorem rise_addI {l : List Int} (h : riseI l) (n : Int) : riseI (addI l n) := by
  rw [addI_ins]
  split
  · exact h
  · rename_i g
    exact rise_insI n l h g
theorem mem_idsIn (l : List Ent) (n : Int) : ∀ o : List Int, n ∈ idsIn o l ↔ n ∈ o ∨ ∃ e ∈ l, e.id = n := by
  induction l with
  | nil => intro o; simp [idsIn]
  | cons f r ih =>
    intro o
    show n ∈ idsIn (addI o f.id) r ↔ _
    rw [ih, mem_addI]
    constructor
    · rintro ((h | h) | ⟨e, he, h⟩)
      · exact .inr ⟨f, List.mem_cons_self, h.symm⟩
      · exact .inl h
      · exact .inr ⟨e, List.mem_cons_of_mem _ he, h⟩
    · rintro (h | ⟨e, he, h⟩)
      · exact .inl (.inr h)
      · rcases List.mem_cons.1 he with rfl | he
        · exact .inl (.inl h.symm)
        · exact .inr ⟨e, he, h⟩
theorem rise_idsIn (l : List Ent) : ∀ {o : List Int}, riseI o → riseI (idsIn o l) := by
  induction l with
  | nil => intro o h; exact h
  | cons f r ih => intro o h; exact ih (rise_addI h f.id)
theorem idsK_fold (L : List (List Ent)) : idsK L = L.foldl idsIn [] := rfl
theorem mem_idsF (n : Int) (L : List (List Ent)) : ∀ o : List Int, n ∈ L.foldl idsIn o ↔ n ∈ o ∨ ∃ l ∈ L, ∃ e ∈ l, e.id = n := by
  induction L with
  | nil => intro o; simp
  | cons l r ih =>
    intro o
    rw [List.foldl_cons, ih, mem_idsIn]
    constructor
    · rintro ((h | h) | ⟨x, hx, h⟩)
      · exact .inl h
      · exact .inr ⟨l, List.mem_cons_self, h⟩
      · exact .inr ⟨x, List.mem_cons_of_mem _ hx, h⟩
    · rintro (h | ⟨x, hx, h⟩)
      · exact .inl (.inl h)
      · rcases List.mem_cons.1 hx with rfl | hx
        · exact .inl (.inr h)
        · exact .inr ⟨x, hx, h⟩
theorem rise_idsF (L : List (List Ent)) : ∀ {o : List Int}, riseI o → riseI (L.foldl idsIn o) := by
  induction L with
  | nil => intro o h; exact h
  | cons l r ih => intro o h; exact ih (rise_idsIn l h)
theorem rise_idsK (L : List (List Ent)) : riseI (idsK L) := rise_idsF L List.Pairwise.nil
theorem mem_idsK (L : List (List Ent)) (n : Int) : n ∈ idsK L ↔ ∃ l ∈ L, ∃ e ∈ l, e.id = n := by
  rw [idsK_fold, mem_idsF]
  simp
/-- Of what changes make the numbers are those that were there, and those that were put. -/
theorem ids_chg {l : List Ent} {c : Chg} (hc : c.may l) : ∀ e ∈ chgE l c, (∃ x ∈ l, x.id = e.id) ∨ c.kind = 0 ∧ c.id = e.id := by
  intro e he
  unfold chgE at he
  rcases hc.2 with ⟨k, hn⟩ | k | ⟨k, hn, hne⟩
  · rw [if_pos k] at he
    rcases (mem_withE _ _ _).1 he with rfl | he
    · exact .inr ⟨k, rfl⟩
    · exact .inl ⟨e, he, rfl⟩
  · rw [if_neg (by rw [k]; omega), if_pos k] at he
    exact .inl ⟨e, ((mem_withoutE _ _ _).1 he).1, rfl⟩
  · rw [if_neg (by rw [k]; omega), if_neg (by rw [k]; omega)] at he
    rcases (mem_withE _ _ _).1 he with rfl | he
    · obtain ⟨n, hnn⟩ := Option.isSome_iff_exists.1 hn
      obtain ⟨x, hx, _, hid⟩ := findE_id hnn
      refine .inl ⟨x, hx, ?_⟩
      show x.id = (findE l c.name).getD 0
      rw [hnn, hid]
      rfl
    · exact .inl ⟨e, ((mem_withoutE _ _ _).1 ((mem_withoutE _ _ _).1 he).1).1, rfl⟩
theorem mem_hist (cs : List Chg) (n : Int) : ∀ {l : List Ent}, mays l cs → ((∃ x ∈ hist l cs, ∃ e ∈ x, e.id = n) ↔ (∃ e ∈ l, e.id = n) ∨ ∃ c ∈ cs, c.kind = 0 ∧ c.id = n) := by
  induction cs with
  | nil => intro l _; simp [hist]
  | cons d cs ih =>
    intro l h
    rw [hist]
    constructor
    · rintro ⟨x, hx, e, he, hid⟩
      rcases List.mem_cons.1 hx with rfl | hx
      · exact .inl ⟨e, he, hid⟩
      · rcases (ih h.2).1 ⟨x, hx, e, he, hid⟩ with ⟨e, he, hid⟩ | ⟨c, hc, hk⟩
        · rcases ids_chg h.1 e he with ⟨y, hy, g⟩ | ⟨g1, g2⟩
          · exact .inl ⟨y, hy, g.trans hid⟩
          · exact .inr ⟨d, List.mem_cons_self, g1, g2.trans hid⟩
        · exact .inr ⟨c, List.mem_cons_of_mem _ hc, hk⟩
    · rintro (⟨e, he, hid⟩ | ⟨c, hc, hk, hid⟩)
      · exact ⟨l, List.mem_cons_self, e, he, hid⟩
      · have : ∃ x ∈ hist (chgE l d) cs, ∃ e ∈ x, e.id = n := by
          refine (ih h.2).2 ?_
          rcases List.mem_cons.1 hc with rfl | hc
          · refine .inl ⟨⟨c.name, c.id⟩, ?_, hid⟩
            unfold chgE
            rw [if_pos hk]
            exact (mem_withE _ _ _).2 (.inl rfl)
          · exact .inr ⟨c, hc, hk, hid⟩
        obtain ⟨x, hx, r⟩ := this
        exact ⟨x, List.mem_cons_of_mem _ hx, r⟩
/-- The numbers that were put. -/
def putIds (cs : List Chg) : List Int := (cs.filter fun c => decide (c.kind = 0)).map (·.id)
theorem mem_putIds (cs : List Chg) (n : Int) : n ∈ putIds cs ↔ ∃ c ∈ cs, c.kind = 0 ∧ c.id = n := by
  unfold putIds
  rw [List.mem_map]
  constructor
  · rintro ⟨c, hc, h⟩
    obtain ⟨h1, h2⟩ := List.mem_filter.1 hc
    exact ⟨c, h1, by simpa using h2, h⟩
  · rintro ⟨c, hc, h1, h2⟩
    exact ⟨c, List.mem_filter.2 ⟨hc, by simpa using h1⟩, h2⟩
theorem putIds_yes (cs : List Chg) (k : Nat) (h : k < cs.length) (hk : cs[k].kind = 0) : putIds (cs.take (k + 1)) = putIds (cs.take k) ++ [cs[k].id] := by
  unfold putIds
  rw [List.take_succ_eq_append_getElem h, List.filter_append, List.map_append]
  simp [hk]
theorem putIds_no (cs : List Chg) (k : Nat) (h : k < cs.length) (hk : ¬ cs[k].kind = 0) : putIds (cs.take (k + 1)) = putIds (cs.take k) := by
  unfold putIds
  rw [List.take_succ_eq_append_getElem h, List.filter_append, List.map_append]
  simp [hk]
theorem putIds_len (cs : List Chg) (k : Nat) : (putIds (cs.take k)).length ≤ k := by
  unfold putIds
  rw [List.length_map]
  refine Nat.le_trans (List.length_filter_le _ _) ?_
  rw [List.length_take]
  exact Nat.min_le_left _ _

theorem rise_eq {a b : List Int} (ha : riseI a) (hb : riseI b) (h : ∀ n, n ∈ a ↔ n ∈ b) : a = b := by
  have na : a.Nodup := ha.imp fun {x y} h => by omega
  have nb : b.Nodup := hb.imp fun {x y} h => by omega
  exact List.Perm.eq_of_pairwise (le := fun x y => x < y) (fun x y _ _ h1 h2 => by omega) ha hb ((List.perm_ext_iff_of_nodup na nb).2 h)
theorem compact_upto (d : Array Int) (hd : ∀ i j, i ≤ j → j < d.size → d[i]! ≤ d[j]!) : ∀ m, m ≤ d.size → riseI (Lib.compactUpTo d m) ∧ ∀ n, n ∈ Lib.compactUpTo d m ↔ ∃ j, j < m ∧ d[j]! = n := by
  intro m
  induction m with
  | zero => intro _; exact ⟨by simp [Lib.compactUpTo, riseI], fun n => by simp [Lib.compactUpTo]⟩
  | succ m ih =>
    intro hm
    obtain ⟨h1, h2⟩ := ih (by omega)
    rw [Lib.compactUpTo_succ]
    by_cases hk : Lib.keeps d m = true
    · rw [if_pos hk]
      refine ⟨List.pairwise_append.2 ⟨h1, List.pairwise_singleton _ _, fun x hx y hy => ?_⟩, fun n => ?_⟩
      · obtain ⟨j, hj, rfl⟩ := (h2 x).1 hx
        obtain rfl : y = d[m]! := by simpa using hy
        have e1 := hd j (m - 1) (by omega) (by omega)
        have e2 := hd (m - 1) m (by omega) (by omega)
        have e3 : d[m]! ≠ d[m - 1]! := by
          have hm0 : m ≠ 0 := by omega
          simpa [Lib.keeps, hm0] using hk
        omega
      · rw [List.mem_append, h2]
        constructor
        · rintro (⟨j, hj, h⟩ | h)
          · exact ⟨j, by omega, h⟩
          · exact ⟨m, by omega, by simpa using (List.mem_singleton.1 h).symm⟩
        · rintro ⟨j, hj, h⟩
          by_cases g : j = m
          · exact .inr (by rw [← h, g]; simp)
          · exact .inl ⟨j, by omega, h⟩
    · rw [if_neg hk, List.append_nil]
      refine ⟨h1, fun n => ?_⟩
      rw [h2]
      have e3 : m ≠ 0 ∧ d[m]! = d[m - 1]! := by
        have := hk
        simp [Lib.keeps] at this
        exact this
      constructor
      · rintro ⟨j, hj, h⟩
        exact ⟨j, by omega, h⟩
      · rintro ⟨j, hj, h⟩
        by_cases g : j = m
        · exact ⟨m - 1, by omega, by rw [← h, g, e3.2]⟩
        · exact ⟨j, by omega, h⟩
/-- Sorted and told once: what is told of all that can be there still. -/
theorem compact_ids {zs : List Int} {l : List Ent} {cs : List Chg} (hm : mays l cs) (hz : zs.Pairwise (· ≤ ·)) (h : ∀ n, n ∈ zs ↔ n ∈ l.map (·.id) ++ putIds cs) : Lib.compact zs = idsK (hist l cs) := by
  have hd : ∀ i j, i ≤ j → j < zs.toArray.size → zs.toArray[i]! ≤ zs.toArray[j]! := by
    intro i j hij hj
    have hj' : j < zs.length := by simpa using hj
    have hi' : i < zs.length := by omega
    rw [getElem!_pos zs.toArray j hj, getElem!_pos zs.toArray i (show i < zs.toArray.size by simpa using hi')]
    show zs[i] ≤ zs[j]
    by_cases g : i = j
    · subst g; exact Int.le_refl _
    · exact List.pairwise_iff_getElem.1 hz i j hi' hj' (by omega)
  obtain ⟨h1, h2⟩ := compact_upto zs.toArray hd zs.length (by simp)
  refine rise_eq h1 (rise_idsK _) fun n => ?_
  show n ∈ Lib.compactUpTo zs.toArray zs.length ↔ _
  rw [h2, mem_idsK, mem_hist cs n hm, ← mem_putIds]
  have e1 : (∃ e ∈ l, e.id = n) ↔ n ∈ l.map (·.id) := by rw [List.mem_map]
  rw [e1, ← List.mem_append, ← h n, List.mem_iff_getElem]
  constructor
  · rintro ⟨j, hj, e⟩
    refine ⟨j, hj, ?_⟩
    rw [getElem!_pos zs.toArray j (show j < zs.toArray.size by simpa using hj)] at e
    exact e
  · rintro ⟨j, hj, e⟩
    refine ⟨j, hj, ?_⟩
    rw [getElem!_pos zs.toArray j (show j < zs.toArray.size by simpa using hj)]
    exact e
end Go.Proofs.Ytpcbfkcpefcnjaa
