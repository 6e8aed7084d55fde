/-
  Plain facts on rows of marks that are sorted by their places: what a block's turning round keeps, what an insertion sort keeps, what a merge of two sorted parts is.
-/
import Derived.Test.YtimlfgjljnkbcaaMarkMath
import Derived.Sort.LotA
import Derived.Lib.Small
import Derived.Shelf.SlSortCmp.Insertion
namespace Go.Proofs.Ytimlfgjljnkbcaa
open Go.RowKit
set_option linter.unusedVariables false

/-- What the program compares by. -/
def cfM (x y : Mrk) : Int := Lib.compareInt x.p y.p
def ltM : Mrk → Mrk → Bool := ltOf cfM
theorem cfM_neg {x y : Mrk} : cfM x y < 0 ↔ x.p < y.p := by
  unfold cfM Lib.compareInt
  split
  · simp; assumption
  · split
    · simp; omega
    · simp; omega
theorem ltM_iff {x y : Mrk} : ltM x y = true ↔ x.p < y.p := by
  unfold ltM ltOf
  rw [decide_eq_true_iff, cfM_neg]
theorem ltM_no {x y : Mrk} : ltM x y = false ↔ y.p ≤ x.p := by
  unfold ltM ltOf
  rw [decide_eq_false_iff_not, cfM_neg]
  omega
theorem swoM : Sort.SWO ltM := ⟨fun x => ltM_no.2 (Int.le_refl _), fun x y z h g => ltM_iff.2 (Int.lt_trans (ltM_iff.1 h) (ltM_iff.1 g)), fun x y z h g => ltM_no.2 (Int.le_trans (ltM_no.1 g) (ltM_no.1 h))⟩

/-- n of a row, from s on. -/
def seg (d : Array Mrk) (s n : Nat) : List Mrk := (List.range n).map fun i => d[s + i]!
theorem seg_len (d : Array Mrk) (s n : Nat) : (seg d s n).length = n := by simp [seg]
theorem seg_add (d : Array Mrk) (s n k : Nat) : seg d s (n + k) = seg d s n ++ seg d (s + n) k := by
  induction k with
  | zero => simp [seg]
  | succ k ih =>
    have h1 : seg d s (n + (k + 1)) = seg d s (n + k) ++ [d[s + (n + k)]!] := by
      unfold seg; rw [← Nat.add_assoc n k 1, List.range_succ, List.map_append]; rfl
    have h2 : seg d (s + n) (k + 1) = seg d (s + n) k ++ [d[s + n + k]!] := by
      unfold seg; rw [List.range_succ, List.map_append]; rfl
    rw [h1, h2, ih, List.append_assoc, Nat.add_assoc]
theorem seg_congr {d f : Array Mrk} {s t n : Nat} (h : ∀ i, i < n → f[s + i]! = d[t + i]!) : seg f s n = seg d t n := by
  unfold seg
  exact List.map_congr_left fun i hi => h i (List.mem_range.1 hi)
theorem seg_all (d : Array Mrk) : seg d 0 d.size = d.toList := by
  unfold seg
  refine List.ext_getElem (by simp) fun i h1 h2 => ?_
  have hi : i < d.size := by simpa using h1
  rw [List.getElem_map, List.getElem_range, Nat.zero_add, getElem!_pos d i hi]
  simp
theorem seg_mem {d : Array Mrk} {s n : Nat} {x : Mrk} (h : x ∈ seg d s n) : ∃ i, i < n ∧ x = d[s + i]! := by
  unfold seg at h
  obtain ⟨i, hi, rfl⟩ := List.mem_map.1 h
  exact ⟨i, List.mem_range.1 hi, rfl⟩

/-- Of each place the marks in their order. -/
def Kept (d f : Array Mrk) : Prop := ∀ v : Int, f.toList.filter (fun x => x.p == v) = d.toList.filter (fun x => x.p == v)
theorem Kept.refl (d : Array Mrk) : Kept d d := fun _ => rfl
theorem Kept.trans {d f g : Array Mrk} (h : Kept d f) (k : Kept f g) : Kept d g := fun v => (k v).trans (h v)
/-- Sorted within. -/
def SrtM (d : Array Mrk) (a b : Nat) : Prop := ∀ i j, a ≤ i → i < j → j < b → (d[i]!).p ≤ (d[j]!).p
theorem SrtM.le {d : Array Mrk} {a b : Nat} (h : SrtM d a b) {i j : Nat} (hi : a ≤ i) (hij : i ≤ j) (hj : j < b) : (d[i]!).p ≤ (d[j]!).p := by
  rcases Nat.eq_or_lt_of_le hij with rfl | g
  · exact Int.le_refl _
  · exact h i j hi g hj
/-- Turned within [a, b), where it stays as it was elsewhere. -/
structure Stab (a b : Nat) (d f : Array Mrk) : Prop where
  size : f.size = d.size
  out : ∀ x, x < a ∨ b ≤ x → f[x]! = d[x]!
  from_ : ∀ x, a ≤ x → x < b → ∃ y, a ≤ y ∧ y < b ∧ f[x]! = d[y]!
  kept : Kept d f
theorem Stab.refl (a b : Nat) (d : Array Mrk) : Stab a b d d := ⟨rfl, fun _ _ => rfl, fun x h1 h2 => ⟨x, h1, h2, rfl⟩, Kept.refl d⟩
theorem Stab.trans {a b : Nat} {d f g : Array Mrk} (h : Stab a b d f) (k : Stab a b f g) : Stab a b d g :=
  ⟨k.size.trans h.size, fun x hx => (k.out x hx).trans (h.out x hx), fun x h1 h2 => by
    obtain ⟨y, y1, y2, e⟩ := k.from_ x h1 h2
    obtain ⟨z, z1, z2, e2⟩ := h.from_ y y1 y2
    exact ⟨z, z1, z2, e.trans e2⟩, h.kept.trans k.kept⟩
theorem Stab.mono {a b a' b' : Nat} {d f : Array Mrk} (h : Stab a b d f) (ha : a' ≤ a) (hb : b ≤ b') : Stab a' b' d f :=
  ⟨h.size, fun x hx => h.out x (by omega), fun x h1 h2 => by
    by_cases hx : x < a ∨ b ≤ x
    · exact ⟨x, h1, h2, h.out x hx⟩
    · obtain ⟨y, y1, y2, e⟩ := h.from_ x (by omega) (by omega)
      exact ⟨y, by omega, by omega, e⟩, h.kept⟩

/-! ### Two blocks turned round -/
/-- Where what stands at x behind it stood ahead. -/
def RotP (a m b x y : Nat) : Prop := (x < a ∧ y = x) ∨ (b ≤ x ∧ y = x) ∨ (a ≤ x ∧ x < a + (b - m) ∧ y + a = x + m) ∨ (a + (b - m) ≤ x ∧ x < b ∧ y + (b - m) = x)
def Rot (d f : Array Mrk) (a m b : Nat) : Prop := f.size = d.size ∧ ∀ x y, RotP a m b x y → f[x]! = d[y]!
/-- n places exchanged with n others. -/
def SwrP (a b n x y : Nat) : Prop := (a ≤ x ∧ x < a + n ∧ y + a = x + b) ∨ (b ≤ x ∧ x < b + n ∧ y + b = x + a) ∨ (¬ (a ≤ x ∧ x < a + n) ∧ ¬ (b ≤ x ∧ x < b + n) ∧ y = x)
def Swr (d f : Array Mrk) (a b n : Nat) : Prop := f.size = d.size ∧ ∀ x y, SwrP a b n x y → f[x]! = d[y]!
theorem swr_none (d : Array Mrk) (a b : Nat) : Swr d d a b 0 := ⟨rfl, fun x y h => by rw [show y = x by unfold SwrP at h; omega]⟩
theorem swr_more {d f : Array Mrk} {a b n : Nat} (h : Swr d f a b n) (hab : a + n < b) (hb : b + n < d.size) : Swr d (Sort.swp f (a + n) (b + n)) a b (n + 1) := by
  refine ⟨by rw [Sort.size_swp]; exact h.1, fun x y hxy => ?_⟩
  have hfs := h.1
  by_cases h1 : x = a + n
  · subst h1
    rw [Sort.swp_left _ _ _ (by omega) (by omega)]
    exact h.2 (b + n) y (by unfold SwrP at hxy ⊢; omega)
  by_cases h2 : x = b + n
  · subst h2
    rw [Sort.swp_right _ _ _ (by omega)]
    exact h.2 (a + n) y (by unfold SwrP at hxy ⊢; omega)
  rw [Sort.swp_other _ _ _ _ h1 h2]
  exact h.2 x y (by unfold SwrP at hxy ⊢; omega)
theorem rot_whole {d f : Array Mrk} {m i : Nat} (h : Swr d f (m - i) m i) (hi : i ≤ m) : Rot d f (m - i) m (m + i) :=
  ⟨h.1, fun x y hxy => h.2 x y (by unfold RotP at hxy; unfold SwrP; omega)⟩
theorem rot_left {c d f : Array Mrk} {m i j : Nat} (h : Swr c d (m - i) m j) (hi : i ≤ m) (hij : j < i) (g : Rot d f (m - (i - j)) m (m + j)) : Rot c f (m - i) m (m + j) := by
  refine ⟨g.1.trans h.1, fun x y hxy => ?_⟩
  rcases (show (x < m - i + j ∨ m + j ≤ x) ∨ (m - i + j ≤ x ∧ x < m - i + j + j) ∨ (m - i + j + j ≤ x ∧ x < m + j) by omega) with hx | hx | hx
  · exact (g.2 x x (by unfold RotP; omega)).trans (h.2 x y (by unfold RotP at hxy; unfold SwrP; omega))
  · exact (g.2 x (x + i - j) (by unfold RotP; omega)).trans (h.2 _ y (by unfold RotP at hxy; unfold SwrP; omega))
  · exact (g.2 x (x - j) (by unfold RotP; omega)).trans (h.2 _ y (by unfold RotP at hxy; unfold SwrP; omega))
theorem rot_right {c d f : Array Mrk} {m i j : Nat} (h : Swr c d (m - i) (m + j - i) i) (hi : i ≤ m) (hij : i < j) (g : Rot d f (m - i) m (m + (j - i))) : Rot c f (m - i) m (m + j) := by
  refine ⟨g.1.trans h.1, fun x y hxy => ?_⟩
  rcases (show (x < m - i ∨ m + (j - i) ≤ x) ∨ (m - i ≤ x ∧ x < m - i + (j - i)) ∨ (m - i + (j - i) ≤ x ∧ x < m + (j - i)) by omega) with hx | hx | hx
  · exact (g.2 x x (by unfold RotP; omega)).trans (h.2 x y (by unfold RotP at hxy; unfold SwrP; omega))
  · exact (g.2 x (x + i) (by unfold RotP; omega)).trans (h.2 _ y (by unfold RotP at hxy; unfold SwrP; omega))
  · exact (g.2 x (x - (j - i)) (by unfold RotP; omega)).trans (h.2 _ y (by unfold RotP at hxy; unfold SwrP; omega))
/-- One that goes up, place by place; one that goes down. -/
theorem rot_id (d : Array Mrk) (a b : Nat) : Rot d d a a b ∧ Rot d d a b b := ⟨⟨rfl, fun x y h => by rw [show y = x by unfold RotP at h; omega]⟩, ⟨rfl, fun x y h => by rw [show y = x by unfold RotP at h; omega]⟩⟩
theorem rot_up {d f : Array Mrk} {a k : Nat} (h : Rot d f a (a + 1) (k + 1)) (hak : a ≤ k) (hk : k + 1 < d.size) : Rot d (Sort.swp f k (k + 1)) a (a + 1) (k + 2) := by
  have hfs := h.1
  refine ⟨by rw [Sort.size_swp]; exact h.1, fun x y hxy => ?_⟩
  by_cases h1 : x = k
  · subst h1
    rw [Sort.swp_left _ _ _ (by omega) (by omega)]
    exact h.2 (x + 1) y (by unfold RotP at hxy ⊢; omega)
  by_cases h2 : x = k + 1
  · subst h2
    rw [Sort.swp_right _ _ _ (by omega)]
    exact h.2 k y (by unfold RotP at hxy ⊢; omega)
  rw [Sort.swp_other _ _ _ _ h1 h2]
  exact h.2 x y (by unfold RotP at hxy ⊢; omega)
theorem rot_down {d f : Array Mrk} {m k : Nat} (h : Rot d f (k + 1) m (m + 1)) (hk : k + 1 ≤ m) (hm : m < d.size) : Rot d (Sort.swp f (k + 1) k) k m (m + 1) := by
  have hfs := h.1
  refine ⟨by rw [Sort.size_swp]; exact h.1, fun x y hxy => ?_⟩
  by_cases h1 : x = k + 1
  · subst h1
    rw [Sort.swp_left _ _ _ (by omega) (by omega)]
    exact h.2 k y (by unfold RotP at hxy ⊢; omega)
  by_cases h2 : x = k
  · subst h2
    rw [Sort.swp_right _ _ _ (by omega)]
    exact h.2 (x + 1) y (by unfold RotP at hxy ⊢; omega)
  rw [Sort.swp_other _ _ _ _ h1 h2]
  exact h.2 x y (by unfold RotP at hxy ⊢; omega)
/-- What is turned round past what is less keeps the order of equals. -/
theorem Rot.stab {d f : Array Mrk} {a m b : Nat} (h : Rot d f a m b) (ham : a ≤ m) (hmb : m ≤ b) (hb : b ≤ d.size) (hlt : ∀ x y, a ≤ x → x < m → m ≤ y → y < b → (d[y]!).p < (d[x]!).p) : Stab a b d f := by
  refine ⟨h.1, fun x hx => h.2 x x (by unfold RotP; omega), fun x h1 h2 => ?_, fun v => ?_⟩
  · by_cases hx : x < a + (b - m)
    · exact ⟨x + m - a, by omega, by omega, h.2 _ _ (by unfold RotP; omega)⟩
    · exact ⟨x - (b - m), by omega, by omega, h.2 _ _ (by unfold RotP; omega)⟩
  have e1 : d.toList = seg d 0 a ++ seg d a (m - a) ++ seg d m (b - m) ++ seg d b (d.size - b) := by
    rw [← seg_all]
    conv => lhs; rw [show d.size = a + (m - a) + (b - m) + (d.size - b) by omega]
    rw [seg_add, seg_add, seg_add, Nat.zero_add, show a + (m - a) = m by omega, show 0 + (m + (b - m)) = b by omega, Nat.zero_add]
  have e2 : f.toList = seg d 0 a ++ seg d m (b - m) ++ seg d a (m - a) ++ seg d b (d.size - b) := by
    rw [← seg_all, h.1]
    conv => lhs; rw [show d.size = a + (b - m) + (m - a) + (d.size - b) by omega]
    rw [seg_add, seg_add, seg_add, Nat.zero_add, Nat.zero_add, Nat.zero_add, show a + (b - m) + (m - a) = b by omega]
    rw [seg_congr (d := d) (f := f) (s := 0) (t := 0) (n := a) (fun i hi => h.2 _ _ (by unfold RotP; omega)),
      seg_congr (d := d) (f := f) (s := a) (t := m) (n := b - m) (fun i hi => h.2 _ _ (by unfold RotP; omega)),
      seg_congr (d := d) (f := f) (s := a + (b - m)) (t := a) (n := m - a) (fun i hi => h.2 _ _ (by unfold RotP; omega)),
      seg_congr (d := d) (f := f) (s := b) (t := b) (n := d.size - b) (fun i hi => h.2 _ _ (by unfold RotP; omega))]
  rw [e1, e2]
  simp only [List.filter_append]
  by_cases hv : (seg d m (b - m)).filter (fun x => x.p == v) = []
  · rw [hv]
    simp
  · have hu : (seg d a (m - a)).filter (fun x => x.p == v) = [] := by
      rw [List.filter_eq_nil_iff]
      intro x hx hp
      rw [List.filter_eq_nil_iff] at hv
      apply hv
      intro y hy hq
      obtain ⟨i, hi, rfl⟩ := seg_mem hx
      obtain ⟨j, hj, rfl⟩ := seg_mem hy
      have := hlt (a + i) (m + j) (by omega) (by omega) (by omega) (by omega)
      have e3 : (d[a + i]!).p = v := by simpa using hp
      have e4 : (d[m + j]!).p = v := by simpa using hq
      omega
    rw [hu]
    simp

/-! ### The insertion sort -/
theorem adj_stab {d : Array Mrk} {j : Nat} (hj : j + 1 < d.size) (hl : ltM d[j + 1]! d[j]! = true) : Stab j (j + 2) d (Sort.swp d (j + 1) j) := by
  have h0 : Rot d (Sort.swp d (j + 1) j) j (j + 1) (j + 2) := rot_down ((rot_id d (j + 1) (j + 2)).1) (by omega) (by omega)
  refine h0.stab (by omega) (by omega) (by omega) fun x y h1 h2 h3 h4 => ?_
  obtain rfl : x = j := by omega
  obtain rfl : y = x + 1 := by omega
  exact ltM_iff.1 hl
theorem insInner_stab (a b : Nat) : ∀ (j : Nat) (d : Array Mrk), j < b → b ≤ d.size → Stab a b d (Sort.insInner ltM a j d)
  | 0, d, _, _ => by rw [Sort.insInner]; exact Stab.refl _ _ _
  | j + 1, d, hj, hb => by
    rw [Sort.insInner]
    split
    · rename_i h
      simp only [Bool.and_eq_true, decide_eq_true_eq] at h
      have h1 := (adj_stab (by omega) h.2).mono (a' := a) (b' := b) (by omega) (by omega)
      exact h1.trans (insInner_stab a b j _ (by omega) (by rw [Sort.size_swp]; exact hb))
    · exact Stab.refl _ _ _
theorem insOuter_stab (a b : Nat) : ∀ (n i : Nat) (d : Array Mrk), b - i ≤ n → b ≤ d.size → Stab a b d (Sort.insOuter ltM a b i d)
  | 0, i, d, hn, hb => by rw [Sort.insOuter, if_neg (by omega)]; exact Stab.refl _ _ _
  | n + 1, i, d, hn, hb => by
    rw [Sort.insOuter]
    split
    · rename_i h
      have h1 := insInner_stab a b i d h hb
      exact h1.trans (insOuter_stab a b n (i + 1) _ (by omega) (by rw [h1.size]; exact hb))
    · exact Stab.refl _ _ _
theorem ins_stab (d : Array Mrk) (a b : Nat) (hab : a ≤ b) (hb : b ≤ d.size) : Stab a b d (Sort.insertionSort ltM d a b) ∧ SrtM (Sort.insertionSort ltM d a b) a b :=
  ⟨insOuter_stab a b _ _ d (Nat.le_refl _) hb, fun i j h1 h2 h3 => ltM_no.1 ((Sort.insertionSort_holds swoM d a b hab hb).2 i j h1 h2 h3)⟩

/-! ### Two sorted parts -/
/-- What lies at most p ahead, at least p behind, is sorted as a whole. -/
theorem srt_join {d : Array Mrk} {a m b : Nat} (h1 : SrtM d a m) (h2 : SrtM d m b) (h : ∀ x y, a ≤ x → x < m → m ≤ y → y < b → (d[x]!).p ≤ (d[y]!).p) : SrtM d a b := fun i j hi hij hj => by
  by_cases hm : j < m
  · exact h1 i j hi hij hm
  · by_cases hi2 : i < m
    · exact h i j hi hi2 (by omega) hj
    · exact h2 i j (by omega) hij hj
/-- The cut that the search finds: s from the left part, the others from the right one. -/
structure CutS (d : Array Mrk) (a m b mid s : Nat) : Prop where
  lo : a ≤ s
  sm : s ≤ m
  smid : s ≤ mid
  e1 : m ≤ mid + m - s
  e2 : mid + m - s ≤ b
  emid : mid ≤ mid + m - s
  low : ∀ x y, a ≤ x → x < s → mid + m - s ≤ y → y < b → (d[x]!).p ≤ (d[y]!).p
  up : ∀ x y, s ≤ x → x < m → m ≤ y → y < mid + m - s → (d[y]!).p < (d[x]!).p
theorem cut_found {d : Array Mrk} {a m b mid s s0 r0 : Nat} (hA : SrtM d a m) (hB : SrtM d m b) (ham : a < m) (hmb : m < b) (hmid : mid = (a + b) / 2)
    (h0 : (mid < m ∧ s0 = mid + m - b ∧ r0 = mid) ∨ (m ≤ mid ∧ s0 = a ∧ r0 = m)) (hs : s0 ≤ s) (hr : s ≤ r0)
    (hlo : ∀ c, s0 ≤ c → c < s → (d[c]!).p ≤ (d[mid + m - 1 - c]!).p) (hup : s < r0 → (d[mid + m - 1 - s]!).p < (d[s]!).p) : CutS d a m b mid s := by
  refine ⟨by omega, by omega, by omega, by omega, by omega, by omega, fun x y h1 h2 h3 h4 => ?_, fun x y h1 h2 h3 h4 => ?_⟩
  · have e : mid + m - 1 - (s - 1) = mid + m - s := by omega
    have h5 := hlo (s - 1) (by omega) (by omega)
    rw [e] at h5
    exact Int.le_trans (hA.le h1 (show x ≤ s - 1 by omega) (by omega)) (Int.le_trans h5 (hB.le (by omega) h3 h4))
  · have h5 := hup (by omega)
    exact Int.lt_of_le_of_lt (hB.le h3 (show y ≤ mid + m - 1 - s by omega) (by omega)) (Int.lt_of_lt_of_le h5 (hA.le (by omega) h1 h2))
/-- Behind the turning round: four parts, of which the two on the left lie no further than the two on the right. -/
theorem cut_parts {d f : Array Mrk} {a m b mid s : Nat} (C : CutS d a m b mid s) (hA : SrtM d a m) (hB : SrtM d m b) (hb : b ≤ d.size) (h : Rot d f s m (mid + m - s)) :
    Stab a b d f ∧ SrtM f a s ∧ SrtM f s mid ∧ SrtM f mid (mid + m - s) ∧ SrtM f (mid + m - s) b ∧ ∀ x y, a ≤ x → x < mid → mid ≤ y → y < b → (f[x]!).p ≤ (f[y]!).p := by
  obtain ⟨c1, c2, c3, c4, c5, c6, low, up⟩ := C
  have g : ∀ x y, RotP s m (mid + m - s) x y → f[x]! = d[y]! := h.2
  refine ⟨(h.stab c2 c4 (by omega) up).mono c1 c5, fun i j h1 h2 h3 => ?_, fun i j h1 h2 h3 => ?_, fun i j h1 h2 h3 => ?_, fun i j h1 h2 h3 => ?_, fun x y h1 h2 h3 h4 => ?_⟩
  · rw [g i i (by unfold RotP; omega), g j j (by unfold RotP; omega)]
    exact hA i j h1 h2 (by omega)
  · rw [g i (i + m - s) (by unfold RotP; omega), g j (j + m - s) (by unfold RotP; omega)]
    exact hB _ _ (by omega) (by omega) (by omega)
  · rw [g i (i + s - mid) (by unfold RotP; omega), g j (j + s - mid) (by unfold RotP; omega)]
    exact hA _ _ (by omega) (by omega) (by omega)
  · rw [g i i (by unfold RotP; omega), g j j (by unfold RotP; omega)]
    exact hB i j (by omega) h2 h3
  · by_cases hx : x < s
    · rw [g x x (by unfold RotP; omega)]
      by_cases hy : y < mid + m - s
      · rw [g y (y + s - mid) (by unfold RotP; omega)]
        exact hA.le h1 (by omega) (by omega)
      · rw [g y y (by unfold RotP; omega)]
        exact low x y h1 hx (by omega) h4
    · rw [g x (x + m - s) (by unfold RotP; omega)]
      by_cases hy : y < mid + m - s
      · rw [g y (y + s - mid) (by unfold RotP; omega)]
        exact Int.le_of_lt (up _ _ (by omega) (by omega) (by omega) (by omega))
      · rw [g y y (by unfold RotP; omega)]
        exact hB.le (by omega) (by omega) h4
/-- Where nothing is turned round, it is as it was. -/
theorem cut_still {d : Array Mrk} {a m b mid s : Nat} (C : CutS d a m b mid s) (h : ¬ (s < m ∧ m < mid + m - s)) : Rot d d s m (mid + m - s) := by
  refine ⟨rfl, fun x y hxy => ?_⟩
  have h1 := C.sm
  have h2 := C.e1
  rw [show y = x by unfold RotP at hxy; omega]
/-- The left part sorted, then the right one. -/
theorem merge_left {d f : Array Mrk} {a mid b : Nat} (ham : a ≤ mid) (hmb : mid ≤ b) (S : Stab a mid d f) (h : ∀ x y, a ≤ x → x < mid → mid ≤ y → y < b → (d[x]!).p ≤ (d[y]!).p) : ∀ x y, a ≤ x → x < mid → mid ≤ y → y < b → (f[x]!).p ≤ (f[y]!).p := fun x y h1 h2 h3 h4 => by
  obtain ⟨z, z1, z2, e⟩ := S.from_ x h1 h2
  rw [e, S.out y (by omega)]
  exact h z y z1 z2 h3 h4
theorem merge_right {d f : Array Mrk} {a mid b : Nat} (ham : a ≤ mid) (hmb : mid ≤ b) (S : Stab mid b d f) (h : ∀ x y, a ≤ x → x < mid → mid ≤ y → y < b → (d[x]!).p ≤ (d[y]!).p) : ∀ x y, a ≤ x → x < mid → mid ≤ y → y < b → (f[x]!).p ≤ (f[y]!).p := fun x y h1 h2 h3 h4 => by
  obtain ⟨z, z1, z2, e⟩ := S.from_ y h3 h4
  rw [e, S.out x (by omega)]
  exact h x z h1 h2 z1 z2
theorem SrtM.of {d f : Array Mrk} {a b : Nat} (h : SrtM d a b) (e : ∀ x, a ≤ x → x < b → f[x]! = d[x]!) : SrtM f a b := fun i j h1 h2 h3 => by
  rw [e i h1 (by omega), e j (by omega) h3]
  exact h i j h1 h2 h3
/-- One mark on the left, one on the right. -/
theorem one_left {d f : Array Mrk} {a b i : Nat} (hB : SrtM d (a + 1) b) (hi : a + 1 ≤ i) (hib : i ≤ b) (hb : b ≤ d.size) (hlo : ∀ t, a + 1 ≤ t → t < i → (d[t]!).p < (d[a]!).p) (hup : ∀ t, i ≤ t → t < b → (d[a]!).p ≤ (d[t]!).p) (h : Rot d f a (a + 1) i) :
    Stab a b d f ∧ SrtM f a b := by
  have g : ∀ x y, RotP a (a + 1) i x y → f[x]! = d[y]! := h.2
  refine ⟨(h.stab (by omega) hi (by omega) fun x y h1 h2 h3 h4 => ?_).mono (Nat.le_refl _) hib, fun x y h1 h2 h3 => ?_⟩
  · obtain rfl : x = a := by omega
    exact hlo y h3 h4
  · by_cases hy : y < i - 1
    · rw [g x (x + 1) (by unfold RotP; omega), g y (y + 1) (by unfold RotP; omega)]
      exact hB _ _ (by omega) (by omega) (by omega)
    · by_cases hy2 : y = i - 1
      · rw [g x (x + 1) (by unfold RotP; omega), g y a (by unfold RotP; omega)]
        exact Int.le_of_lt (hlo _ (by omega) (by omega))
      · rw [g y y (by unfold RotP; omega)]
        by_cases hx : x < i - 1
        · rw [g x (x + 1) (by unfold RotP; omega)]
          exact hB _ _ (by omega) (by omega) (by omega)
        · by_cases hx2 : x = i - 1
          · rw [g x a (by unfold RotP; omega)]
            exact hup y (by omega) h3
          · rw [g x x (by unfold RotP; omega)]
            exact hB _ _ (by omega) h2 h3
theorem one_right {d f : Array Mrk} {a m i : Nat} (hA : SrtM d a m) (hi : a ≤ i) (him : i ≤ m) (hb : m + 1 ≤ d.size) (hlo : ∀ t, a ≤ t → t < i → (d[t]!).p ≤ (d[m]!).p) (hup : ∀ t, i ≤ t → t < m → (d[m]!).p < (d[t]!).p) (h : Rot d f i m (m + 1)) :
    Stab a (m + 1) d f ∧ SrtM f a (m + 1) := by
  have g : ∀ x y, RotP i m (m + 1) x y → f[x]! = d[y]! := h.2
  refine ⟨(h.stab him (by omega) (by omega) fun x y h1 h2 h3 h4 => ?_).mono hi (Nat.le_refl _), fun x y h1 h2 h3 => ?_⟩
  · obtain rfl : y = m := by omega
    exact hup x h1 h2
  · by_cases hx : x < i
    · rw [g x x (by unfold RotP; omega)]
      by_cases hy : y < i
      · rw [g y y (by unfold RotP; omega)]
        exact hA x y h1 h2 (by omega)
      · by_cases hy2 : y = i
        · rw [g y m (by unfold RotP; omega)]
          exact hlo x h1 hx
        · rw [g y (y - 1) (by unfold RotP; omega)]
          exact hA x _ h1 (by omega) (by omega)
    · by_cases hx2 : x = i
      · rw [g x m (by unfold RotP; omega), g y (y - 1) (by unfold RotP; omega)]
        exact Int.le_of_lt (hup _ (by omega) (by omega))
      · rw [g x (x - 1) (by unfold RotP; omega), g y (y - 1) (by unfold RotP; omega)]
        exact hA _ _ (by omega) (by omega) (by omega)
end Go.Proofs.Ytimlfgjljnkbcaa
