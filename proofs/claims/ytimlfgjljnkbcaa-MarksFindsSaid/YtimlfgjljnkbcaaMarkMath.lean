/-
  Plain facts on lists of marks: where one stands, whether names rise, what is right, one more and one less, shifted.
-/
import Derived.Test.YtimlfgjljnkbcaaMrk
import Derived.Test.YtimlfgjljnkbcaaOpMath
import Derived.Test.YtimlfgjljnkbcaaUtfEdge
import Derived.Sort.Walk0
namespace Go.Proofs.Ytimlfgjljnkbcaa
open Go.RowKit
set_option linter.unusedVariables false

instance : Inhabited Mrk := ⟨⟨⟨#[]⟩, 0⟩⟩
theorem mget {l : List Mrk} {k : Nat} (h : k < l.length) : l[k]! = l[k] := getElem!_pos l k h
theorem take_mrk (l : List Mrk) (k : Nat) (h : k < l.length) : l.take (k + 1) = l.take k ++ [l[k]!] := by
  rw [List.take_succ_eq_append_getElem h, mget h]

/-- Of all numbers below n. -/
def allN (n : Nat) (f : Nat → Bool) : Bool := (List.range n).all f
theorem allN_iff {n : Nat} {f : Nat → Bool} : allN n f = true ↔ ∀ i, i < n → f i = true := by
  unfold allN
  rw [List.all_eq_true]
  exact ⟨fun h i hi => h i (List.mem_range.2 hi), fun h i hi => h i (List.mem_range.1 hi)⟩
theorem allN_no {n i : Nat} {f : Nat → Bool} (hi : i < n) (h : f i = false) : allN n f = false := by
  cases hc : allN n f
  · rfl
  · rw [allN_iff.1 hc i hi] at h; cases h

/-! ### Names -/
def nmB (s : ByteArray) (x : Mrk) : Bool := decide (x.name = s)
/-- Is a no further than b? -/
def nleB (a b : ByteArray) : Bool := Op.bytesLess a.toList b.toList || a.toList == b.toList
def gtB (s : ByteArray) (x : Mrk) : Bool := !nleB x.name s
def ltN (a b : ByteArray) : Prop := a.data.toList < b.data.toList
theorem ltN_trans {a b c : ByteArray} (h : ltN a b) (k : ltN b c) : ltN a c := List.lt_trans h k
theorem ltN_irr (a : ByteArray) : ¬ ltN a a := List.lt_irrefl _
theorem less_eq (a b : ByteArray) : Op.bytesLess a.toList b.toList = decide (a.data.toList < b.data.toList) := by
  rw [bytesLess_eq, ByteArray.toList_eq, ByteArray.toList_eq]
theorem nleB_iff (a b : ByteArray) : nleB a b = false ↔ ltN b a := by
  unfold nleB
  rw [less_eq, Bool.or_eq_false_iff, decide_eq_false_iff_not, beq_eq_false_iff_ne, ByteArray.toList_eq, ByteArray.toList_eq]
  constructor
  · rintro ⟨h, h2⟩
    unfold ltN
    rcases Decidable.em (b.data.toList < a.data.toList) with g | g
    · exact g
    · exact absurd (List.le_antisymm (List.not_lt.1 g) (List.not_lt.1 h)) h2
  · intro h
    exact ⟨fun g => List.lt_irrefl _ (List.lt_trans h g), fun g => by unfold ltN at h; rw [g] at h; exact List.lt_irrefl _ h⟩
/-- No less: as '>=' reads. -/
theorem ngeB (a b : ByteArray) : (!Op.bytesLess b.toList a.toList) = nleB a b := by
  cases h : nleB a b
  · have := (nleB_iff a b).1 h
    unfold ltN at this
    rw [less_eq, decide_eq_true this]
    rfl
  · rw [less_eq]
    by_cases g : b.data.toList < a.data.toList
    · rw [(nleB_iff a b).2 g] at h; cases h
    · rw [decide_eq_false g]; rfl
theorem gtB_iff (s : ByteArray) (x : Mrk) : gtB s x = true ↔ ltN s x.name := by
  unfold gtB
  rw [← nleB_iff, Bool.not_eq_true']
theorem nleB_parts {a b : ByteArray} (h : nleB a b = true) : Op.bytesLess a.toList b.toList = true ∨ a = b := by
  unfold nleB at h
  cases hb : Op.bytesLess a.toList b.toList
  · right
    rw [hb] at h
    simp at h
    exact ByteArray.ext (by
      have := h
      rw [ByteArray.toList_eq, ByteArray.toList_eq] at this
      exact Array.toList_inj.1 this)
  · exact .inl rfl
theorem nleB_off {a b : ByteArray} (h : nleB a b = false) : Op.bytesLess a.toList b.toList = false ∧ (a.toList == b.toList) = false := by
  unfold nleB at h
  simpa using h

/-! ### Rising, right -/
def riseM (l : List Mrk) : Bool := allN (l.length - 1) fun i => !nleB (l[i + 1]!).name (l[i]!).name
def okM (t : ByteArray) (x : Mrk) : Bool := markB x.name.data.toList && edgeB t.data.toList x.p
def rightM (l : List Mrk) (t : ByteArray) : Bool := allN l.length (fun i => okM t l[i]!) && (decide (l.length ≤ 16) && riseM l)
theorem riseM_iff (l : List Mrk) : riseM l = true ↔ ∀ i, i + 1 < l.length → nleB (l[i + 1]!).name (l[i]!).name = false := by
  unfold riseM
  rw [allN_iff]
  exact ⟨fun h i hi => by simpa using h i (by omega), fun h i hi => by simpa using h i (by omega)⟩
theorem riseM_no {l : List Mrk} {i : Nat} (hi : i + 1 < l.length) (h : nleB (l[i + 1]!).name (l[i]!).name = true) : riseM l = false := by
  unfold riseM
  exact allN_no (i := i) (by omega) (by rw [h]; rfl)
theorem rise_lt {l : List Mrk} (h : riseM l = true) : ∀ {i j : Nat}, i < j → j < l.length → ltN (l[i]!).name (l[j]!).name := by
  intro i j hij
  obtain ⟨d, rfl⟩ : ∃ d, j = i + 1 + d := ⟨j - i - 1, by omega⟩
  clear hij
  induction d with
  | zero => exact fun hj => (nleB_iff _ _).1 ((riseM_iff l).1 h i hj)
  | succ d ih => exact fun hj => ltN_trans (ih (by omega)) ((nleB_iff _ _).1 ((riseM_iff l).1 h (i + 1 + d) (by omega)))
theorem rightM_iff (l : List Mrk) (t : ByteArray) : rightM l t = true ↔ (∀ i, i < l.length → okM t l[i]! = true) ∧ l.length ≤ 16 ∧ riseM l = true := by
  unfold rightM
  rw [Bool.and_eq_true, Bool.and_eq_true, allN_iff, decide_eq_true_iff]

/-! ### The first one -/
theorem idx_yes {l : List Mrk} {f : Mrk → Bool} {k : Nat} (hk : k < l.length) (h : ∀ j, j < k → f l[j]! = false) (hx : f l[k]! = true) : l.findIdx f = k := by
  rw [List.findIdx_eq hk]
  refine ⟨by rw [← mget hk]; exact hx, fun j hj => ?_⟩
  have := h j hj
  rw [mget (by omega)] at this
  exact this
theorem idx_no {l : List Mrk} {f : Mrk → Bool} (h : ∀ j, j < l.length → f l[j]! = false) : l.findIdx f = l.length := by
  rw [List.findIdx_eq_length]
  intro x hx
  obtain ⟨j, hj, rfl⟩ := List.getElem_of_mem hx
  rw [← mget hj]
  exact h j hj
theorem idx_le (l : List Mrk) (f : Mrk → Bool) : l.findIdx f ≤ l.length := List.findIdx_le_length
theorem idx_ahead {l : List Mrk} {f : Mrk → Bool} {j : Nat} (hj : j < l.findIdx f) : f l[j]! = false := by
  have hl : j < l.length := Nat.lt_of_lt_of_le hj (idx_le l f)
  rw [mget hl]
  exact List.not_of_lt_findIdx hj
theorem idx_at {l : List Mrk} {f : Mrk → Bool} (h : l.findIdx f < l.length) : f l[l.findIdx f]! = true := by
  rw [mget h]
  exact List.findIdx_getElem (w := h)
/-- The first one's place, and whether there is one. -/
def fndM (l : List Mrk) (s : ByteArray) : Int × Bool := if l.findIdx (nmB s) < l.length then ((l[l.findIdx (nmB s)]!).p, true) else (0, false)

/-! ### One less, one more -/
def dropM (l : List Mrk) (s : ByteArray) : List Mrk := l.filter fun x => !nmB s x
theorem dropM_len (l : List Mrk) (s : ByteArray) : (dropM l s).length ≤ l.length := List.length_filter_le _ _
theorem dropM_same (l : List Mrk) (s : ByteArray) (k : Nat) (h : k < l.length) (h2 : (l[k]!).name = s) : dropM (l.take (k + 1)) s = dropM (l.take k) s := by
  unfold dropM
  rw [take_mrk l k h, List.filter_append, List.filter_cons_of_neg (by unfold nmB; rw [decide_eq_true h2]; decide)]
  simp
theorem dropM_more (l : List Mrk) (s : ByteArray) (k : Nat) (h : k < l.length) (h2 : ¬ (l[k]!).name = s) : dropM (l.take (k + 1)) s = dropM (l.take k) s ++ [l[k]!] := by
  unfold dropM
  rw [take_mrk l k h, List.filter_append, List.filter_cons_of_pos (by unfold nmB; rw [decide_eq_false h2]; rfl)]
  rfl
/-- A list with x in front of what stands at j. -/
def putM (l : List Mrk) (x : Mrk) (j : Nat) : List Mrk := l.take j ++ [x] ++ l.drop j
theorem putM_len (l : List Mrk) (x : Mrk) (j : Nat) (h : j ≤ l.length) : (putM l x j).length = l.length + 1 := by
  unfold putM
  simp
  omega
def withM (l : List Mrk) (x : Mrk) : List Mrk := putM l x (l.findIdx (gtB x.name))
/-- What stands there behind k of them. -/
def withT (l : List Mrk) (x : Mrk) (j k : Nat) : List Mrk := if k ≤ j then l.take k else l.take j ++ [x] ++ (l.drop j).take (k - j)
theorem withT_len (l : List Mrk) (x : Mrk) (j k : Nat) (hk : k ≤ l.length) : (withT l x j k).length ≤ k + 1 := by
  unfold withT
  split
  · simp; omega
  · simp; omega
theorem withT_ahead {l : List Mrk} {x : Mrk} {j k : Nat} (hk : k < l.length) (h : k < j) : withT l x j (k + 1) = withT l x j k ++ [l[k]!] := by
  unfold withT
  rw [if_pos (by omega), if_pos (by omega), take_mrk l k hk]
theorem withT_at {l : List Mrk} {x : Mrk} {k : Nat} (hk : k < l.length) : withT l x k (k + 1) = withT l x k k ++ [x] ++ [l[k]!] := by
  unfold withT
  rw [if_neg (by omega), if_pos (by omega)]
  congr 1
  rw [Nat.add_sub_cancel_left, List.drop_eq_getElem_cons hk, List.take_succ_cons, mget hk]
  rfl
theorem withT_behind {l : List Mrk} {x : Mrk} {j k : Nat} (hk : k < l.length) (h : j < k) : withT l x j (k + 1) = withT l x j k ++ [l[k]!] := by
  unfold withT
  rw [if_neg (by omega), if_neg (by omega), List.append_assoc (l.take j ++ [x])]
  congr 1
  have hd : k - j < (l.drop j).length := by rw [List.length_drop]; omega
  rw [show k + 1 - j = (k - j) + 1 by omega, List.take_succ_eq_append_getElem hd, List.getElem_drop, mget hk]
  congr 3
  omega
theorem withT_end {l : List Mrk} {x : Mrk} {j : Nat} (h : j < l.length) : withT l x j l.length = putM l x j := by
  unfold withT putM
  rw [if_neg (by omega), List.take_of_length_le (l := l.drop j) (by rw [List.length_drop]; omega)]
theorem withT_none {l : List Mrk} {x : Mrk} : withT l x l.length l.length ++ [x] = putM l x l.length := by
  unfold withT putM
  rw [if_pos (Nat.le_refl _)]
  simp
/-- What Set tells, as the document has it. -/
def setM (l : List Mrk) (x : Mrk) : List Mrk × Int :=
  if markB x.name.data.toList = false then ([], 7)
  else if l.findIdx (nmB x.name) < l.length then (withM (dropM l x.name) x, 0)
  else if 16 ≤ l.length then ([], 9) else (withM l x, 0)
def drpM (l : List Mrk) (s : ByteArray) : List Mrk × Int := if l.findIdx (nmB s) < l.length then (dropM l s, 0) else ([], 8)

/-- Of a rising list the one of a name goes alone. -/
theorem drop_rise {l : List Mrk} {s : ByteArray} (h : riseM l = true) (hi : l.findIdx (nmB s) < l.length) : dropM l s = l.take (l.findIdx (nmB s)) ++ l.drop (l.findIdx (nmB s) + 1) := by
  obtain ⟨i, he⟩ : ∃ i, l.findIdx (nmB s) = i := ⟨_, rfl⟩
  have h1 := idx_at hi
  have h2 := fun j => idx_ahead (l := l) (f := nmB s) (j := j)
  rw [he] at hi h1 h2 ⊢
  have e : l = l.take i ++ l[i]! :: l.drop (i + 1) := by rw [mget hi]; simp
  have ha : (l.take i).filter (fun x => !nmB s x) = l.take i := List.filter_eq_self.2 fun x hx => by
    obtain ⟨j, hj, rfl⟩ := List.getElem_of_mem hx
    rw [List.length_take] at hj
    have := h2 j (by omega)
    rw [List.getElem_take, ← mget (by omega), this]
    rfl
  have hb : (l.drop (i + 1)).filter (fun x => !nmB s x) = l.drop (i + 1) := List.filter_eq_self.2 fun x hx => by
    obtain ⟨j, hj, rfl⟩ := List.getElem_of_mem hx
    rw [List.length_drop] at hj
    rw [List.getElem_drop, ← mget (by omega)]
    have := rise_lt h (show i < i + 1 + j by omega) (by omega)
    unfold nmB at h1 ⊢
    have h1' := of_decide_eq_true h1
    rw [h1'] at this
    rw [decide_eq_false (fun g => by rw [g] at this; exact ltN_irr _ this)]
    rfl
  unfold dropM
  conv => lhs; rw [e]
  rw [List.filter_append, List.filter_cons_of_neg (by rw [h1]; decide), ha, hb]
theorem set_rise {l : List Mrk} {x : Mrk} (h : riseM l = true) (hi : l.findIdx (nmB x.name) < l.length) :
    withM (dropM l x.name) x = l.take (l.findIdx (nmB x.name)) ++ [x] ++ l.drop (l.findIdx (nmB x.name) + 1) := by
  rw [drop_rise h hi]
  obtain ⟨i, he⟩ : ∃ i, l.findIdx (nmB x.name) = i := ⟨_, rfl⟩
  have h1 := idx_at hi
  rw [he] at hi h1 ⊢
  have h1' : (l[i]!).name = x.name := of_decide_eq_true h1
  have hlt : (l.take i).length = i := by rw [List.length_take]; omega
  have hj : (l.take i ++ l.drop (i + 1)).findIdx (gtB x.name) = i := by
    have ha : ∀ j, j < i → gtB x.name (l.take i ++ l.drop (i + 1))[j]! = false := fun j hj => by
      have hj2 : j < (l.take i ++ l.drop (i + 1)).length := by rw [List.length_append, hlt]; omega
      rw [mget hj2, List.getElem_append_left (by rw [hlt]; exact hj), List.getElem_take, ← mget (by omega)]
      have := rise_lt h hj hi
      rw [h1'] at this
      cases hc : gtB x.name l[j]!
      · rfl
      · exact absurd (ltN_trans this ((gtB_iff _ _).1 hc)) (ltN_irr _)
    by_cases hn : i + 1 < l.length
    · have hi2 : i < (l.take i ++ l.drop (i + 1)).length := by rw [List.length_append, hlt, List.length_drop]; omega
      refine idx_yes hi2 ha ?_
      rw [mget hi2, List.getElem_append_right (by rw [hlt]; omega), List.getElem_drop, ← mget (by rw [hlt]; omega), gtB_iff]
      have := rise_lt h (show i < i + 1 by omega) hn
      rw [h1'] at this
      simpa [hlt] using this
    · have e2 : (l.take i ++ l.drop (i + 1)).length = i := by rw [List.length_append, hlt, List.length_drop]; omega
      have := idx_no (l := l.take i ++ l.drop (i + 1)) (f := gtB x.name) (fun j hj => ha j (by rw [e2] at hj; exact hj))
      rw [this, e2]
  unfold withM putM
  rw [hj]
  congr 1
  · congr 1
    rw [List.take_append_of_le_length (by rw [hlt]; exact Nat.le_refl _), List.take_take, Nat.min_self]
  · conv => lhs; rw [show i = (l.take i).length + 0 by rw [hlt]; rfl]
    rw [List.drop_append]
    simp [hlt]

/-! ### Shifted -/
def shfM (l : List Mrk) (f : Int → Int) : List Mrk := l.map fun x => ⟨x.name, f x.p⟩
theorem shfM_take (l : List Mrk) (f : Int → Int) (k : Nat) (h : k < l.length) : shfM (l.take (k + 1)) f = shfM (l.take k) f ++ [⟨(l[k]!).name, f (l[k]!).p⟩] := by
  unfold shfM
  rw [take_mrk l k h, List.map_append]
  rfl
theorem shfM_len (l : List Mrk) (f : Int → Int) : (shfM l f).length = l.length := by simp [shfM]
theorem shfM_get (l : List Mrk) (f : Int → Int) (i : Nat) (h : i < l.length) : (shfM l f)[i]! = ⟨(l[i]!).name, f (l[i]!).p⟩ := by
  rw [mget (by rw [shfM_len]; exact h), mget h]
  simp [shfM]
theorem shfM_rise (l : List Mrk) (f : Int → Int) : riseM (shfM l f) = riseM l := by
  unfold riseM
  rw [shfM_len]
  unfold allN
  rw [Bool.eq_iff_iff, List.all_eq_true, List.all_eq_true]
  constructor
  · intro h i hi
    have hi' := List.mem_range.1 hi
    have := h i hi
    rw [shfM_get l f i (by omega), shfM_get l f (i + 1) (by omega)] at this
    exact this
  · intro h i hi
    have hi' := List.mem_range.1 hi
    rw [shfM_get l f i (by omega), shfM_get l f (i + 1) (by omega)]
    exact h i hi
end Go.Proofs.Ytimlfgjljnkbcaa
