/-
  Joined: MarkMath, MrkRow, MarkMath2, MarkMath3.
-/
import Derived.Test.YtbdfglalohgahaaDoorJMrk
import Derived.Test.YtbdfglalohgahaaDoorJUtfRTake
import Derived.Test.YtbdfglalohgahaaDoorJUtfLeaf
import Derived.Sort.Walk0
import Derived.Test.YtbdfglalohgahaaDoorJCommon
namespace Go.Proofs.YtbdfglalohgahaaDoor
open Go.RowKit
set_option linter.unusedVariables false

instance : Inhabited Mrk := ⟨⟨⟨#[]⟩, 0⟩⟩
theorem mget {l : List Mrk} {k : Nat} (h : k < l.length) : l[k]! = l[k] := getElem!_pos l k h
theorem take_mrk (l : List Mrk) (k : Nat) (h : k < l.length) : l.take (k + 1) = l.take k ++ [l[k]!] := by
  rw [List.take_succ_eq_append_getElem h, mget h]

/-- Of all numbers below n. -/
def allN (n : Nat) (f : Nat → Bool) : Bool := (List.range n).all f
theorem allN_iff {n : Nat} {f : Nat → Bool} : allN n f = true ↔ ∀ i, i < n → f i = true := by
  unfold allN
  rw [List.all_eq_true]
  exact ⟨fun h i hi => h i (List.mem_range.2 hi), fun h i hi => h i (List.mem_range.1 hi)⟩
theorem allN_no {n i : Nat} {f : Nat → Bool} (hi : i < n) (h : f i = false) : allN n f = false := by
  cases hc : allN n f
  · rfl
  · rw [allN_iff.1 hc i hi] at h; cases h

/-! ### Names -/
def nmB (s : ByteArray) (x : Mrk) : Bool := decide (x.name = s)
/-- Is a no further than b? -/
def nleB (a b : ByteArray) : Bool := Op.bytesLess a.toList b.toList || a.toList == b.toList
def gtB (s : ByteArray) (x : Mrk) : Bool := !nleB x.name s
def ltN (a b : ByteArray) : Prop := a.data.toList < b.data.toList
theorem ltN_trans {a b c : ByteArray} (h : ltN a b) (k : ltN b c) : ltN a c := List.lt_trans h k
theorem ltN_irr (a : ByteArray) : ¬ ltN a a := List.lt_irrefl _
theorem less_eq (a b : ByteArray) : Op.bytesLess a.toList b.toList = decide (a.data.toList < b.data.toList) := by
  rw [bytesLess_eq, ByteArray.toList_eq, ByteArray.toList_eq]
theorem nleB_iff (a b : ByteArray) : nleB a b = false ↔ ltN b a := by
  unfold nleB
  rw [less_eq, Bool.or_eq_false_iff, decide_eq_false_iff_not, beq_eq_false_iff_ne, ByteArray.toList_eq, ByteArray.toList_eq]
  constructor
  · rintro ⟨h, h2⟩
    unfold ltN
    rcases Decidable.em (b.data.toList < a.data.toList) with g | g
    · exact g
    · exact absurd (List.le_antisymm (List.not_lt.1 g) (List.not_lt.1 h)) h2
  · intro h
    exact ⟨fun g => List.lt_irrefl _ (List.lt_trans h g), fun g => by unfold ltN at h; rw [g] at h; exact List.lt_irrefl _ h⟩
/-- No less: as '>=' reads. -/
theorem ngeB (a b : ByteArray) : (!Op.bytesLess b.toList a.toList) = nleB a b := by
  cases h : nleB a b
  · have := (nleB_iff a b).1 h
    unfold ltN at this
    rw [less_eq, decide_eq_true this]
    rfl
  · rw [less_eq]
    by_cases g : b.data.toList < a.data.toList
    · rw [(nleB_iff a b).2 g] at h; cases h
    · rw [decide_eq_false g]; rfl
theorem gtB_iff (s : ByteArray) (x : Mrk) : gtB s x = true ↔ ltN s x.name := by
  unfold gtB
  rw [← nleB_iff, Bool.not_eq_true']
theorem nleB_parts {a b : ByteArray} (h : nleB a b = true) : Op.bytesLess a.toList b.toList = true ∨ a = b := by
  unfold nleB at h
  cases hb : Op.bytesLess a.toList b.toList
  · right
    rw [hb] at h
    simp at h
    exact ByteArray.ext (by
      have := h
      rw [ByteArray.toList_eq, ByteArray.toList_eq] at this
      exact Array.toList_inj.1 this)
  · exact .inl rfl
theorem nleB_off {a b : ByteArray} (h : nleB a b = false) : Op.bytesLess a.toList b.toList = false ∧ (a.toList == b.toList) = false := by
  unfold nleB at h
  simpa using h

/-! ### Rising, right -/
def riseM (l : List Mrk) : Bool := allN (l.length - 1) fun i => !nleB (l[i + 1]!).name (l[i]!).name
def okM (t : ByteArray) (x : Mrk) : Bool := markB x.name.data.toList && edgeB t.data.toList x.p
def rightM (l : List Mrk) (t : ByteArray) : Bool := allN l.length (fun i => okM t l[i]!) && (decide (l.length ≤ 16) && riseM l)
theorem riseM_iff (l : List Mrk) : riseM l = true ↔ ∀ i, i + 1 < l.length → nleB (l[i + 1]!).name (l[i]!).name = false := by
  unfold riseM
  rw [allN_iff]
  exact ⟨fun h i hi => by simpa using h i (by omega), fun h i hi => by simpa using h i (by omega)⟩
theorem riseM_no {l : List Mrk} {i : Nat} (hi : i + 1 < l.length) (h : nleB (l[i + 1]!).name (l[i]!).name = true) : riseM l = false := by
  unfold riseM
  exact allN_no (i := i) (by omega) (by rw [h]; rfl)
theorem rise_lt {l : List Mrk} (h : riseM l = true) : ∀ {i j : Nat}, i < j → j < l.length → ltN (l[i]!).name (l[j]!).name := by
  intro i j hij
  obtain ⟨d, rfl⟩ : ∃ d, j = i + 1 + d := ⟨j - i - 1, by omega⟩
  clear hij
  induction d with
  | zero => exact fun hj => (nleB_iff _ _).1 ((riseM_iff l).1 h i hj)
  | succ d ih => exact fun hj => ltN_trans (ih (by omega)) ((nleB_iff _ _).1 ((riseM_iff l).1 h (i + 1 + d) (by omega)))
theorem rightM_iff (l : List Mrk) (t : ByteArray) : rightM l t = true ↔ (∀ i, i < l.length → okM t l[i]! = true) ∧ l.length ≤ 16 ∧ riseM l = true := by
  unfold rightM
  rw [Bool.and_eq_true, Bool.and_eq_true, allN_iff, decide_eq_true_iff]

/-! ### The first one -/
theorem idx_yes {l : List Mrk} {f : Mrk → Bool} {k : Nat} (hk : k < l.length) (h : ∀ j, j < k → f l[j]! = false) (hx : f l[k]! = true) : l.findIdx f = k := by
  rw [List.findIdx_eq hk]
  refine ⟨by rw [← mget hk]; exact hx, fun j hj => ?_⟩
  have := h j hj
  rw [mget (by omega)] at this
  exact this
theorem idx_no {l : List Mrk} {f : Mrk → Bool} (h : ∀ j, j < l.length → f l[j]! = false) : l.findIdx f = l.length := by
  rw [List.findIdx_eq_length]
  intro x hx
  obtain ⟨j, hj, rfl⟩ := List.getElem_of_mem hx
  rw [← mget hj]
  exact h j hj
theorem idx_le (l : List Mrk) (f : Mrk → Bool) : l.findIdx f ≤ l.length := List.findIdx_le_length
theorem idx_ahead {l : List Mrk} {f : Mrk → Bool} {j : Nat} (hj : j < l.findIdx f) : f l[j]! = false := by
  have hl : j < l.length := Nat.lt_of_lt_of_le hj (idx_le l f)
  rw [mget hl]
  exact List.not_of_lt_findIdx hj
theorem idx_at {l : List Mrk} {f : Mrk → Bool} (h : l.findIdx f < l.length) : f l[l.findIdx f]! = true := by
  rw [mget h]
  exact List.findIdx_getElem (w := h)
/-- The first one's place, and whether there is one. -/
def fndM (l : List Mrk) (s : ByteArray) : Int × Bool := if l.findIdx (nmB s) < l.length then ((l[l.findIdx (nmB s)]!).p, true) else (0, false)

/-! ### One less, one more -/
def dropM (l : List Mrk) (s : ByteArray) : List Mrk := l.filter fun x => !nmB s x
theorem dropM_len (l : List Mrk) (s : ByteArray) : (dropM l s).length ≤ l.length := List.length_filter_le _ _
theorem dropM_same (l : List Mrk) (s : ByteArray) (k : Nat) (h : k < l.length) (h2 : (l[k]!).name = s) : dropM (l.take (k + 1)) s = dropM (l.take k) s := by
  unfold dropM
  rw [take_mrk l k h, List.filter_append, List.filter_cons_of_neg (by unfold nmB; rw [decide_eq_true h2]; decide)]
  simp
theorem dropM_more (l : List Mrk) (s : ByteArray) (k : Nat) (h : k < l.length) (h2 : ¬ (l[k]!).name = s) : dropM (l.take (k + 1)) s = dropM (l.take k) s ++ [l[k]!] := by
  unfold dropM
  rw [take_mrk l k h, List.filter_append, List.filter_cons_of_pos (by unfold nmB; rw [decide_eq_false h2]; rfl)]
  rfl
/-- A list with x in front of what stands at j. -/
def putM (l : List Mrk) (x : Mrk) (j : Nat) : List Mrk := l.take j ++ [x] ++ l.drop j
theorem putM_len (l : List Mrk) (x : Mrk) (j : Nat) (h : j ≤ l.length) : (putM l x j).length = l.length + 1 := by
  unfold putM
  simp
  omega
def withM (l : List Mrk) (x : Mrk) : List Mrk := putM l x (l.findIdx (gtB x.name))
/-- What stands there behind k of them. -/
def withT (l : List Mrk) (x : Mrk) (j k : Nat) : List Mrk := if k ≤ j then l.take k else l.take j ++ [x] ++ (l.drop j).take (k - j)
theorem withT_len (l : List Mrk) (x : Mrk) (j k : Nat) (hk : k ≤ l.length) : (withT l x j k).length ≤ k + 1 := by
  unfold withT
  split
  · simp; omega
  · simp; omega
theorem withT_ahead {l : List Mrk} {x : Mrk} {j k : Nat} (hk : k < l.length) (h : k < j) : withT l x j (k + 1) = withT l x j k ++ [l[k]!] := by
  unfold withT
  rw [if_pos (by omega), if_pos (by omega), take_mrk l k hk]
theorem withT_at {l : List Mrk} {x : Mrk} {k : Nat} (hk : k < l.length) : withT l x k (k + 1) = withT l x k k ++ [x] ++ [l[k]!] := by
  unfold withT
  rw [if_neg (by omega), if_pos (by omega)]
  congr 1
  rw [Nat.add_sub_cancel_left, List.drop_eq_getElem_cons hk, List.take_succ_cons, mget hk]
  rfl
theorem withT_behind {l : List Mrk} {x : Mrk} {j k : Nat} (hk : k < l.length) (h : j < k) : withT l x j (k + 1) = withT l x j k ++ [l[k]!] := by
  unfold withT
  rw [if_neg (by omega), if_neg (by omega), List.append_assoc (l.take j ++ [x])]
  congr 1
  have hd : k - j < (l.drop j).length := by rw [List.length_drop]; omega
  rw [show k + 1 - j = (k - j) + 1 by omega, List.take_succ_eq_append_getElem hd, List.getElem_drop, mget hk]
  congr 3
  omega
theorem withT_end {l : List Mrk} {x : Mrk} {j : Nat} (h : j < l.length) : withT l x j l.length = putM l x j := by
  unfold withT putM
  rw [if_neg (by omega), List.take_of_length_le (l := l.drop j) (by rw [List.length_drop]; omega)]
theorem withT_none {l : List Mrk} {x : Mrk} : withT l x l.length l.length ++ [x] = putM l x l.length := by
  unfold withT putM
  rw [if_pos (Nat.le_refl _)]
  simp
/-- What Set tells, as the document has it. -/
def setM (l : List Mrk) (x : Mrk) : List Mrk × Int :=
  if markB x.name.data.toList = false then ([], 7)
  else if l.findIdx (nmB x.name) < l.length then (withM (dropM l x.name) x, 0)
  else if 16 ≤ l.length then ([], 9) else (withM l x, 0)
def drpM (l : List Mrk) (s : ByteArray) : List Mrk × Int := if l.findIdx (nmB s) < l.length then (dropM l s, 0) else ([], 8)

/-- Of a rising list the one of a name goes alone. -/
theorem drop_rise {l : List Mrk} {s : ByteArray} (h : riseM l = true) (hi : l.findIdx (nmB s) < l.length) : dropM l s = l.take (l.findIdx (nmB s)) ++ l.drop (l.findIdx (nmB s) + 1) := by
  obtain ⟨i, he⟩ : ∃ i, l.findIdx (nmB s) = i := ⟨_, rfl⟩
  have h1 := idx_at hi
  have h2 := fun j => idx_ahead (l := l) (f := nmB s) (j := j)
  rw [he] at hi h1 h2 ⊢
  have e : l = l.take i ++ l[i]! :: l.drop (i + 1) := by rw [mget hi]; simp
  have ha : (l.take i).filter (fun x => !nmB s x) = l.take i := List.filter_eq_self.2 fun x hx => by
    obtain ⟨j, hj, rfl⟩ := List.getElem_of_mem hx
    rw [List.length_take] at hj
    have := h2 j (by omega)
    rw [List.getElem_take, ← mget (by omega), this]
    rfl
  have hb : (l.drop (i + 1)).filter (fun x => !nmB s x) = l.drop (i + 1) := List.filter_eq_self.2 fun x hx => by
    obtain ⟨j, hj, rfl⟩ := List.getElem_of_mem hx
    rw [List.length_drop] at hj
    rw [List.getElem_drop, ← mget (by omega)]
    have := rise_lt h (show i < i + 1 + j by omega) (by omega)
    unfold nmB at h1 ⊢
    have h1' := of_decide_eq_true h1
    rw [h1'] at this
    rw [decide_eq_false (fun g => by rw [g] at this; exact ltN_irr _ this)]
    rfl
  unfold dropM
  conv => lhs; rw [e]
  rw [List.filter_append, List.filter_cons_of_neg (by rw [h1]; decide), ha, hb]
theorem set_rise {l : List Mrk} {x : Mrk} (h : riseM l = true) (hi : l.findIdx (nmB x.name) < l.length) :
    withM (dropM l x.name) x = l.take (l.findIdx (nmB x.name)) ++ [x] ++ l.drop (l.findIdx (nmB x.name) + 1) := by
  rw [drop_rise h hi]
  obtain ⟨i, he⟩ : ∃ i, l.findIdx (nmB x.name) = i := ⟨_, rfl⟩
  have h1 := idx_at hi
  rw [he] at hi h1 ⊢
  have h1' : (l[i]!).name = x.name := of_decide_eq_true h1
  have hlt : (l.take i).length = i := by rw [List.length_take]; omega
  have hj : (l.take i ++ l.drop (i + 1)).findIdx (gtB x.name) = i := by
    have ha : ∀ j, j < i → gtB x.name (l.take i ++ l.drop (i + 1))[j]! = false := fun j hj => by
      have hj2 : j < (l.take i ++ l.drop (i + 1)).length := by rw [List.length_append, hlt]; omega
      rw [mget hj2, List.getElem_append_left (by rw [hlt]; exact hj), List.getElem_take, ← mget (by omega)]
      have := rise_lt h hj hi
      rw [h1'] at this
      cases hc : gtB x.name l[j]!
      · rfl
      · exact absurd (ltN_trans this ((gtB_iff _ _).1 hc)) (ltN_irr _)
    by_cases hn : i + 1 < l.length
    · have hi2 : i < (l.take i ++ l.drop (i + 1)).length := by rw [List.length_append, hlt, List.length_drop]; omega
      refine idx_yes hi2 ha ?_
      rw [mget hi2, List.getElem_append_right (by rw [hlt]; omega), List.getElem_drop, ← mget (by rw [hlt]; omega), gtB_iff]
      have := rise_lt h (show i < i + 1 by omega) hn
      rw [h1'] at this
      simpa [hlt] using this
    · have e2 : (l.take i ++ l.drop (i + 1)).length = i := by rw [List.length_append, hlt, List.length_drop]; omega
      have := idx_no (l := l.take i ++ l.drop (i + 1)) (f := gtB x.name) (fun j hj => ha j (by rw [e2] at hj; exact hj))
      rw [this, e2]
  unfold withM putM
  rw [hj]
  congr 1
  · congr 1
    rw [List.take_append_of_le_length (by rw [hlt]; exact Nat.le_refl _), List.take_take, Nat.min_self]
  · conv => lhs; rw [show i = (l.take i).length + 0 by rw [hlt]; rfl]
    rw [List.drop_append]
    simp [hlt]

/-! ### Shifted -/
def shfM (l : List Mrk) (f : Int → Int) : List Mrk := l.map fun x => ⟨x.name, f x.p⟩
theorem shfM_take (l : List Mrk) (f : Int → Int) (k : Nat) (h : k < l.length) : shfM (l.take (k + 1)) f = shfM (l.take k) f ++ [⟨(l[k]!).name, f (l[k]!).p⟩] := by
  unfold shfM
  rw [take_mrk l k h, List.map_append]
  rfl
theorem shfM_len (l : List Mrk) (f : Int → Int) : (shfM l f).length = l.length := by simp [shfM]
theorem shfM_get (l : List Mrk) (f : Int → Int) (i : Nat) (h : i < l.length) : (shfM l f)[i]! = ⟨(l[i]!).name, f (l[i]!).p⟩ := by
  rw [mget (by rw [shfM_len]; exact h), mget h]
  simp [shfM]
theorem shfM_rise (l : List Mrk) (f : Int → Int) : riseM (shfM l f) = riseM l := by
  unfold riseM
  rw [shfM_len]
  unfold allN
  rw [Bool.eq_iff_iff, List.all_eq_true, List.all_eq_true]
  constructor
  · intro h i hi
    have hi' := List.mem_range.1 hi
    have := h i hi
    rw [shfM_get l f i (by omega), shfM_get l f (i + 1) (by omega)] at this
    exact this
  · intro h i hi
    have hi' := List.mem_range.1 hi
    rw [shfM_get l f i (by omega), shfM_get l f (i + 1) (by omega)]
    exact h i hi
end Go.Proofs.YtbdfglalohgahaaDoor
namespace Go.Proofs.YtbdfglalohgahaaDoor
open Go.RowKit
set_option linter.unusedVariables false

/-- A piece: where it lies, what it has, its room. -/
structure KPc where
  a : Option Addr
  l : List Mrk
  c : Nat
instance : Inhabited KPc := ⟨⟨none, [], 0⟩⟩
def KPc.v (x : KPc) : Value := .slice x.a x.l.length x.c
/-- Such a slice of these. -/
structure KPcs (w : World) (x : KPc) : Prop where
  row : Mrks w (· < w.heap.size) x.a x.l
  nil : x.a = none → x.c = 0
theorem KPcs.len {w : World} {x : KPc} (h : KPcs w x) (hn : x.a = none) : x.l = [] := by
  cases hl : x.l with
  | nil => rfl
  | cons y r =>
    obtain ⟨ad, e, -⟩ := h.row 0 (by rw [hl]; simp)
    rw [hn] at e
    cases e
theorem kget {l : List Mrk} {k : Nat} (h : k < l.length) : l[k]! = l[k] := getElem!_pos l k h
theorem kadd_next (ad : Addr) (k i : Nat) (h : 0 < i) : (⟨(ad.add (k * 2)).block, (ad.add (k * 2)).off + i, none⟩ : Addr) = ad.add (k * 2 + i) := by
  unfold Addr.add
  by_cases hk : k * 2 = 0
  · rw [if_pos hk, if_neg (by omega), hk, Nat.zero_add]
  · rw [if_neg hk, if_neg (by omega)]
    show (⟨ad.block, ad.off + k * 2 + i, none⟩ : Addr) = ⟨ad.block, ad.off + (k * 2 + i), none⟩
    rw [Nat.add_assoc]
/-- The cells of a row, to be appended. -/
theorem kmrks_news {w : World} {B : Nat → Prop} {ad : Addr} {l : List Mrk} (h : Mrks w B (some ad) l) : ∀ j u, (Mrk.flat l)[j]? = some u → w.cell? (ad.add j) = some u := fun j u hj => by
  have hlt : j < l.length * 2 := by
    rcases Nat.lt_or_ge j (l.length * 2) with g | g
    · exact g
    · rw [List.getElem?_eq_none (by rw [Mrk.flat_len]; exact g)] at hj
      cases hj
  obtain ⟨ad', e, -, q0, q1⟩ := h (j / 2) (by omega)
  obtain rfl : ad = ad' := by injection e
  obtain ⟨g0, g1⟩ := Mrk.flat_get l (j / 2) (by omega)
  rcases (show j = j / 2 * 2 ∨ j = j / 2 * 2 + 1 by omega) with g | g
  · rw [g] at hj ⊢
    rw [g0] at hj
    rw [q0]
    exact hj
  · rw [g] at hj ⊢
    rw [g1] at hj
    rw [← kadd_next _ _ _ (by decide), q1]
    exact hj
theorem kone_flat (l : List Mrk) : ∀ u ∈ Mrk.flat l, u.oneCell' = true := fun u hu => by
  unfold Mrk.flat at hu
  obtain ⟨x, -, hx⟩ := List.mem_flatMap.1 hu
  exact one_mrk _ _ u hx

/-- A row that a call made: where it lies, and its room. -/
structure KRow (w : World) (base : Nat) (x : KPc) : Prop where
  row : Mrks w (fun b => base ≤ b ∧ b < w.heap.size) x.a x.l
  nil : x.a = none → x.c = 0
  le : x.l.length ≤ x.c
  cap : x.c ≤ maxLen
theorem own_krow {w : World} {base : Nat} {t : TypeId} {v : Value} {l : List Mrk} (h : w.ownsRow base t 2 v l.length (Mrk.flat l)) : ∃ a c, v = .slice a l.length c ∧ KRow w base ⟨a, l, c⟩ := by
  obtain ⟨a, c, e, hr⟩ := own_mrks h
  refine ⟨a, c, e, hr, ?_, ?_, ?_⟩
  · intro hn
    have hn : a = none := hn
    rcases h.2 with ⟨rfl, h0⟩ | ⟨g, cap, cur, rfl, -⟩
    · injection e with _ _ e3; exact e3.symm
    · injection e with e1; rw [hn] at e1; cases e1
  · show l.length ≤ c
    rcases h.2 with ⟨rfl, h0⟩ | ⟨g, cap, cur, rfl, _, _, hnc, _⟩
    · injection e with _ e2 e3; omega
    · injection e with _ _ e3; omega
  · show c ≤ maxLen
    rcases h.2 with ⟨rfl, h0⟩ | ⟨g, cap, cur, rfl, _, _, hnc, hcm, _⟩
    · injection e with _ e2 e3; unfold maxLen; omega
    · injection e with _ _ e3; omega
theorem KRow.in {w : World} {base : Nat} {x : KPc} (h : KRow w base x) : KPcs w x := ⟨h.row.more fun _ hb => hb.2, h.nil⟩
theorem KRow.below {w W : World} {base : Nat} {x : KPc} (h : KRow w base x) (hb : Below w.heap.size w W) : KRow W base x :=
  ⟨(h.row.below (fun _ h => h.2) hb).more fun _ hb2 => ⟨hb2.1, Nat.lt_of_lt_of_le hb2.2 hb.size⟩, h.nil, h.le, h.cap⟩
theorem KRow.mono {w : World} {base b2 : Nat} {x : KPc} (h : KRow w base x) (hb : b2 ≤ base) : KRow w b2 x := ⟨h.row.more fun _ hb2 => ⟨Nat.le_trans hb hb2.1, hb2.2⟩, h.nil, h.le, h.cap⟩
def RetKRow (w : World) (l : List Mrk) (e : Ending) (w' : World) : Prop := ∃ a c, e = .returned (.slice a l.length c) ∧ KRow w' w.heap.size ⟨a, l, c⟩ ∧ Below w.heap.size w w'
theorem KPcs.later {w W : World} {x : KPc} (h : KPcs w x) (hb : Below w.heap.size w W) : KPcs W x := ⟨(h.row.below (fun _ h => h) hb).more fun b hb2 => Nat.lt_of_lt_of_le hb2 hb.size, h.nil⟩
theorem KPcs.none (w : World) (a : Addr) (c : Nat) : KPcs w ⟨some a, [], c⟩ := ⟨fun k hk => absurd hk (by simp), fun e => by cases e⟩
theorem KPcs.empty (w : World) : KPcs w ⟨.none, [], 0⟩ := ⟨fun k hk => absurd hk (by simp), fun _ => rfl⟩

/-- How many all pieces have. -/
def ksumP (ps : List KPc) : Nat := (ps.map fun x => x.l.length).sum
def kcatP (ps : List KPc) : List Mrk := ps.flatMap fun x => x.l
theorem kpget {ps : List KPc} {k : Nat} (h : k < ps.length) : ps[k]! = ps[k] := getElem!_pos ps k h
theorem kptake (ps : List KPc) (k : Nat) (h : k < ps.length) : ps.take (k + 1) = ps.take k ++ [ps[k]!] := by
  rw [List.take_succ_eq_append_getElem h, kpget h]
theorem ksumP_more (ps : List KPc) (k : Nat) (h : k < ps.length) : ksumP (ps.take (k + 1)) = ksumP (ps.take k) + (ps[k]!).l.length := by
  unfold ksumP
  rw [kptake ps k h, List.map_append, List.sum_append]
  simp
theorem kcatP_more (ps : List KPc) (k : Nat) (h : k < ps.length) : kcatP (ps.take (k + 1)) = kcatP (ps.take k) ++ (ps[k]!).l := by
  unfold kcatP
  rw [kptake ps k h, List.flatMap_append]
  simp
theorem kcatP_len (ps : List KPc) : (kcatP ps).length = ksumP ps := by
  unfold kcatP ksumP
  rw [List.length_flatMap]
theorem ksumP_le (ps : List KPc) (k : Nat) : ksumP (ps.take k) ≤ ksumP ps := by
  have e := congrArg ksumP (List.take_append_drop k ps)
  unfold ksumP at e ⊢
  rw [List.map_append, List.sum_append] at e
  omega
end Go.Proofs.YtbdfglalohgahaaDoor
namespace Go.Proofs.YtbdfglalohgahaaDoor
open Go.RowKit
set_option linter.unusedVariables false

theorem fnd_yes {l : List Mrk} {s : ByteArray} {k : Nat} (hk : k < l.length) (h : ∀ j, j < k → nmB s l[j]! = false) (he : (l[k]!).name = s) : fndM l s = ((l[k]!).p, true) := by
  have e := idx_yes hk h (by unfold nmB; exact decide_eq_true he)
  unfold fndM
  rw [e, if_pos hk]
theorem fnd_no {l : List Mrk} {s : ByteArray} (h : ∀ j, j < l.length → nmB s l[j]! = false) : fndM l s = (0, false) := by
  have e := idx_no h
  unfold fndM
  rw [e, if_neg (Nat.lt_irrefl _)]
theorem ahead_more {l : List Mrk} {f : Mrk → Bool} {k : Nat} (h : ∀ j, j < k → f l[j]! = false) (h2 : f l[k]! = false) : ∀ j, j < k + 1 → f l[j]! = false := fun j hj => by
  rcases Nat.lt_or_ge j k with g | g
  · exact h j g
  · rw [show j = k by omega]; exact h2
theorem rise_more {l : List Mrk} {k : Nat} (h : ∀ i, i + 1 < k + 1 → nleB (l[i + 1]!).name (l[i]!).name = false) (h2 : nleB (l[k + 1]!).name (l[k]!).name = false) : ∀ i, i + 1 < k + 2 → nleB (l[i + 1]!).name (l[i]!).name = false := fun i hi => by
  rcases Nat.lt_or_ge i k with g | g
  · exact h i (by omega)
  · rw [show i = k by omega]; exact h2
theorem same_more {a b : List Mrk} {k : Nat} (h : ∀ j, j < k → a[j]! = b[j]!) (h2 : a[k]! = b[k]!) : ∀ j, j < k + 1 → a[j]! = b[j]! := fun j hj => by
  rcases Nat.lt_or_ge j k with g | g
  · exact h j g
  · rw [show j = k by omega]; exact h2
theorem same_all {a b : List Mrk} (hl : a.length = b.length) (h : ∀ j, j < a.length → a[j]! = b[j]!) : a = b :=
  List.ext_getElem hl fun j h1 h2 => by have := h j h1; rwa [mget h1, mget h2] at this
instance : DecidableEq Mrk := fun x y => if h : x.name = y.name ∧ x.p = y.p then isTrue (by cases x; cases y; simp at h; simp [h]) else isFalse (fun e => h (by rw [e]; exact ⟨rfl, rfl⟩))
theorem mrk_ne {x y : Mrk} (h : ¬ x = y) : ¬ x.name = y.name ∨ (x.name = y.name ∧ ¬ x.p = y.p) := by
  by_cases h1 : x.name = y.name
  · right
    refine ⟨h1, fun h2 => h ?_⟩
    cases x; cases y
    simp at h1 h2
    simp [h1, h2]
  · exact .inl h1
/-- All so far may be there. -/
theorem ok_more {l : List Mrk} {t : ByteArray} {k : Nat} (h : ∀ j, j < k → okM t l[j]! = true) (h2 : okM t l[k]! = true) : ∀ j, j < k + 1 → okM t l[j]! = true := fun j hj => by
  rcases Nat.lt_or_ge j k with g | g
  · exact h j g
  · rw [show j = k by omega]; exact h2
theorem rightM_off {l : List Mrk} {t : ByteArray} {k : Nat} (hk : k < l.length) (h : okM t l[k]! = false) : rightM l t = false := by
  unfold rightM
  rw [allN_no hk h]
  rfl
theorem rightM_end {l : List Mrk} {t : ByteArray} (h : ∀ j, j < l.length → okM t l[j]! = true) : rightM l t = (decide (l.length ≤ 16) && riseM l) := by
  unfold rightM
  rw [allN_iff.2 h]
  rfl
end Go.Proofs.YtbdfglalohgahaaDoor
namespace Go.Proofs.YtbdfglalohgahaaDoor
open Go.RowKit
set_option linter.unusedVariables false

/-! ### Between -/
/-- Those at k places from f on, place by place. -/
def betK (l : List Mrk) (f : Nat) : Nat → List Mrk
  | 0 => []
  | k + 1 => betK l f k ++ l.filter fun x => x.p == ((f + k : Nat) : Int)
def betM (l : List Mrk) (f t : Nat) : List Mrk := betK l f (t + 1 - f)
def midM (l : List Mrk) (f t : Int) : List Mrk := l.filter fun x => decide (f ≤ x.p) && decide (x.p ≤ t)
def SrtL (l : List Mrk) : Prop := l.Pairwise fun x y => x.p ≤ y.p

theorem betK_len (l : List Mrk) (f : Nat) : ∀ k, (betK l f k).length ≤ k * l.length
  | 0 => Nat.zero_le _
  | k + 1 => by
    have h1 := betK_len l f k
    have h2 := List.length_filter_le (fun x : Mrk => x.p == ((f + k : Nat) : Int)) l
    rw [betK, List.length_append, Nat.add_mul, Nat.one_mul]
    omega
theorem betK_low (l : List Mrk) (f : Nat) : ∀ k, ∀ x ∈ betK l f k, x.p < ((f + k : Nat) : Int)
  | 0, x, hx => absurd hx (by simp [betK])
  | k + 1, x, hx => by
    rw [betK, List.mem_append] at hx
    rcases hx with h | h
    · have := betK_low l f k x h
      omega
    · have := (List.mem_filter.1 h).2
      have : x.p = ((f + k : Nat) : Int) := by simpa using this
      omega
theorem srt_same (l : List Mrk) (v : Int) : SrtL (l.filter fun x => x.p == v) := by
  unfold SrtL
  rw [List.pairwise_iff_forall_sublist]
  intro a b h
  have h1 := List.mem_filter.1 (h.subset (List.mem_cons_self ..))
  have h2 := List.mem_filter.1 (h.subset (List.mem_cons_of_mem _ (List.mem_cons_self ..)))
  have e1 : a.p = v := by simpa using h1.2
  have e2 : b.p = v := by simpa using h2.2
  omega
theorem betK_srt (l : List Mrk) (f : Nat) : ∀ k, SrtL (betK l f k)
  | 0 => List.Pairwise.nil
  | k + 1 => by
    unfold SrtL
    rw [betK, List.pairwise_append]
    refine ⟨betK_srt l f k, srt_same l _, fun x hx y hy => ?_⟩
    have h1 := betK_low l f k x hx
    have h2 : y.p = ((f + k : Nat) : Int) := by simpa using (List.mem_filter.1 hy).2
    omega
theorem filter_place (l : List Mrk) (u v : Int) : (l.filter fun x => x.p == u).filter (fun x => x.p == v) = if u = v then l.filter (fun x => x.p == v) else [] := by
  split
  · rename_i h
    subst h
    rw [List.filter_filter]
    congr 1
    funext x
    simp
  · rename_i h
    rw [List.filter_eq_nil_iff]
    intro x hx hp
    have h1 : x.p = u := by simpa using (List.mem_filter.1 hx).2
    have h2 : x.p = v := by simpa using hp
    omega
theorem betK_at (l : List Mrk) (f : Nat) (v : Int) : ∀ k, (betK l f k).filter (fun x => x.p == v) = if (f : Int) ≤ v ∧ v < ((f + k : Nat) : Int) then l.filter (fun x => x.p == v) else []
  | 0 => by rw [if_neg (by omega)]; rfl
  | k + 1 => by
    rw [betK, List.filter_append, betK_at l f v k, filter_place]
    by_cases h : (f : Int) ≤ v ∧ v < ((f + k : Nat) : Int)
    · rw [if_pos h, if_neg (by omega), if_pos (by omega), List.append_nil]
    · rw [if_neg h, List.nil_append]
      by_cases h2 : ((f + k : Nat) : Int) = v
      · rw [if_pos h2, if_pos (by omega)]
      · rw [if_neg h2, if_neg (by omega)]
theorem midM_at (l : List Mrk) (f t : Int) (v : Int) : (midM l f t).filter (fun x => x.p == v) = if f ≤ v ∧ v ≤ t then l.filter (fun x => x.p == v) else [] := by
  unfold midM
  rw [List.filter_filter]
  split
  · rename_i h
    congr 1
    funext x
    by_cases hx : x.p = v
    · rw [hx]; simp [h.1, h.2]
    · have e : (x.p == v) = false := beq_eq_false_iff_ne.2 hx
      rw [e]; rfl
  · rename_i h
    rw [List.filter_eq_nil_iff]
    intro x hx hp
    have e : x.p = v := by
      have := (Bool.and_eq_true _ _ ▸ hp : _ ∧ _).1
      simpa using this
    have h2 : f ≤ x.p ∧ x.p ≤ t := by
      have := (Bool.and_eq_true _ _ ▸ hp : _ ∧ _).2
      simpa using this
    exact h (by omega)
/-- One list is sorted, and has the marks of each place in their order. -/
theorem srt_uniq : ∀ (a b : List Mrk), SrtL a → SrtL b → (∀ v : Int, a.filter (fun x => x.p == v) = b.filter (fun x => x.p == v)) → a = b
  | [], b, _, _, h => by
    cases b with
    | nil => rfl
    | cons y s =>
      have := h y.p
      simp at this
  | x :: r, b, ha, hb, h => by
    cases b with
    | nil =>
      have := h x.p
      simp at this
    | cons y s =>
      have hxy : x.p = y.p := by
        have m1 : y ∈ (x :: r).filter (fun z => z.p == y.p) := by rw [h y.p]; exact List.mem_filter.2 ⟨List.mem_cons_self .., by simp⟩
        have m2 : x ∈ (y :: s).filter (fun z => z.p == x.p) := by rw [← h x.p]; exact List.mem_filter.2 ⟨List.mem_cons_self .., by simp⟩
        have g1 : x.p ≤ y.p := by
          rcases List.mem_cons.1 (List.mem_filter.1 m1).1 with e | e
          · rw [e]; exact Int.le_refl _
          · exact (List.pairwise_cons.1 ha).1 y e
        have g2 : y.p ≤ x.p := by
          rcases List.mem_cons.1 (List.mem_filter.1 m2).1 with e | e
          · rw [e]; exact Int.le_refl _
          · exact (List.pairwise_cons.1 hb).1 x e
        omega
      have h0 := h x.p
      rw [List.filter_cons_of_pos (by simp), List.filter_cons_of_pos (by simp [hxy])] at h0
      obtain ⟨e1, e2⟩ := List.cons.inj h0
      rw [e1]
      congr 1
      refine srt_uniq r s (List.pairwise_cons.1 ha).2 (List.pairwise_cons.1 hb).2 fun v => ?_
      by_cases hv : x.p = v
      · rw [← hv]; exact e2
      · have := h v
        rwa [List.filter_cons_of_neg (by simp [hv]), List.filter_cons_of_neg (by rw [← hxy]; simp [hv])] at this
/-- What is stable-sorted of those between is the list place by place. -/
theorem bet_uniq {l m : List Mrk} {f t : Nat} (h1 : SrtL m) (h2 : ∀ v : Int, m.filter (fun x => x.p == v) = (midM l f t).filter (fun x => x.p == v)) : m = betM l f t := by
  refine srt_uniq m _ h1 (betK_srt l f _) fun v => ?_
  unfold betM
  rw [h2, midM_at, betK_at]
  by_cases h : (f : Int) ≤ v ∧ v ≤ t
  · rw [if_pos h, if_pos (by omega)]
  · rw [if_neg h, if_neg (by omega)]
theorem midM_take (l : List Mrk) (f t : Int) (k : Nat) (h : k < l.length) : midM (l.take (k + 1)) f t = if f ≤ (l[k]!).p ∧ (l[k]!).p ≤ t then midM (l.take k) f t ++ [l[k]!] else midM (l.take k) f t := by
  unfold midM
  rw [take_mrk l k h, List.filter_append]
  split
  · rename_i g
    rw [List.filter_cons_of_pos (by rw [decide_eq_true g.1, decide_eq_true g.2]; rfl)]
    rfl
  · rename_i g
    rw [List.filter_cons_of_neg (by rw [Bool.and_eq_true, decide_eq_true_iff, decide_eq_true_iff]; exact g)]
    simp
theorem midM_len (l : List Mrk) (f t : Int) : (midM l f t).length ≤ l.length := List.length_filter_le _ _
theorem at_take (l : List Mrk) (v : Int) (k : Nat) (h : k < l.length) : (l.take (k + 1)).filter (fun x => x.p == v) = if (l[k]!).p = v then (l.take k).filter (fun x => x.p == v) ++ [l[k]!] else (l.take k).filter (fun x => x.p == v) := by
  rw [take_mrk l k h, List.filter_append]
  split
  · rename_i g
    rw [List.filter_cons_of_pos (p := fun x : Mrk => x.p == v) (a := l[k]!) (l := []) (beq_iff_eq.2 g)]
    rfl
  · rename_i g
    rw [List.filter_cons_of_neg (p := fun x : Mrk => x.p == v) (a := l[k]!) (l := []) (fun e => g (beq_iff_eq.1 e))]
    simp

/-! ### Near -/
def dstM (at_ : Int) (x : Mrk) : Nat := (x.p - at_).natAbs
def bigN : Nat := 18446744073709551615
def leastM (l : List Mrk) (at_ : Int) : Nat := l.foldl (fun m x => min m (dstM at_ x)) bigN
def nearB (at_ : Int) (l : List Mrk) (x : Mrk) : Bool := decide (dstM at_ x = leastM l at_)
/-- The nearest mark, and whether there is one. -/
def nearM (l : List Mrk) (at_ : Int) : Mrk × Bool := if l.findIdx (nearB at_ l) < l.length then (l[l.findIdx (nearB at_ l)]!, true) else (⟨⟨#[]⟩, 0⟩, false)
theorem leastM_take (l : List Mrk) (at_ : Int) (k : Nat) (h : k < l.length) : leastM (l.take (k + 1)) at_ = min (leastM (l.take k) at_) (dstM at_ l[k]!) := by
  unfold leastM
  rw [take_mrk l k h, List.foldl_append]
  rfl
theorem least_facts (at_ : Int) (l : List Mrk) : ∀ b : Nat, l.foldl (fun m x => min m (dstM at_ x)) b ≤ b ∧ (∀ x ∈ l, l.foldl (fun m x => min m (dstM at_ x)) b ≤ dstM at_ x) ∧ (l.foldl (fun m x => min m (dstM at_ x)) b = b ∨ ∃ x ∈ l, l.foldl (fun m x => min m (dstM at_ x)) b = dstM at_ x) := by
  induction l with
  | nil => exact fun b => ⟨Nat.le_refl _, fun x hx => absurd hx (by simp), .inl rfl⟩
  | cons y r ih =>
    intro b
    obtain ⟨h1, h2, h3⟩ := ih (min b (dstM at_ y))
    rw [List.foldl_cons]
    refine ⟨Nat.le_trans h1 (Nat.min_le_left _ _), fun x hx => ?_, ?_⟩
    · rcases List.mem_cons.1 hx with rfl | hx
      · exact Nat.le_trans h1 (Nat.min_le_right _ _)
      · exact h2 x hx
    · rcases h3 with h3 | ⟨x, hx, h3⟩
      · rw [h3]
        rcases Nat.le_total b (dstM at_ y) with g | g
        · exact .inl (Nat.min_eq_left g)
        · exact .inr ⟨y, List.mem_cons_self .., Nat.min_eq_right g⟩
      · exact .inr ⟨x, List.mem_cons_of_mem _ hx, h3⟩
theorem leastM_big (l : List Mrk) (at_ : Int) : leastM l at_ ≤ bigN := (least_facts at_ l bigN).1
theorem leastM_is {l : List Mrk} {at_ : Int} {k : Nat} (hk : k < l.length) (h : ∀ j, j < l.length → dstM at_ l[k]! ≤ dstM at_ l[j]!) (hb : dstM at_ l[k]! ≤ bigN) : leastM l at_ = dstM at_ l[k]! := by
  obtain ⟨h1, h2, h3⟩ := least_facts at_ l bigN
  have g1 : leastM l at_ ≤ dstM at_ l[k]! := h2 _ (by rw [mget hk]; exact List.getElem_mem hk)
  refine Nat.le_antisymm g1 ?_
  rcases h3 with h3 | ⟨x, hx, h3⟩
  · show _ ≤ l.foldl _ _
    rw [h3]; exact hb
  · show _ ≤ l.foldl _ _
    rw [h3]
    obtain ⟨j, hj, rfl⟩ := List.getElem_of_mem hx
    rw [← mget hj]
    exact h j hj
theorem nearM_yes {l : List Mrk} {at_ : Int} {k : Nat} (hk : k < l.length) (h : ∀ j, j < l.length → dstM at_ l[k]! ≤ dstM at_ l[j]!) (hb : dstM at_ l[k]! ≤ bigN) (hf : ∀ j, j < k → dstM at_ l[j]! ≠ dstM at_ l[k]!) : nearM l at_ = (l[k]!, true) := by
  have e := leastM_is hk h hb
  have i : l.findIdx (nearB at_ l) = k := idx_yes hk (fun j hj => by unfold nearB; rw [e]; exact decide_eq_false (hf j hj)) (by unfold nearB; rw [e]; exact decide_eq_true rfl)
  unfold nearM
  rw [i, if_pos hk]
theorem nearM_none (at_ : Int) : nearM [] at_ = (⟨⟨#[]⟩, 0⟩, false) := rfl
/-- Of marks within places there is a nearest one, unless there is none at all. -/
theorem near_some {l : List Mrk} {at_ : Int} (hl : l ≠ []) (hb : ∀ x ∈ l, dstM at_ x ≤ bigN) : l.findIdx (nearB at_ l) < l.length := by
  rw [List.findIdx_lt_length]
  obtain ⟨h1, h2, h3⟩ := least_facts at_ l bigN
  rcases h3 with h3 | ⟨x, hx, h3⟩
  · obtain ⟨y, hy⟩ := List.exists_mem_of_ne_nil l hl
    refine ⟨y, hy, ?_⟩
    have := h2 y hy
    have := hb y hy
    unfold nearB
    have e : leastM l at_ = bigN := h3
    rw [e]
    exact decide_eq_true (by omega)
  · refine ⟨x, hx, ?_⟩
    unfold nearB
    have e : leastM l at_ = dstM at_ x := h3
    rw [e]
    exact decide_eq_true rfl
end Go.Proofs.YtbdfglalohgahaaDoor
