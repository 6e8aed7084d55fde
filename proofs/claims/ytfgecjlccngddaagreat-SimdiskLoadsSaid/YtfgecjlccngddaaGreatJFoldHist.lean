/-
  Joined: FoldHist, FoldIdsMath.
-/
import Derived.Test.YtfgecjlccngddaaGreatJFoldRef
import Derived.Sort.Walk0
import Derived.Lib.SlicesCompact
namespace Go.Proofs.YtfgecjlccngddaaGreat
set_option linter.unusedSimpArgs false
set_option linter.unusedVariables false
open Go.RowKit
set_option linter.unusedVariables false

def ltN (a b : ByteArray) : Prop := a.data.toList < b.data.toList
instance (a b : ByteArray) : Decidable (ltN a b) := inferInstanceAs (Decidable (a.data.toList < b.data.toList))
theorem ltN_irr (a : ByteArray) : ¬ ltN a a := List.lt_irrefl _
theorem ltN_trans {a b c : ByteArray} (h : ltN a b) (k : ltN b c) : ltN a c := List.lt_trans h k
theorem ltN_tri {a b : ByteArray} (h : ¬ ltN a b) (h2 : a ≠ b) : ltN b a := by
  unfold ltN at *
  rcases Decidable.em (b.data.toList < a.data.toList) with g | g
  · exact g
  · exact absurd (str_ext (List.le_antisymm (List.not_lt.1 g) (List.not_lt.1 h))) h2
theorem gtB_eq (s : ByteArray) (e : Ent) : gtB s e = decide (ltN s e.name) := by
  unfold gtB
  rw [bytesLess_eq, ByteArray.toList_eq, ByteArray.toList_eq]
  by_cases h : ltN s e.name
  · rw [decide_eq_true h]
    have h1 : ¬ e.name.data.toList < s.data.toList := fun g => List.lt_irrefl _ (List.lt_trans h g)
    have h2 : (e.name.data.toList == s.data.toList) = false := beq_eq_false_iff_ne.2 fun g => by
      unfold ltN at h
      rw [g] at h
      exact List.lt_irrefl _ h
    rw [h2, decide_eq_false h1]
    rfl
  · rw [decide_eq_false h]
    by_cases h2 : e.name.data.toList = s.data.toList
    · rw [h2, beq_self_eq_true, Bool.or_true]
      rfl
    · have h1 : e.name.data.toList < s.data.toList := ltN_tri (a := s) (b := e.name) h (fun g => h2 (by rw [g]))
      rw [decide_eq_true h1]
      rfl

def rise (l : List Ent) : Prop := l.Pairwise fun a b => ltN a.name b.name
/-- The entry where it belongs. -/
def ins (x : Ent) : List Ent → List Ent
  | [] => [x]
  | e :: r => if gtB x.name e = true then x :: e :: r else e :: ins x r
theorem fold_done (x : Ent) : ∀ (l acc : List Ent), l.foldl (withS x) (acc, true) = (acc ++ l, true)
  | [], acc => by simp
  | e :: r, acc => by
    rw [List.foldl_cons, withS_done, fold_done x r]
    simp
theorem fold_ins (x : Ent) : ∀ (l acc : List Ent), (if (l.foldl (withS x) (acc, false)).2 = true then (l.foldl (withS x) (acc, false)).1 else (l.foldl (withS x) (acc, false)).1 ++ [x]) = acc ++ ins x l
  | [], acc => by simp [ins]
  | e :: r, acc => by
    rw [List.foldl_cons]
    by_cases h : gtB x.name e = true
    · rw [withS_put x acc e h, fold_done, if_pos rfl]
      simp [ins, h]
    · have h' : gtB x.name e = false := by simpa using h
      rw [withS_no x acc e h', fold_ins x r]
      simp [ins, h']
theorem withE_ins (l : List Ent) (x : Ent) : withE l x = ins x l := by
  have := fold_ins x l []
  unfold withE withK
  rw [List.take_length]
  simpa using this
theorem mem_ins (x e : Ent) : ∀ l : List Ent, e ∈ ins x l ↔ e = x ∨ e ∈ l
  | [] => by simp [ins]
  | f :: r => by
    unfold ins
    split
    · simp
    · rw [List.mem_cons, mem_ins x e r, List.mem_cons]
      constructor
      · rintro (h | h | h)
        · exact .inr (.inl h)
        · exact .inl h
        · exact .inr (.inr h)
      · rintro (h | h | h)
        · exact .inr (.inl h)
        · exact .inl h
        · exact .inr (.inr h)
theorem mem_withE (l : List Ent) (x e : Ent) : e ∈ withE l x ↔ e = x ∨ e ∈ l := by rw [withE_ins]; exact mem_ins x e l
theorem rise_ins (x : Ent) : ∀ l : List Ent, rise l → (∀ e ∈ l, e.name ≠ x.name) → rise (ins x l)
  | [], _, _ => List.pairwise_singleton _ _
  | f :: r, h, hx => by
    obtain ⟨h1, h2⟩ := List.pairwise_cons.1 h
    unfold ins
    split
    · rename_i hg
      rw [gtB_eq, decide_eq_true_eq] at hg
      refine List.pairwise_cons.2 ⟨fun e he => ?_, h⟩
      rcases List.mem_cons.1 he with rfl | he
      · exact hg
      · exact ltN_trans hg (h1 e he)
    · rename_i hg
      rw [gtB_eq, decide_eq_true_eq] at hg
      refine List.pairwise_cons.2 ⟨fun e he => ?_, rise_ins x r h2 (fun e he => hx e (List.mem_cons_of_mem _ he))⟩
      rcases (mem_ins x e r).1 he with rfl | he
      · exact ltN_tri hg (fun g => hx f (List.mem_cons_self) g.symm)
      · exact h1 e he
theorem rise_withE {l : List Ent} {x : Ent} (h : rise l) (hx : ∀ e ∈ l, e.name ≠ x.name) : rise (withE l x) := by rw [withE_ins]; exact rise_ins x l h hx
theorem rise_withoutE {l : List Ent} (h : rise l) (s : ByteArray) : rise (withoutE l s) := List.Pairwise.filter _ h
theorem mem_withoutE (l : List Ent) (s : ByteArray) (e : Ent) : e ∈ withoutE l s ↔ e ∈ l ∧ e.name ≠ s := by
  unfold withoutE
  rw [List.mem_filter]
  simp [nmB]
theorem findE_cons (e : Ent) (r : List Ent) (s : ByteArray) : findE (e :: r) s = if e.name = s then some e.id else findE r s := by
  unfold findE
  rw [List.find?_cons]
  by_cases h : e.name = s <;> simp [nmB, h]
theorem findE_nil (s : ByteArray) : findE [] s = none := rfl
theorem findE_ins (x : Ent) (s : ByteArray) : ∀ l : List Ent, (∀ e ∈ l, e.name ≠ x.name) → findE (ins x l) s = if x.name = s then some x.id else findE l s
  | [], _ => by rw [ins, findE_cons]
  | f :: r, hx => by
    unfold ins
    split
    · rw [findE_cons]
    · rw [findE_cons, findE_ins x s r (fun e he => hx e (List.mem_cons_of_mem _ he)), findE_cons]
      have := hx f (List.mem_cons_self)
      by_cases h1 : f.name = s
      · subst h1
        rw [if_pos rfl, if_neg (fun g => this g.symm), if_pos rfl]
      · rw [if_neg h1, if_neg h1]
theorem findE_withE {l : List Ent} {x : Ent} (hx : ∀ e ∈ l, e.name ≠ x.name) (s : ByteArray) : findE (withE l x) s = if x.name = s then some x.id else findE l s := by rw [withE_ins]; exact findE_ins x s l hx
theorem findE_withoutE (l : List Ent) (t s : ByteArray) : findE (withoutE l t) s = if t = s then none else findE l s := by
  induction l with
  | nil => simp [withoutE, findE_nil]
  | cons e r ih =>
    have e1 : withoutE (e :: r) t = if e.name = t then withoutE r t else e :: withoutE r t := by
      unfold withoutE
      rw [List.filter_cons]
      by_cases h : e.name = t <;> simp [nmB, h]
    rw [e1, findE_cons]
    by_cases h : e.name = t
    · rw [if_pos h, ih]
      by_cases h2 : t = s
      · rw [if_pos h2, if_pos h2]
      · rw [if_neg h2, if_neg h2, if_neg (fun g => h2 (by rw [← h]; exact g))]
    · rw [if_neg h, findE_cons, ih]
      by_cases h2 : e.name = s
      · rw [if_pos h2, if_pos h2, if_neg (fun g => h (by rw [g]; exact h2))]
      · rw [if_neg h2, if_neg h2]
theorem findE_in (l : List Ent) (s : ByteArray) : (findE l s).isSome = true ↔ ∃ e ∈ l, e.name = s := by
  induction l with
  | nil => simp [findE_nil]
  | cons e r ih =>
    rw [findE_cons]
    by_cases h : e.name = s
    · simp [h]
    · rw [if_neg h, ih]
      simp [h]
theorem findE_no {l : List Ent} {s : ByteArray} (h : (findE l s).isSome = false) : ∀ e ∈ l, e.name ≠ s := fun e he g => by
  have := (findE_in l s).2 ⟨e, he, g⟩
  rw [h] at this
  cases this
theorem findE_rise {l : List Ent} (h : rise l) : ∀ e ∈ l, findE l e.name = some e.id := by
  induction l with
  | nil => intro e he; cases he
  | cons f r ih =>
    intro e he
    obtain ⟨h1, h2⟩ := List.pairwise_cons.1 h
    rw [findE_cons]
    rcases List.mem_cons.1 he with rfl | he
    · rw [if_pos rfl]
    · rw [if_neg (fun g => ltN_irr e.name (by have := h1 e he; rw [g] at this; exact this)), ih h2 e he]
theorem findE_id {l : List Ent} {s : ByteArray} {n : Int} (h : findE l s = some n) : ∃ e ∈ l, e.name = s ∧ e.id = n := by
  induction l with
  | nil => cases h
  | cons e r ih =>
    rw [findE_cons] at h
    by_cases g : e.name = s
    · rw [if_pos g] at h
      exact ⟨e, List.mem_cons_self, g, Option.some.inj h⟩
    · rw [if_neg g] at h
      obtain ⟨x, hx, h1, h2⟩ := ih h
      exact ⟨x, List.mem_cons_of_mem _ hx, h1, h2⟩
theorem rise_nodup {l : List Ent} (h : rise l) : (l.map (fun e => e.name.data.toList)).Nodup :=
  List.pairwise_map.2 (h.imp fun {a b} hab g => by unfold ltN at hab; rw [g] at hab; exact List.lt_irrefl _ hab)

/-- A change that waits. -/
structure Chg where
  kind : Int
  name : ByteArray
  dest : ByteArray
  id : Int
def Chg.fits (c : Chg) : Prop := c.name.size ≤ maxLen ∧ c.dest.size ≤ maxLen ∧ -9223372036854775808 ≤ c.id ∧ c.id ≤ 9223372036854775807
/-- May it be, where these are seen? -/
def Chg.may (l : List Ent) (c : Chg) : Prop := c.fits ∧ (c.kind = 0 ∧ (findE l c.name).isSome = false ∨ c.kind = 1 ∨ c.kind = 2 ∧ (findE l c.name).isSome = true ∧ c.name ≠ c.dest)
/-- What it makes. -/
def chgE (l : List Ent) (c : Chg) : List Ent :=
  if c.kind = 0 then withE l ⟨c.name, c.id⟩ else if c.kind = 1 then withoutE l c.name else withE (withoutE (withoutE l c.name) c.dest) ⟨c.dest, (findE l c.name).getD 0⟩
/-- Names that rise, and fit. -/
def okE (l : List Ent) : Prop := rise l ∧ ∀ e ∈ l, e.fits
theorem okE_nil : okE [] := ⟨List.Pairwise.nil, fun e he => absurd he (by simp)⟩
theorem two_no (l : List Ent) (s t : ByteArray) : ∀ e ∈ withoutE (withoutE l s) t, e.name ≠ t := fun e he => ((mem_withoutE _ _ _).1 he).2
theorem okE_chg {l : List Ent} {c : Chg} (h : okE l) (hc : c.may l) : okE (chgE l c) := by
  obtain ⟨⟨f1, f2, f3, f4⟩, hc⟩ := hc
  unfold chgE
  rcases hc with ⟨k, hn⟩ | k | ⟨k, hn, hne⟩
  · rw [if_pos k]
    refine ⟨rise_withE h.1 (findE_no hn), fun e he => ?_⟩
    rcases (mem_withE _ _ _).1 he with rfl | he
    · exact ⟨f1, f3, f4⟩
    · exact h.2 e he
  · rw [if_neg (by rw [k]; omega), if_pos k]
    exact ⟨rise_withoutE h.1 _, fun e he => h.2 e ((mem_withoutE _ _ _).1 he).1⟩
  · rw [if_neg (by rw [k]; omega), if_neg (by rw [k]; omega)]
    refine ⟨rise_withE (rise_withoutE (rise_withoutE h.1 _) _) (two_no l _ _), fun e he => ?_⟩
    rcases (mem_withE _ _ _).1 he with rfl | he
    · obtain ⟨n, hnn⟩ := Option.isSome_iff_exists.1 hn
      obtain ⟨x, hx, _, hid⟩ := findE_id hnn
      refine ⟨f2, ?_⟩
      show -9223372036854775808 ≤ (findE l c.name).getD 0 ∧ (findE l c.name).getD 0 ≤ 9223372036854775807
      rw [hnn]
      show -9223372036854775808 ≤ n ∧ n ≤ 9223372036854775807
      rw [← hid]
      exact (h.2 x hx).2
    · exact h.2 e ((mem_withoutE _ _ _).1 ((mem_withoutE _ _ _).1 he).1).1

/-- What is seen behind each change, from l on. -/
def hist (l : List Ent) : List Chg → List (List Ent)
  | [] => [l]
  | c :: cs => l :: hist (chgE l c) cs
def mays (l : List Ent) : List Chg → Prop
  | [] => True
  | c :: cs => c.may l ∧ mays (chgE l c) cs
def allE (l : List Ent) (cs : List Chg) : List Ent := cs.foldl chgE l
theorem hist_len (cs : List Chg) : ∀ l : List Ent, (hist l cs).length = cs.length + 1 := by
  induction cs with
  | nil => intro l; rfl
  | cons c cs ih => intro l; rw [hist, List.length_cons, ih, List.length_cons]
theorem hist_ne (l : List Ent) (cs : List Chg) : hist l cs ≠ [] := fun h => by have := hist_len cs l; rw [h] at this; simp at this
theorem hist_get (cs : List Chg) : ∀ (l : List Ent) (k : Nat), k ≤ cs.length → (hist l cs).getD k [] = allE l (cs.take k) := by
  induction cs with
  | nil => intro l k hk; have h0 : k = 0 := by simpa using hk
           subst h0; rfl
  | cons c cs ih =>
    intro l k hk
    cases k with
    | zero => rfl
    | succ k =>
      rw [hist, List.take_succ_cons]
      show (hist (chgE l c) cs).getD k [] = allE (chgE l c) (cs.take k)
      exact ih _ k (by simpa using hk)
theorem hist_now (l : List Ent) (cs : List Chg) : nowL (hist l cs) = allE l cs := by
  have h1 := hist_len cs l
  have h2 := hist_get cs l cs.length (Nat.le_refl _)
  rw [List.take_length] at h2
  rw [nowL_get _ (hist_ne l cs), ← h2, List.getD_eq_getElem?_getD, List.getElem?_eq_getElem (show cs.length < (hist l cs).length by omega)]
  simp [h1]
theorem hist_kept (l : List Ent) (cs : List Chg) : keptL (hist l cs) = l := by cases cs <;> rfl
theorem hist_snoc (c : Chg) (cs : List Chg) : ∀ l : List Ent, hist l (cs ++ [c]) = hist l cs ++ [chgE (allE l cs) c] := by
  induction cs with
  | nil => intro l; rfl
  | cons d cs ih =>
    intro l
    rw [List.cons_append, hist, hist, ih, List.cons_append]
    rfl
theorem mays_snoc {c : Chg} (cs : List Chg) : ∀ {l : List Ent}, mays l cs → c.may (allE l cs) → mays l (cs ++ [c]) := by
  induction cs with
  | nil => intro l _ h; exact ⟨h, trivial⟩
  | cons d cs ih =>
    intro l h hc
    exact ⟨h.1, ih h.2 hc⟩
theorem mays_get (cs : List Chg) : ∀ {l : List Ent}, mays l cs → ∀ k (h : k < cs.length), cs[k].may (allE l (cs.take k)) := by
  induction cs with
  | nil => intro l _ k h; exact absurd h (by simp)
  | cons d cs ih =>
    intro l h k hk
    cases k with
    | zero => exact h.1
    | succ k =>
      rw [List.take_succ_cons]
      exact ih h.2 k (by simpa using hk)
theorem allE_succ (l : List Ent) (cs : List Chg) (k : Nat) (h : k < cs.length) : allE l (cs.take (k + 1)) = chgE (allE l (cs.take k)) cs[k] := by
  unfold allE
  rw [List.take_succ_eq_append_getElem h, List.foldl_append]
  rfl
theorem okE_all (cs : List Chg) : ∀ {l : List Ent}, okE l → mays l cs → okE (allE l cs) := by
  induction cs with
  | nil => intro l h _; exact h
  | cons d cs ih => intro l h hm; exact ih (okE_chg h hm.1) hm.2
theorem mays_take (cs : List Chg) : ∀ {l : List Ent}, mays l cs → ∀ k, mays l (cs.take k) := by
  induction cs with
  | nil => intro l h k; simpa using h
  | cons d cs ih =>
    intro l h k
    cases k with
    | zero => exact trivial
    | succ k => exact ⟨h.1, ih h.2 k⟩
end Go.Proofs.YtfgecjlccngddaaGreat
namespace Go.Proofs.YtfgecjlccngddaaGreat
set_option linter.unusedSimpArgs false
set_option linter.unusedVariables false
open Go.RowKit
set_option linter.unusedVariables false

def riseI (l : List Int) : Prop := l.Pairwise (· < ·)
def insI (n : Int) : List Int → List Int
  | [] => [n]
  | e :: r => if n < e then n :: e :: r else e :: insI n r
theorem foldI_done (n : Int) : ∀ (l acc : List Int), l.foldl (addS n) (acc, true) = (acc ++ l, true)
  | [], acc => by simp
  | e :: r, acc => by
    rw [List.foldl_cons, addS_done, foldI_done n r]
    simp
theorem foldI_ins (n : Int) : ∀ (l acc : List Int), (if (l.foldl (addS n) (acc, false)).2 = true then (l.foldl (addS n) (acc, false)).1 else (l.foldl (addS n) (acc, false)).1 ++ [n]) = acc ++ insI n l
  | [], acc => by simp [insI]
  | e :: r, acc => by
    rw [List.foldl_cons]
    by_cases h : n < e
    · rw [addS_put n acc e h, foldI_done, if_pos rfl]
      simp [insI, h]
    · rw [addS_no n acc e h, foldI_ins n r]
      simp [insI, h]
theorem addI_ins (l : List Int) (n : Int) : addI l n = if n ∈ l then l else insI n l := by
  have := foldI_ins n l []
  unfold addI addK
  rw [List.take_length]
  split
  · rfl
  · simpa using this
theorem mem_insI (n e : Int) : ∀ l : List Int, e ∈ insI n l ↔ e = n ∨ e ∈ l
  | [] => by simp [insI]
  | f :: r => by
    unfold insI
    split
    · simp
    · rw [List.mem_cons, mem_insI n e r, List.mem_cons]
      constructor
      · rintro (h | h | h)
        · exact .inr (.inl h)
        · exact .inl h
        · exact .inr (.inr h)
      · rintro (h | h | h)
        · exact .inr (.inl h)
        · exact .inl h
        · exact .inr (.inr h)
theorem rise_insI (n : Int) : ∀ l : List Int, riseI l → n ∉ l → riseI (insI n l)
  | [], _, _ => List.pairwise_singleton _ _
  | f :: r, h, hn => by
    obtain ⟨h1, h2⟩ := List.pairwise_cons.1 h
    have hf : n ≠ f := fun g => hn (by rw [g]; exact List.mem_cons_self)
    unfold insI
    split
    · rename_i hg
      refine List.pairwise_cons.2 ⟨fun e he => ?_, h⟩
      rcases List.mem_cons.1 he with rfl | he
      · exact hg
      · exact Int.lt_trans hg (h1 e he)
    · rename_i hg
      refine List.pairwise_cons.2 ⟨fun e he => ?_, rise_insI n r h2 (fun g => hn (List.mem_cons_of_mem _ g))⟩
      rcases (mem_insI n e r).1 he with rfl | he
      · omega
      · exact h1 e he
theorem mem_addI (l : List Int) (n e : Int) : e ∈ addI l n ↔ e = n ∨ e ∈ l := by
  rw [addI_ins]
  split
  · rename_i h
    constructor
    · exact .inr
    · rintro (rfl | g)
      · exact h
      · exact g
  · exact mem_insI n e l
theorem rise_addI {l : List Int} (h : riseI l) (n : Int) : riseI (addI l n) := by
  rw [addI_ins]
  split
  · exact h
  · rename_i g
    exact rise_insI n l h g
theorem mem_idsIn (l : List Ent) (n : Int) : ∀ o : List Int, n ∈ idsIn o l ↔ n ∈ o ∨ ∃ e ∈ l, e.id = n := by
  induction l with
  | nil => intro o; simp [idsIn]
  | cons f r ih =>
    intro o
    show n ∈ idsIn (addI o f.id) r ↔ _
    rw [ih, mem_addI]
    constructor
    · rintro ((h | h) | ⟨e, he, h⟩)
      · exact .inr ⟨f, List.mem_cons_self, h.symm⟩
      · exact .inl h
      · exact .inr ⟨e, List.mem_cons_of_mem _ he, h⟩
    · rintro (h | ⟨e, he, h⟩)
      · exact .inl (.inr h)
      · rcases List.mem_cons.1 he with rfl | he
        · exact .inl (.inl h.symm)
        · exact .inr ⟨e, he, h⟩
theorem rise_idsIn (l : List Ent) : ∀ {o : List Int}, riseI o → riseI (idsIn o l) := by
  induction l with
  | nil => intro o h; exact h
  | cons f r ih => intro o h; exact ih (rise_addI h f.id)
theorem idsK_fold (L : List (List Ent)) : idsK L = L.foldl idsIn [] := rfl
theorem mem_idsF (n : Int) (L : List (List Ent)) : ∀ o : List Int, n ∈ L.foldl idsIn o ↔ n ∈ o ∨ ∃ l ∈ L, ∃ e ∈ l, e.id = n := by
  induction L with
  | nil => intro o; simp
  | cons l r ih =>
    intro o
    rw [List.foldl_cons, ih, mem_idsIn]
    constructor
    · rintro ((h | h) | ⟨x, hx, h⟩)
      · exact .inl h
      · exact .inr ⟨l, List.mem_cons_self, h⟩
      · exact .inr ⟨x, List.mem_cons_of_mem _ hx, h⟩
    · rintro (h | ⟨x, hx, h⟩)
      · exact .inl (.inl h)
      · rcases List.mem_cons.1 hx with rfl | hx
        · exact .inl (.inr h)
        · exact .inr ⟨x, hx, h⟩
theorem rise_idsF (L : List (List Ent)) : ∀ {o : List Int}, riseI o → riseI (L.foldl idsIn o) := by
  induction L with
  | nil => intro o h; exact h
  | cons l r ih => intro o h; exact ih (rise_idsIn l h)
theorem rise_idsK (L : List (List Ent)) : riseI (idsK L) := rise_idsF L List.Pairwise.nil
theorem mem_idsK (L : List (List Ent)) (n : Int) : n ∈ idsK L ↔ ∃ l ∈ L, ∃ e ∈ l, e.id = n := by
  rw [idsK_fold, mem_idsF]
  simp
/-- Of what changes make the numbers are those that were there, and those that were put. -/
theorem ids_chg {l : List Ent} {c : Chg} (hc : c.may l) : ∀ e ∈ chgE l c, (∃ x ∈ l, x.id = e.id) ∨ c.kind = 0 ∧ c.id = e.id := by
  intro e he
  unfold chgE at he
  rcases hc.2 with ⟨k, hn⟩ | k | ⟨k, hn, hne⟩
  · rw [if_pos k] at he
    rcases (mem_withE _ _ _).1 he with rfl | he
    · exact .inr ⟨k, rfl⟩
    · exact .inl ⟨e, he, rfl⟩
  · rw [if_neg (by rw [k]; omega), if_pos k] at he
    exact .inl ⟨e, ((mem_withoutE _ _ _).1 he).1, rfl⟩
  · rw [if_neg (by rw [k]; omega), if_neg (by rw [k]; omega)] at he
    rcases (mem_withE _ _ _).1 he with rfl | he
    · obtain ⟨n, hnn⟩ := Option.isSome_iff_exists.1 hn
      obtain ⟨x, hx, _, hid⟩ := findE_id hnn
      refine .inl ⟨x, hx, ?_⟩
      show x.id = (findE l c.name).getD 0
      rw [hnn, hid]
      rfl
    · exact .inl ⟨e, ((mem_withoutE _ _ _).1 ((mem_withoutE _ _ _).1 he).1).1, rfl⟩
theorem mem_hist (cs : List Chg) (n : Int) : ∀ {l : List Ent}, mays l cs → ((∃ x ∈ hist l cs, ∃ e ∈ x, e.id = n) ↔ (∃ e ∈ l, e.id = n) ∨ ∃ c ∈ cs, c.kind = 0 ∧ c.id = n) := by
  induction cs with
  | nil => intro l _; simp [hist]
  | cons d cs ih =>
    intro l h
    rw [hist]
    constructor
    · rintro ⟨x, hx, e, he, hid⟩
      rcases List.mem_cons.1 hx with rfl | hx
      · exact .inl ⟨e, he, hid⟩
      · rcases (ih h.2).1 ⟨x, hx, e, he, hid⟩ with ⟨e, he, hid⟩ | ⟨c, hc, hk⟩
        · rcases ids_chg h.1 e he with ⟨y, hy, g⟩ | ⟨g1, g2⟩
          · exact .inl ⟨y, hy, g.trans hid⟩
          · exact .inr ⟨d, List.mem_cons_self, g1, g2.trans hid⟩
        · exact .inr ⟨c, List.mem_cons_of_mem _ hc, hk⟩
    · rintro (⟨e, he, hid⟩ | ⟨c, hc, hk, hid⟩)
      · exact ⟨l, List.mem_cons_self, e, he, hid⟩
      · have : ∃ x ∈ hist (chgE l d) cs, ∃ e ∈ x, e.id = n := by
          refine (ih h.2).2 ?_
          rcases List.mem_cons.1 hc with rfl | hc
          · refine .inl ⟨⟨c.name, c.id⟩, ?_, hid⟩
            unfold chgE
            rw [if_pos hk]
            exact (mem_withE _ _ _).2 (.inl rfl)
          · exact .inr ⟨c, hc, hk, hid⟩
        obtain ⟨x, hx, r⟩ := this
        exact ⟨x, List.mem_cons_of_mem _ hx, r⟩
/-- The numbers that were put. -/
def putIds (cs : List Chg) : List Int := (cs.filter fun c => decide (c.kind = 0)).map (·.id)
theorem mem_putIds (cs : List Chg) (n : Int) : n ∈ putIds cs ↔ ∃ c ∈ cs, c.kind = 0 ∧ c.id = n := by
  unfold putIds
  rw [List.mem_map]
  constructor
  · rintro ⟨c, hc, h⟩
    obtain ⟨h1, h2⟩ := List.mem_filter.1 hc
    exact ⟨c, h1, by simpa using h2, h⟩
  · rintro ⟨c, hc, h1, h2⟩
    exact ⟨c, List.mem_filter.2 ⟨hc, by simpa using h1⟩, h2⟩
theorem putIds_yes (cs : List Chg) (k : Nat) (h : k < cs.length) (hk : cs[k].kind = 0) : putIds (cs.take (k + 1)) = putIds (cs.take k) ++ [cs[k].id] := by
  unfold putIds
  rw [List.take_succ_eq_append_getElem h, List.filter_append, List.map_append]
  simp [hk]
theorem putIds_no (cs : List Chg) (k : Nat) (h : k < cs.length) (hk : ¬ cs[k].kind = 0) : putIds (cs.take (k + 1)) = putIds (cs.take k) := by
  unfold putIds
  rw [List.take_succ_eq_append_getElem h, List.filter_append, List.map_append]
  simp [hk]
theorem putIds_len (cs : List Chg) (k : Nat) : (putIds (cs.take k)).length ≤ k := by
  unfold putIds
  rw [List.length_map]
  refine Nat.le_trans (List.length_filter_le _ _) ?_
  rw [List.length_take]
  exact Nat.min_le_left _ _

theorem rise_eq {a b : List Int} (ha : riseI a) (hb : riseI b) (h : ∀ n, n ∈ a ↔ n ∈ b) : a = b := by
  have na : a.Nodup := ha.imp fun {x y} h => by omega
  have nb : b.Nodup := hb.imp fun {x y} h => by omega
  exact List.Perm.eq_of_pairwise (le := fun x y => x < y) (fun x y _ _ h1 h2 => by omega) ha hb ((List.perm_ext_iff_of_nodup na nb).2 h)
theorem compact_upto (d : Array Int) (hd : ∀ i j, i ≤ j → j < d.size → d[i]! ≤ d[j]!) : ∀ m, m ≤ d.size → riseI (Lib.compactUpTo d m) ∧ ∀ n, n ∈ Lib.compactUpTo d m ↔ ∃ j, j < m ∧ d[j]! = n := by
  intro m
  induction m with
  | zero => intro _; exact ⟨by simp [Lib.compactUpTo, riseI], fun n => by simp [Lib.compactUpTo]⟩
  | succ m ih =>
    intro hm
    obtain ⟨h1, h2⟩ := ih (by omega)
    rw [Lib.compactUpTo_succ]
    by_cases hk : Lib.keeps d m = true
    · rw [if_pos hk]
      refine ⟨List.pairwise_append.2 ⟨h1, List.pairwise_singleton _ _, fun x hx y hy => ?_⟩, fun n => ?_⟩
      · obtain ⟨j, hj, rfl⟩ := (h2 x).1 hx
        obtain rfl : y = d[m]! := by simpa using hy
        have e1 := hd j (m - 1) (by omega) (by omega)
        have e2 := hd (m - 1) m (by omega) (by omega)
        have e3 : d[m]! ≠ d[m - 1]! := by
          have hm0 : m ≠ 0 := by omega
          simpa [Lib.keeps, hm0] using hk
        omega
      · rw [List.mem_append, h2]
        constructor
        · rintro (⟨j, hj, h⟩ | h)
          · exact ⟨j, by omega, h⟩
          · exact ⟨m, by omega, by simpa using (List.mem_singleton.1 h).symm⟩
        · rintro ⟨j, hj, h⟩
          by_cases g : j = m
          · exact .inr (by rw [← h, g]; simp)
          · exact .inl ⟨j, by omega, h⟩
    · rw [if_neg hk, List.append_nil]
      refine ⟨h1, fun n => ?_⟩
      rw [h2]
      have e3 : m ≠ 0 ∧ d[m]! = d[m - 1]! := by
        have := hk
        simp [Lib.keeps] at this
        exact this
      constructor
      · rintro ⟨j, hj, h⟩
        exact ⟨j, by omega, h⟩
      · rintro ⟨j, hj, h⟩
        by_cases g : j = m
        · exact ⟨m - 1, by omega, by rw [← h, g, e3.2]⟩
        · exact ⟨j, by omega, h⟩
/-- Sorted and told once: what is told of all that can be there still. -/
theorem compact_ids {zs : List Int} {l : List Ent} {cs : List Chg} (hm : mays l cs) (hz : zs.Pairwise (· ≤ ·)) (h : ∀ n, n ∈ zs ↔ n ∈ l.map (·.id) ++ putIds cs) : Lib.compact zs = idsK (hist l cs) := by
  have hd : ∀ i j, i ≤ j → j < zs.toArray.size → zs.toArray[i]! ≤ zs.toArray[j]! := by
    intro i j hij hj
    have hj' : j < zs.length := by simpa using hj
    have hi' : i < zs.length := by omega
    rw [getElem!_pos zs.toArray j hj, getElem!_pos zs.toArray i (show i < zs.toArray.size by simpa using hi')]
    show zs[i] ≤ zs[j]
    by_cases g : i = j
    · subst g; exact Int.le_refl _
    · exact List.pairwise_iff_getElem.1 hz i j hi' hj' (by omega)
  obtain ⟨h1, h2⟩ := compact_upto zs.toArray hd zs.length (by simp)
  refine rise_eq h1 (rise_idsK _) fun n => ?_
  show n ∈ Lib.compactUpTo zs.toArray zs.length ↔ _
  rw [h2, mem_idsK, mem_hist cs n hm, ← mem_putIds]
  have e1 : (∃ e ∈ l, e.id = n) ↔ n ∈ l.map (·.id) := by rw [List.mem_map]
  rw [e1, ← List.mem_append, ← h n, List.mem_iff_getElem]
  constructor
  · rintro ⟨j, hj, e⟩
    refine ⟨j, hj, ?_⟩
    rw [getElem!_pos zs.toArray j (show j < zs.toArray.size by simpa using hj)] at e
    exact e
  · rintro ⟨j, hj, e⟩
    refine ⟨j, hj, ?_⟩
    rw [getElem!_pos zs.toArray j (show j < zs.toArray.size by simpa using hj)]
    exact e
end Go.Proofs.YtfgecjlccngddaaGreat
