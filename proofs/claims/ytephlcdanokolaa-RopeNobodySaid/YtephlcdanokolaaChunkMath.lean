/-
  Texts in chunks, in plain words: the pieces of a cut, halves, tight rows, what is joined.
-/
import Derived.Test.YtephlcdanokolaaUtfBad
namespace Go.Proofs.Ytephlcdanokolaa
open Go.RowKit
set_option linter.unusedVariables false

/-- The place that 'back' finds is an edge, and no edge up to its place is greater. -/
theorem back_is (l : List UInt8) (k : Nat) : edge l (back l k) := by
  induction k with
  | zero => exact edge_zero l
  | succ k ih =>
    by_cases h : edge l (k + 1)
    · rw [back_edge l _ h]; exact h
    · rw [back_not l k h]; exact ih
theorem back_ge (l : List UInt8) (e k : Nat) (h : edge l e) (hk : e ≤ k) : e ≤ back l k := by
  induction k with
  | zero => omega
  | succ k ih =>
    by_cases h2 : edge l (k + 1)
    · rw [back_edge l _ h2]; exact hk
    · rw [back_not l k h2]
      refine ih ?_
      rcases Nat.lt_or_ge k e with g | g
      · obtain rfl : e = k + 1 := by omega
        exact absurd h h2
      · exact g
theorem tkl_four (l : List UInt8) : (tkl l).2 ≤ 4 := by
  unfold tkl
  split
  · simp
  · exact tk_le _ _ _ _
theorem near_upto (n : Nat) : ∀ (l : List UInt8) (k : Nat), l.length ≤ n → vld l → k ≤ l.length → ∃ e, edge l e ∧ e ≤ k ∧ k ≤ e + 3 := by
  induction n with
  | zero => intro l k hn _ hk; exact ⟨0, edge_zero l, Nat.zero_le _, by omega⟩
  | succ n ih =>
    intro l k hn hv hk
    by_cases hl : l = []
    · subst hl; exact ⟨0, edge_zero _, Nat.zero_le _, by simp at hk; omega⟩
    obtain ⟨h1, h2⟩ := (vld_step l hl).1 hv
    have h3 := tkl_le l
    have h4 := tkl_four l
    have h0 := len_pos hl
    rcases Nat.lt_or_ge k (tkl l).2 with g | g
    · exact ⟨0, edge_zero l, Nat.zero_le _, by omega⟩
    · obtain ⟨e, he, e1, e2⟩ := ih (l.drop (tkl l).2) (k - (tkl l).2) (by simp; omega) h2 (by simp; omega)
      refine ⟨(tkl l).2 + e, ?_, by omega, by omega⟩
      rcases he with rfl | he | ⟨he, hb⟩
      · rcases vld_clean _ h2 with hc | hc
        · right; left
          have := congrArg List.length hc
          simp at this; omega
        · rw [bt_drop] at hc
          rcases Nat.lt_or_ge (tkl l).2 l.length with q | q
          · exact .inr (.inr ⟨by omega, hc⟩)
          · exact .inr (.inl (by omega))
      · simp at he
        exact .inr (.inl (by omega))
      · simp at he
        rw [bt_drop] at hb
        exact .inr (.inr ⟨by omega, hb⟩)
/-- In a valid text an edge stands within any four places side by side. -/
theorem back_near (l : List UInt8) (k : Nat) (hv : vld l) (hk : k ≤ l.length) : k ≤ back l k + 3 := by
  obtain ⟨e, he, h1, h2⟩ := near_upto l.length l k (Nat.le_refl _) hv hk
  have := back_ge l e k he h1
  omega
theorem backI_nat (l : List UInt8) (k : Nat) (h : k ≤ l.length) : backI l k = back l k := by
  unfold backI; rw [if_neg (by omega), if_neg (by omega), Int.toNat_natCast]

theorem cut_joins (s : ByteArray) (n : Nat) (h : n ≤ s.size) : s.extract 0 n ++ s.extract n s.size = s := by
  apply str_ext
  rw [app_list, extract_list, extract_list]
  rw [List.drop_zero, Nat.sub_zero, List.take_of_length_le (l := s.data.toList.drop n) (by simp)]
  exact List.take_append_drop n _
theorem piece_size (s : ByteArray) (n : Nat) (h : n ≤ s.size) : (s.extract 0 n).size = n := by simp; omega
theorem rest_size (s : ByteArray) (n : Nat) : (s.extract n s.size).size = s.size - n := by simp
theorem piece_vld (s : ByteArray) (n : Nat) (hv : vld s.data.toList) (he : edge s.data.toList n) : vld (s.extract 0 n).data.toList ∧ vld (s.extract n s.size).data.toList := by
  rw [extract_list, extract_list, List.drop_zero, Nat.sub_zero, List.take_of_length_le (l := s.data.toList.drop n) (by simp)]
  exact vld_edge _ n hv he

/-- Is a text a chunk? -/
def fitsP (s : ByteArray) : Prop := 1 ≤ s.size ∧ s.size ≤ 16 ∧ vld s.data.toList
def fitsB (s : ByteArray) : Bool := decide (1 ≤ s.size) && (decide (s.size ≤ 16) && vldB s.data.toList)
theorem fitsB_iff (s : ByteArray) : fitsB s = true ↔ fitsP s := by
  unfold fitsB fitsP
  rw [Bool.and_eq_true, Bool.and_eq_true, decide_eq_true_iff, decide_eq_true_iff, vldB_iff]

/-- Where the first piece of a long text ends. -/
def cutN (s : ByteArray) : Nat := back s.data.toList 16
theorem cutN_le (s : ByteArray) : cutN s ≤ 16 := back_le _ _
theorem cutN_ge (s : ByteArray) (hv : vld s.data.toList) (h : 16 < s.size) : 13 ≤ cutN s := by
  have := back_near s.data.toList 16 hv (by simp; omega)
  unfold cutN; omega
theorem cutN_edge (s : ByteArray) : edge s.data.toList (cutN s) := back_is _ _

/-- The pieces of a valid text. -/
inductive Ctd : ByteArray → List ByteArray → Prop
  | none {s : ByteArray} : s.size = 0 → Ctd s []
  | last {s : ByteArray} : 0 < s.size → s.size ≤ 16 → Ctd s [s]
  | more {s : ByteArray} {L : List ByteArray} : 16 < s.size → Ctd (s.extract (cutN s) s.size) L → Ctd s (s.extract 0 (cutN s) :: L)
theorem Ctd.same {s : ByteArray} {L : List ByteArray} (h : Ctd s L) : ∀ {L'}, Ctd s L' → L = L' := by
  induction h with
  | none h => intro L' h'; cases h' <;> first | rfl | omega
  | last h1 h2 => intro L' h'; cases h' <;> first | rfl | omega
  | more h1 _ ih => intro L' h'; cases h' with
    | none h => omega
    | last _ h => omega
    | more _ h => rw [ih h]
/-- What Cut answers: the pieces of a valid text, of others nothing. -/
def CutP (s : ByteArray) (L : List ByteArray) : Prop := (vld s.data.toList ∧ Ctd s L) ∨ (¬ vld s.data.toList ∧ L = [])
theorem CutP.same {s : ByteArray} {L L' : List ByteArray} (h : CutP s L) (h' : CutP s L') : L = L' := by
  rcases h with ⟨v, h⟩ | ⟨v, h⟩ <;> rcases h' with ⟨v', h'⟩ | ⟨v', h'⟩
  · exact h.same h'
  · exact absurd v v'
  · exact absurd v' v
  · rw [h, h']

/-- All texts, one behind the other. -/
def wholeL (L : List ByteArray) : ByteArray := L.foldl (· ++ ·) ⟨#[]⟩
theorem app_nil' (p : ByteArray) (s : ByteArray) (h : s.size = 0) : p ++ s = p := by
  apply str_ext
  rw [app_list, List.eq_nil_of_length_eq_zero (l := s.data.toList) (by simpa using h), List.append_nil]
theorem app_assoc' (a b c : ByteArray) : a ++ b ++ c = a ++ (b ++ c) := by
  apply str_ext
  rw [app_list, app_list, app_list, app_list, List.append_assoc]
theorem ctd_fold {s : ByteArray} {L : List ByteArray} (h : Ctd s L) : ∀ p, L.foldl (· ++ ·) p = p ++ s := by
  induction h with
  | none h => intro p; exact (app_nil' p _ h).symm
  | last _ _ => intro p; rfl
  | @more s L h1 _ ih =>
    intro p
    rw [List.foldl_cons, ih, app_assoc', cut_joins _ _ (by have := cutN_le s; omega)]
theorem nil_app (s : ByteArray) : (⟨#[]⟩ : ByteArray) ++ s = s := by
  apply str_ext; rw [app_list]; rfl
theorem ctd_whole {s : ByteArray} {L : List ByteArray} (h : Ctd s L) : wholeL L = s := by
  unfold wholeL; rw [ctd_fold h, nil_app]
theorem whole_take (L : List ByteArray) (k : Nat) (h : k < L.length) : wholeL (L.take (k + 1)) = wholeL (L.take k) ++ L[k] := by
  unfold wholeL
  rw [List.take_succ_eq_append_getElem h, List.foldl_append]
  rfl

/-- Are all chunks, and no two side by side have at most 16 bytes? -/
def TightP (L : List ByteArray) : Prop := ∀ (k : Nat) (h : k < L.length), fitsP L[k] ∧ ∀ (h0 : 0 < k), 16 < (L[k - 1]'(by omega)).size + L[k].size
theorem tight_nil : TightP [] := fun k h => absurd h (by simp)
theorem tight_cons {x : ByteArray} {L : List ByteArray} (hx : fitsP x) (hy : ∀ h : 0 < L.length, 16 < x.size + (L[0]'h).size) (hL : TightP L) : TightP (x :: L) := by
  intro k h
  cases k with
  | zero => exact ⟨hx, fun h0 => absurd h0 (Nat.lt_irrefl _)⟩
  | succ k =>
    have hk : k < L.length := by simpa using h
    refine ⟨(hL k hk).1, fun _ => ?_⟩
    cases k with
    | zero => exact hy hk
    | succ k => exact (hL (k + 1) hk).2 (Nat.succ_pos _)
theorem ctd_tight {s : ByteArray} {L : List ByteArray} (h : Ctd s L) (hv : vld s.data.toList) : TightP L ∧ (∀ h0 : 0 < L.length, (L[0]'h0).size = s.size ∨ 13 ≤ (L[0]'h0).size) ∧ L.length ≤ s.size := by
  induction h with
  | none h => exact ⟨tight_nil, fun h0 => absurd h0 (by simp), by simp⟩
  | last h1 h2 => exact ⟨tight_cons ⟨h1, h2, hv⟩ (fun h => absurd h (by simp)) tight_nil, fun _ => .inl rfl, by simp; omega⟩
  | @more s L h1 h2 ih =>
    have hn := cutN_le s
    have hn2 := cutN_ge s hv h1
    have hp := piece_vld s (cutN s) hv (cutN_edge s)
    have z1 := piece_size s (cutN s) (by omega)
    have z2 := rest_size s (cutN s)
    obtain ⟨i1, i2, i3⟩ := ih hp.2
    refine ⟨tight_cons ⟨by omega, by omega, hp.1⟩ (fun h => ?_) i1, fun _ => .inr ?_, ?_⟩
    · rcases i2 h with g | g <;> omega
    · show 13 ≤ (s.extract 0 (cutN s)).size; omega
    · simp only [List.length_cons]; omega
theorem cutP_none {s : ByteArray} {L : List ByteArray} (h : CutP s L) : L.length = 0 ∨ (TightP L ∧ wholeL L = s) := by
  rcases h with ⟨v, h⟩ | ⟨_, h⟩
  · exact .inr ⟨(ctd_tight h v).1, ctd_whole h⟩
  · subst h; exact .inl rfl

/-- Where a text's first half ends. -/
def halfN (s : ByteArray) : Nat := back s.data.toList ((s.size + 1) / 2)
theorem halfN_le (s : ByteArray) : halfN s ≤ s.size := by have := back_le s.data.toList ((s.size + 1) / 2); unfold halfN; omega
/-- Two chunks joined; of others nothing. -/
def joinL (a b : ByteArray) : List ByteArray :=
  if fitsB a = true ∧ fitsB b = true then
    if (a ++ b).size ≤ 16 then [a ++ b]
    else if fitsB ((a ++ b).extract 0 (halfN (a ++ b))) = true ∧ fitsB ((a ++ b).extract (halfN (a ++ b)) (a ++ b).size) = true then [(a ++ b).extract 0 (halfN (a ++ b)), (a ++ b).extract (halfN (a ++ b)) (a ++ b).size]
    else [a, b]
  else []
theorem join_len (a b : ByteArray) : (joinL a b).length ≤ 2 := by
  unfold joinL; split
  · split
    · simp
    · split <;> simp
  · simp
theorem join_no {a b : ByteArray} (h : (joinL a b).length = 0) : ¬ (fitsB a = true ∧ fitsB b = true) := by
  intro g
  unfold joinL at h
  rw [if_pos g] at h
  split at h
  · simp at h
  · split at h <;> simp at h
theorem whole_two (x y : ByteArray) : wholeL [x, y] = x ++ y := by
  unfold wholeL
  simp only [List.foldl_cons, List.foldl_nil]
  rw [nil_app]
theorem join_yes {a b : ByteArray} (h : (joinL a b).length ≠ 0) : (∀ (k : Nat) (hk : k < (joinL a b).length), fitsB ((joinL a b)[k]) = true) ∧ wholeL (joinL a b) = a ++ b := by
  have e : ∀ {x : List ByteArray}, joinL a b = x → ((∀ (k : Nat) (hk : k < x.length), fitsB x[k] = true) ∧ wholeL x = a ++ b) → (∀ (k : Nat) (hk : k < (joinL a b).length), fitsB ((joinL a b)[k]) = true) ∧ wholeL (joinL a b) = a ++ b := by
    intro x hx g; subst hx; exact g
  by_cases hf : fitsB a = true ∧ fitsB b = true
  · by_cases h1 : (a ++ b).size ≤ 16
    · refine e (by unfold joinL; rw [if_pos hf, if_pos h1]) ⟨fun k hk => ?_, ?_⟩
      · obtain rfl : k = 0 := by simp at hk; omega
        obtain ⟨p1, p2, p3⟩ := (fitsB_iff _).1 hf.1
        obtain ⟨q1, q2, q3⟩ := (fitsB_iff _).1 hf.2
        refine (fitsB_iff _).2 ⟨?_, h1, ?_⟩
        · show 1 ≤ (a ++ b).size
          rw [ByteArray.size_append]; omega
        · show vld (a ++ b).data.toList
          rw [app_list]; exact vld_app _ _ p3 q3
      · unfold wholeL; exact nil_app _
    · by_cases h2 : fitsB ((a ++ b).extract 0 (halfN (a ++ b))) = true ∧ fitsB ((a ++ b).extract (halfN (a ++ b)) (a ++ b).size) = true
      · refine e (by unfold joinL; rw [if_pos hf, if_neg h1, if_pos h2]) ⟨fun k hk => ?_, ?_⟩
        · match k, hk with
          | 0, _ => exact h2.1
          | 1, _ => exact h2.2
        · rw [whole_two, cut_joins _ _ (halfN_le _)]
      · refine e (by unfold joinL; rw [if_pos hf, if_neg h1, if_neg h2]) ⟨fun k hk => ?_, whole_two _ _⟩
        match k, hk with
        | 0, _ => exact hf.1
        | 1, _ => exact hf.2
  · exact absurd (by unfold joinL; rw [if_neg hf]; rfl) h
end Go.Proofs.Ytephlcdanokolaa
