/-
  The frames that bytes begin with, in plain words: which are found from a place on, and where that ends; that frames laid one behind the other are found, up to the first of whose data a byte is another one.
-/
import Derived.Test.YtibbglmhcjnedaaDoorFrameRef2
import Derived.Test.YtibbglmhcjnedaaDoorFrms
import Derived.Test.YtibbglmhcjnedaaDoorPart
namespace Go.Proofs.YtibbglmhcjnedaaDoor
open Go.RowKit

/-- Stands a frame at a place; which one; how long it is. -/
abbrev okL (l : List UInt8) (k : Nat) : Prop := frmE (l.drop k) = 0
def frL (l : List UInt8) (k : Nat) : Frm := ⟨leN (l.drop k) 4 4, leN (l.drop k) 8 4, ⟨(datL (l.drop k)).toArray⟩⟩
def lnL (l : List UInt8) (k : Nat) : Nat := 16 + leN (l.drop k) 2 2
def upT (k : Nat) : Nat := (k + 31) / 32 * 32
theorem upT_ge (k : Nat) : k ≤ upT k := by unfold upT; omega
theorem upT_mod (k : Nat) : upT k % 32 = 0 := by unfold upT; omega
theorem upT_more {k : Nat} (h : k % 32 ≠ 0) : k < upT k ∧ upT k - k = 32 - k % 32 ∧ upT k - k ≤ 31 := by unfold upT; omega
/-- Is it filled up from a place on? -/
def allF (l : List UInt8) : Bool := l.all fun b => b == 255
def fillL (l : List UInt8) (k : Nat) : Bool := decide (k % 32 ≠ 0) && decide (upT k ≤ l.length) && allF ((l.drop k).take (upT k - k))
theorem fillL_yes {l : List UInt8} {k : Nat} : fillL l k = true ↔ k % 32 ≠ 0 ∧ upT k ≤ l.length ∧ allF ((l.drop k).take (upT k - k)) = true := by unfold fillL; simp [and_assoc]
theorem allF_get {l : List UInt8} (h : allF l = true) (i : Nat) (hi : i < l.length) : bt l i = 255 := by
  have := List.all_eq_true.1 h l[i] (List.getElem_mem hi)
  unfold bt
  rw [List.getD_eq_getElem?_getD, List.getElem?_eq_getElem hi]
  simp only [Option.getD_some]
  rw [show l[i] = 255 by simpa using this]; rfl

theorem frmE_nil : frmE [] = 18 := by unfold frmE begB; simp
theorem ok_beg {l : List UInt8} (h : frmE l = 0) : bt l 0 = 83 := by
  obtain ⟨hb, hl, _⟩ := frmE_zero h
  unfold begB at hb
  simp only [Bool.and_eq_true, Bool.or_eq_true, decide_eq_true_eq] at hb
  omega
theorem ok_len {l : List UInt8} {k : Nat} (h : okL l k) : k + lnL l k ≤ l.length ∧ 16 ≤ lnL l k ∧ lnL l k ≤ 1040 := by
  obtain ⟨_, hl, hn, _⟩ := frmE_zero h
  unfold lnL
  rw [List.length_drop] at hl
  omega
theorem fill_beg {l : List UInt8} {k : Nat} (h : fillL l k = true) : bt (l.drop k) 0 = 255 := by
  obtain ⟨h1, h2, h3⟩ := fillL_yes.1 h
  have hm := upT_more h1
  have := allF_get h3 0 (by simp; omega)
  rwa [bt_take _ _ _ (by omega)] at this
theorem ok_noFill {l : List UInt8} {k : Nat} (h : okL l k) : fillL l k = false := by
  cases hf : fillL l k with
  | false => rfl
  | true => have h1 := fill_beg hf; have h2 := ok_beg h; omega

/-- The frame that comes next stands at a place. -/
def mtL (l : List UInt8) (ep sq : Int) (k : Nat) : Prop := okL l k ∧ (frL l k).ep = ep ∧ (frL l k).sq = sq
instance (l : List UInt8) (ep sq : Int) (k : Nat) : Decidable (mtL l ep sq k) := by unfold mtL; infer_instance
def ranF (l : List UInt8) (ep : Int) : Nat → Int → Nat → Option (List Frm × Nat)
  | 0, _, _ => none
  | n + 1, sq, k => if mtL l ep sq k then (ranF l ep n (sq + 1) (k + lnL l k)).map (fun r => (frL l k :: r.1, r.2)) else if fillL l k = true then ranF l ep n sq (upT k) else some ([], k)
/-- From the place k on, the number sq next, just these are found, and it ends there. -/
def Ran (l : List UInt8) (ep sq : Int) (k : Nat) (L : List Frm) (e : Nat) : Prop := ∃ n, ranF l ep n sq k = some (L, e)
theorem Ran.one {l : List UInt8} {ep sq : Int} {k : Nat} {L : List Frm} {e : Nat} (h : mtL l ep sq k) (hr : Ran l ep (sq + 1) (k + lnL l k) L e) : Ran l ep sq k (frL l k :: L) e := by
  obtain ⟨n, hn⟩ := hr
  exact ⟨n + 1, by unfold ranF; rw [if_pos h, hn]; rfl⟩
theorem Ran.fill {l : List UInt8} {ep sq : Int} {k : Nat} {L : List Frm} {e : Nat} (hf : fillL l k = true) (hr : Ran l ep sq (upT k) L e) : Ran l ep sq k L e := by
  obtain ⟨n, hn⟩ := hr
  have h : ¬ mtL l ep sq k := fun h => by rw [ok_noFill h.1] at hf; cases hf
  exact ⟨n + 1, by unfold ranF; rw [if_neg h, if_pos hf, hn]⟩
theorem Ran.stop {l : List UInt8} {ep sq : Int} {k : Nat} (h : ¬ mtL l ep sq k) (hf : fillL l k = false) : Ran l ep sq k [] k :=
  ⟨1, by unfold ranF; rw [if_neg h, if_neg (by rw [hf]; simp)]⟩
theorem ranF_more {l : List UInt8} {ep : Int} : ∀ (n m : Nat) (sq : Int) (k : Nat) (r : List Frm × Nat), n ≤ m → ranF l ep n sq k = some r → ranF l ep m sq k = some r := by
  intro n
  induction n with
  | zero => intro m sq k r _ h; cases h
  | succ n ih =>
    intro m sq k r hm h
    obtain ⟨m, rfl⟩ : ∃ m', m = m' + 1 := ⟨m - 1, by omega⟩
    unfold ranF at h ⊢
    split at h
    · rename_i hmt
      rw [if_pos hmt]
      cases hx : ranF l ep n (sq + 1) (k + lnL l k) with
      | none => rw [hx] at h; cases h
      | some y => rw [ih m _ _ y (by omega) hx]; rw [hx] at h; exact h
    · rename_i hmt
      rw [if_neg hmt]
      split at h
      · rename_i hf; rw [if_pos hf]; exact ih m _ _ r (by omega) h
      · rename_i hf; rw [if_neg hf]; exact h
theorem Ran.same {l : List UInt8} {ep sq : Int} {k : Nat} {L L' : List Frm} {e e' : Nat} (h : Ran l ep sq k L e) (h' : Ran l ep sq k L' e') : L = L' ∧ e = e' := by
  obtain ⟨n, hn⟩ := h
  obtain ⟨m, hm⟩ := h'
  have a := ranF_more n (n + m) _ _ _ (by omega) hn
  have b := ranF_more m (n + m) _ _ _ (by omega) hm
  rw [a] at b
  cases b
  exact ⟨rfl, rfl⟩
theorem Ran.ends {l : List UInt8} {ep sq : Int} {k : Nat} {L : List Frm} {e : Nat} (h : Ran l ep sq k L e) (hk : k ≤ l.length) : k + 16 * L.length ≤ e ∧ e ≤ l.length := by
  obtain ⟨n, hn⟩ := h
  induction n generalizing sq k L with
  | zero => cases hn
  | succ n ih =>
    unfold ranF at hn
    split at hn
    · rename_i hm
      have hl := ok_len hm.1
      cases hx : ranF l ep n (sq + 1) (k + lnL l k) with
      | none => rw [hx] at hn; cases hn
      | some y =>
        rw [hx] at hn
        cases hn
        have := ih (L := y.1) hl.1 hx
        simp only [List.length_cons]
        omega
    · split at hn
      · rename_i hf
        obtain ⟨h1, h2, _⟩ := fillL_yes.1 hf
        have := ih h2 hn
        have := upT_ge k
        omega
      · cases hn
        simp; omega

/-- All frames that stand anywhere, from a place on. -/
def anyF (l : List UInt8) : Nat → Nat → Option (List Frm)
  | 0, _ => none
  | n + 1, k => if okL l k then (anyF l n (k + lnL l k)).map (fun r => frL l k :: r) else if k < l.length then anyF l n (k + 1) else some []
def AnyR (l : List UInt8) (k : Nat) (L : List Frm) : Prop := ∃ n, anyF l n k = some L
theorem AnyR.one {l : List UInt8} {k : Nat} {L : List Frm} (h : okL l k) (hr : AnyR l (k + lnL l k) L) : AnyR l k (frL l k :: L) := by
  obtain ⟨n, hn⟩ := hr
  exact ⟨n + 1, by unfold anyF; rw [if_pos h, hn]; rfl⟩
theorem AnyR.skip {l : List UInt8} {k : Nat} {L : List Frm} (h : ¬ okL l k) (hk : k < l.length) (hr : AnyR l (k + 1) L) : AnyR l k L := by
  obtain ⟨n, hn⟩ := hr
  exact ⟨n + 1, by unfold anyF; rw [if_neg h, if_pos hk, hn]⟩
theorem not_ok_end {l : List UInt8} {k : Nat} (h : l.length ≤ k) : ¬ okL l k := by
  intro e
  have := ok_len e
  omega
theorem AnyR.stop {l : List UInt8} {k : Nat} (h : l.length ≤ k) : AnyR l k [] :=
  ⟨1, by unfold anyF; rw [if_neg (not_ok_end h), if_neg (by omega)]⟩
theorem anyF_more {l : List UInt8} : ∀ (n m : Nat) (k : Nat) (r : List Frm), n ≤ m → anyF l n k = some r → anyF l m k = some r := by
  intro n
  induction n with
  | zero => intro m k r _ h; cases h
  | succ n ih =>
    intro m k r hm h
    obtain ⟨m, rfl⟩ : ∃ m', m = m' + 1 := ⟨m - 1, by omega⟩
    unfold anyF at h ⊢
    split at h
    · rename_i hmt
      rw [if_pos hmt]
      cases hx : anyF l n (k + lnL l k) with
      | none => rw [hx] at h; cases h
      | some y => rw [ih m _ y (by omega) hx]; rw [hx] at h; exact h
    · rename_i hmt
      rw [if_neg hmt]
      split at h
      · rename_i hf; rw [if_pos hf]; exact ih m _ r (by omega) h
      · rename_i hf; rw [if_neg hf]; exact h
theorem AnyR.same {l : List UInt8} {k : Nat} {L L' : List Frm} (h : AnyR l k L) (h' : AnyR l k L') : L = L' := by
  obtain ⟨n, hn⟩ := h
  obtain ⟨m, hm⟩ := h'
  have a := anyF_more n (n + m) _ _ (by omega) hn
  have b := anyF_more m (n + m) _ _ (by omega) hm
  rw [a] at b
  cases b
  rfl
theorem AnyR.ends {l : List UInt8} {k : Nat} {L : List Frm} (h : AnyR l k L) (hk : k ≤ l.length) : k + 16 * L.length ≤ l.length := by
  obtain ⟨n, hn⟩ := h
  induction n generalizing k L with
  | zero => cases hn
  | succ n ih =>
    unfold anyF at hn
    split at hn
    · rename_i hm
      have hl := ok_len hm
      cases hx : anyF l n (k + lnL l k) with
      | none => rw [hx] at hn; cases hn
      | some y =>
        rw [hx] at hn
        cases hn
        have := ih (L := y) hl.1 hx
        simp only [List.length_cons]
        omega
    · split at hn
      · have := ih (by omega) hn
        omega
      · cases hn
        simp; omega

/-- What stands where it ended. -/
def whyN (l : List UInt8) (e : Nat) : Nat := if e = l.length then 0 else if frmE (l.drop e) = 0 then 3 else frmE (l.drop e)

/-! Frames laid one behind the other. -/
/-- One more, filled up or not. -/
def padL (a : List UInt8) (f : Bool) : List UInt8 := if f = true ∧ a.length % 32 ≠ 0 then List.replicate (32 - a.length % 32) 255 else []
def addP (acc : List UInt8) (ep sq : Nat) (p : Part) : List UInt8 := acc ++ frmL ep sq p.data.data.toList ++ padL (acc ++ frmL ep sq p.data.data.toList) p.fill
def layK (l : List Part) (ep sq : Nat) : Nat → List UInt8
  | 0 => []
  | k + 1 => match l[k]? with
    | some p => addP (layK l ep sq k) ep (sq + k) p
    | none => layK l ep sq k
theorem layK_succ {l : List Part} {ep sq k : Nat} (h : k < l.length) : layK l ep sq (k + 1) = addP (layK l ep sq k) ep (sq + k) l[k] := by
  show (match l[k]? with | some p => addP (layK l ep sq k) ep (sq + k) p | none => layK l ep sq k) = _
  rw [List.getElem?_eq_getElem h]
/-- The frames that are laid so. -/
def frK (l : List Part) (ep sq : Nat) (k : Nat) : List Frm := (l.take k).mapIdx fun i p => ⟨(ep : Int), ((sq + i : Nat) : Int), p.data⟩
theorem frK_zero (l : List Part) (ep sq : Nat) : frK l ep sq 0 = [] := rfl
theorem frK_succ {l : List Part} {ep sq k : Nat} (h : k < l.length) : frK l ep sq (k + 1) = frK l ep sq k ++ [⟨(ep : Int), ((sq + k : Nat) : Int), l[k].data⟩] := by
  unfold frK
  rw [List.take_add_one, List.getElem?_eq_getElem h, List.mapIdx_append]
  simp [Nat.min_eq_left (Nat.le_of_lt h)]
theorem frK_len (l : List Part) (ep sq k : Nat) : (frK l ep sq k).length = min k l.length := by simp [frK]
theorem frK_get {l : List Part} {ep sq k i : Nat} (hi : i < (frK l ep sq k).length) (h : i < l.length) : (frK l ep sq k)[i] = ⟨(ep : Int), ((sq + i : Nat) : Int), l[i].data⟩ := by
  simp [frK]

theorem frame_at {l : List UInt8} {ep sq k : Nat} {d t : List UInt8} (h : l.drop k = frmL ep sq d ++ t) (he : ep ≤ 999999) (hq : sq ≤ 2147483647) (hd : d.length ≤ 1024) :
    mtL l ep sq k ∧ frL l k = ⟨(ep : Int), (sq : Int), ⟨d.toArray⟩⟩ ∧ lnL l k = 16 + d.length := by
  obtain ⟨h0, h1, h2, h3, h4⟩ := frm_back ep sq d t he hq hd
  have e : frL l k = ⟨(ep : Int), (sq : Int), ⟨d.toArray⟩⟩ := by unfold frL; rw [h, h2, h3, h4]
  refine ⟨⟨by show frmE (l.drop k) = 0; rw [h]; exact h0, by rw [e], by rw [e]⟩, e, by unfold lnL; rw [h, h1]⟩
theorem drop_on {l a b : List UInt8} {k : Nat} (h : l.drop k = a ++ b) : l.drop (k + a.length) = b := by
  rw [← List.drop_drop, h, List.drop_left]
theorem pad_at {l : List UInt8} {k : Nat} {t : List UInt8} (h : l.drop k = List.replicate (32 - k % 32) 255 ++ t) (hk : k % 32 ≠ 0) : fillL l k = true ∧ upT k = k + (32 - k % 32) := by
  obtain ⟨h1, h2, h3⟩ := upT_more hk
  have hlen := congrArg List.length h
  rw [List.length_drop, List.length_append, List.length_replicate] at hlen
  refine ⟨fillL_yes.2 ⟨hk, by omega, ?_⟩, by omega⟩
  rw [h2, h, List.take_left' (by simp)]
  unfold allF
  rw [List.all_replicate]
  simp
theorem string_toArray (d : ByteArray) : (⟨d.data.toList.toArray⟩ : ByteArray) = d := by simp

/-- FOUND: whatever begins with frames laid so has these found first. -/
theorem found (l : List Part) (ep sq : Nat) (he : ep ≤ 999999) (hq : sq + l.length ≤ 2147483647) (hd : ∀ p ∈ l, p.data.size ≤ 1024) (S : List UInt8) :
    ∀ (w : Nat), w ≤ l.length → (∃ t, S = layK l ep sq w ++ t) → ∀ (L : List Frm) (e : Nat), Ran S ep ((sq + w : Nat) : Int) (layK l ep sq w).length L e → Ran S ep sq 0 (frK l ep sq w ++ L) e := by
  intro w
  induction w with
  | zero => intro _ _ L e h; simpa [frK_zero, layK] using h
  | succ w ih =>
    intro hw ⟨t, ht⟩ L e h
    have hlt : w < l.length := by omega
    have hdw := hd l[w] (List.getElem_mem hlt)
    have hdl : l[w].data.data.toList.length = l[w].data.size := by simp
    obtain ⟨A, hA⟩ : ∃ A, layK l ep sq w = A := ⟨_, rfl⟩
    obtain ⟨F, hF⟩ : ∃ F, frmL ep (sq + w) l[w].data.data.toList = F := ⟨_, rfl⟩
    have hFl : F.length = 16 + l[w].data.size := by rw [← hF, frmL_length, hdl]
    rw [layK_succ hlt, hA] at ht h
    unfold addP at ht h
    rw [hF] at ht h
    rw [frK_succ hlt, List.append_assoc, List.singleton_append]
    have hpre : S = A ++ (F ++ (padL (A ++ F) l[w].fill ++ t)) := by rw [ht]; simp
    have hdrop : S.drop A.length = F ++ (padL (A ++ F) l[w].fill ++ t) := by rw [hpre, List.drop_left]
    refine ih (by omega) ⟨_, by rw [hA]; exact hpre⟩ _ _ ?_
    rw [hA]
    obtain ⟨m1, m2, m3⟩ := frame_at (hF ▸ hdrop) he (by omega) (by rw [hdl]; omega)
    rw [string_toArray] at m2
    rw [← m2]
    refine Ran.one m1 ?_
    rw [m3, hdl, ← hFl, show ((sq + w : Nat) : Int) + 1 = ((sq + (w + 1) : Nat) : Int) by omega]
    have hnext := drop_on hdrop
    by_cases hp : l[w].fill = true ∧ (A ++ F).length % 32 ≠ 0
    · have e1 : padL (A ++ F) l[w].fill = List.replicate (32 - (A.length + F.length) % 32) 255 := by unfold padL; rw [if_pos hp, List.length_append]
      rw [List.length_append] at hp
      rw [e1] at hnext h
      obtain ⟨p1, p2⟩ := pad_at hnext hp.2
      refine Ran.fill p1 ?_
      rw [p2]
      simpa [Nat.add_assoc] using h
    · have e1 : padL (A ++ F) l[w].fill = [] := by unfold padL; rw [if_neg hp]
      rw [e1, List.append_nil, List.length_append] at h
      exact h
theorem layK_prefix (l : List Part) (ep sq : Nat) : ∀ (m w : Nat), ∃ t, layK l ep sq (w + m) = layK l ep sq w ++ t := by
  intro m
  induction m with
  | zero => intro w; exact ⟨[], by simp⟩
  | succ m ih =>
    intro w
    obtain ⟨t, ht⟩ := ih w
    show ∃ t, (match l[w + m]? with | some p => addP (layK l ep sq (w + m)) ep (sq + (w + m)) p | none => layK l ep sq (w + m)) = layK l ep sq w ++ t
    split
    · exact ⟨_, by unfold addP; rw [ht]; simp only [List.append_assoc]; rfl⟩
    · exact ⟨t, ht⟩
/-- What stands behind begins no frame and fills nothing up: it ends there. -/
theorem ends_at {S b : List UInt8} {k : Nat} (ep sq : Int) (hS : S.drop k = b) (hb : b = [] ∨ (bt b 0 ≠ 83 ∧ bt b 0 ≠ 255)) (hk : k ≤ S.length) : Ran S ep sq k [] k := by
  refine Ran.stop (fun h => ?_) ?_
  · have h1 : frmE (S.drop k) = 0 := h.1
    rw [hS] at h1
    rcases hb with rfl | ⟨h2, _⟩
    · rw [frmE_nil] at h1; cases h1
    · exact h2 (ok_beg h1)
  · cases hf : fillL S k with
    | false => rfl
    | true =>
      rcases hb with rfl | ⟨_, h2⟩
      · have hl := congrArg List.length hS
        rw [List.length_drop] at hl
        obtain ⟨g1, g2, _⟩ := fillL_yes.1 hf
        have := upT_more g1
        simp at hl; omega
      · have := fill_beg hf
        rw [hS] at this
        exact absurd this h2

/-- What stands behind a frame's bytes plays no part. -/
theorem frmE_app (x t : List UInt8) (h : 16 + leN x 2 2 ≤ x.length) : frmE (x ++ t) = frmE x := by
  have b : ∀ i, i < x.length → bt (x ++ t) i = bt x i := fun i hi => bt_app_lt x t i hi
  have e1 : leN (x ++ t) 2 2 = leN x 2 2 := leN_alike _ _ 2 _ _ fun i hi => b _ (by omega)
  have e2 : leN (x ++ t) 4 4 = leN x 4 4 := leN_alike _ _ 4 _ _ fun i hi => b _ (by omega)
  have e3 : leN (x ++ t) 8 4 = leN x 8 4 := leN_alike _ _ 4 _ _ fun i hi => b _ (by omega)
  have e4 : leN (x ++ t) 12 4 = leN x 12 4 := leN_alike _ _ 4 _ _ fun i hi => b _ (by omega)
  have e5 : ((x ++ t).drop 2).take 10 = (x.drop 2).take 10 := by rw [List.drop_append_of_le_length (by omega), List.take_append_of_le_length (by simp; omega)]
  have e6 : datL (x ++ t) = datL x := by unfold datL; rw [e1, List.drop_append_of_le_length (by omega), List.take_append_of_le_length (by simp; omega)]
  have e7 : begB (x ++ t) = begB x := by
    unfold begB
    rw [b 0 (by omega), b 1 (by omega), List.length_append]
    have a1 : decide (x.length + t.length < 1) = decide (x.length < 1) := decide_eq_decide.2 (by omega)
    have a2 : decide (x.length + t.length < 2) = decide (x.length < 2) := decide_eq_decide.2 (by omega)
    rw [a1, a2]
  unfold frmE
  rw [e1, e2, e3, e4, e5, e6, e7, List.length_append]
  by_cases hb : begB x = false
  · rw [if_pos hb, if_pos hb]
  · rw [if_neg hb, if_neg hb, if_neg (by omega), if_neg (show ¬ x.length < 16 by omega)]
    by_cases hn : 1024 < leN x 2 2
    · rw [if_pos hn, if_pos hn]
    · rw [if_neg hn, if_neg hn, if_neg (by omega), if_neg (show ¬ x.length < 16 + leN x 2 2 by omega)]
/-- CHANGED: the frame of whose data a byte is another one. -/
theorem stops_at (l : List Part) (ep sq w at_ p : Nat) (b : UInt8) (hw : w < l.length) (hd : l[w].data.size ≤ 1024) (hat : at_ < l[w].data.size) (hp : p ≠ 0) (hp8 : p < 256)
    (hb : b.toNat = (l[w].data.data.toList.getD at_ 0).toNat ^^^ p) (S : List UInt8) (hS : ∃ t, S = layK l ep sq (w + 1) ++ t) :
    frmE ((S.set ((layK l ep sq w).length + 16 + at_) b).drop (layK l ep sq w).length) = 19 ∧ bt ((S.set ((layK l ep sq w).length + 16 + at_) b).drop (layK l ep sq w).length) 0 = 83 ∧
      (∃ t, S.set ((layK l ep sq w).length + 16 + at_) b = layK l ep sq w ++ t) ∧ (layK l ep sq w).length + 16 + at_ < S.length ∧ S.getD ((layK l ep sq w).length + 16 + at_) 0 = l[w].data.data.toList.getD at_ 0 := by
  obtain ⟨t, ht⟩ := hS
  have hdl : l[w].data.data.toList.length = l[w].data.size := by simp
  rw [layK_succ hw] at ht
  obtain ⟨A, hA⟩ : ∃ A, layK l ep sq w = A := ⟨_, rfl⟩
  rw [hA] at ht ⊢
  unfold addP at ht
  obtain ⟨T, hT⟩ : ∃ T, padL (A ++ frmL ep (sq + w) l[w].data.data.toList) l[w].fill ++ t = T := ⟨_, rfl⟩
  have hpre : S = A ++ (frmL ep (sq + w) l[w].data.data.toList ++ T) := by rw [ht, ← hT]; simp
  have hFl := frmL_length ep (sq + w) l[w].data.data.toList
  have hset : S.set (A.length + 16 + at_) b = A ++ ((frmL ep (sq + w) l[w].data.data.toList).set (16 + at_) b ++ T) := by
    rw [hpre, List.set_append_right _ _ (by omega), show A.length + 16 + at_ - A.length = 16 + at_ by omega, List.set_append_left _ _ (by omega)]
  have hch := frm_changed ep (sq + w) l[w].data.data.toList (by omega) at_ p b (by omega) hp hp8 hb
  have hset2 : ∀ i, i < 16 → bt ((frmL ep (sq + w) l[w].data.data.toList).set (16 + at_) b) i = bt (frmL ep (sq + w) l[w].data.data.toList) i := fun i hi => by
    unfold bt; rw [List.getD_eq_getElem?_getD, List.getD_eq_getElem?_getD, List.getElem?_set_ne (by omega)]
  obtain ⟨h1, -, -, -, -, h6, h7, -⟩ := frm_pieces ep (sq + w) l[w].data.data.toList []
  rw [List.append_nil] at h1 h6 h7
  rw [Nat.mod_eq_of_lt (by omega)] at h1
  have e1 : leN ((frmL ep (sq + w) l[w].data.data.toList).set (16 + at_) b) 2 2 = l[w].data.data.toList.length := by
    rw [← h1]; exact leN_alike _ _ 2 _ _ fun x hx => hset2 _ (by omega)
  refine ⟨?_, ?_, ⟨_, hset⟩, ?_, ?_⟩
  · rw [hset, List.drop_left, frmE_app _ _ (by rw [e1, List.length_set]; omega)]; exact hch
  · rw [hset, List.drop_left, bt_app_lt _ _ _ (by rw [List.length_set]; omega), hset2 0 (by omega), h7]
  · rw [hpre, List.length_append, List.length_append]; omega
  · rw [hpre, List.getD_eq_getElem?_getD, List.getElem?_append_right (by omega), List.getElem?_append_left (by omega), show A.length + 16 + at_ - A.length = 16 + at_ by omega, ← List.getElem?_drop, h6, List.append_nil, ← List.getD_eq_getElem?_getD]
end Go.Proofs.YtibbglmhcjnedaaDoor
