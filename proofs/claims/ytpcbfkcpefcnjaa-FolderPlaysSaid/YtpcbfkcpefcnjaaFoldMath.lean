/-
  Plain facts on lists of names with numbers (layer 9).
-/
import Derived.Test.YtpcbfkcpefcnjaaEnt
namespace Go.Proofs.Ytpcbfkcpefcnjaa
open Go.RowKit
set_option linter.unusedVariables false

theorem take_get {α : Type} (l : List α) (k : Nat) (h : k < l.length) : l.take (k + 1) = l.take k ++ [l[k]] := by
  rw [List.take_succ_eq_append_getElem h]
def nmB (s : ByteArray) (e : Ent) : Bool := decide (e.name = s)
def findE (l : List Ent) (s : ByteArray) : Option Int := (l.find? (nmB s)).map (·.id)
def withoutE (l : List Ent) (s : ByteArray) : List Ent := l.filter fun e => !nmB s e
/-- Is the entry's name behind s? -/
def gtB (s : ByteArray) (e : Ent) : Bool := !(Op.bytesLess e.name.toList s.toList || e.name.toList == s.toList)
def withS (x : Ent) (p : List Ent × Bool) (e : Ent) : List Ent × Bool := if p.2 = false ∧ gtB x.name e = true then (p.1 ++ [x] ++ [e], true) else (p.1 ++ [e], p.2)
def withK (l : List Ent) (x : Ent) (k : Nat) : List Ent × Bool := (l.take k).foldl (withS x) ([], false)
def withE (l : List Ent) (x : Ent) : List Ent := if (withK l x l.length).2 = true then (withK l x l.length).1 else (withK l x l.length).1 ++ [x]
theorem withK_succ (l : List Ent) (x : Ent) (k : Nat) (h : k < l.length) : withK l x (k + 1) = withS x (withK l x k) l[k] := by
  unfold withK
  rw [take_get l k h, List.foldl_append]
  rfl
theorem withK_len (l : List Ent) (x : Ent) (k : Nat) (h : k ≤ l.length) : (withK l x k).1.length = k + (if (withK l x k).2 = true then 1 else 0) := by
  induction k with
  | zero => rfl
  | succ k ih =>
    have := ih (by omega)
    rw [withK_succ l x k (by omega)]
    unfold withS
    split
    · rename_i h2
      rw [h2.1] at this
      simp at this ⊢
      omega
    · simp
      omega
theorem withE_len (l : List Ent) (x : Ent) : (withE l x).length = l.length + 1 := by
  have := withK_len l x l.length (Nat.le_refl _)
  unfold withE
  split
  · rename_i h; rw [if_pos h] at this; exact this
  · rename_i h; rw [if_neg h] at this; rw [List.length_append, this]; rfl
theorem withoutE_len (l : List Ent) (s : ByteArray) : (withoutE l s).length ≤ l.length := List.length_filter_le _ _
theorem findE_none (l : List Ent) (s : ByteArray) (k : Nat) (h : k < l.length) (h1 : (l.take k).find? (nmB s) = none) (h2 : ¬ l[k].name = s) : (l.take (k + 1)).find? (nmB s) = none := by
  rw [take_get l k h, List.find?_append, h1]
  simp [nmB, h2]
theorem findE_some (l : List Ent) (s : ByteArray) (k : Nat) (h : k < l.length) (h1 : (l.take k).find? (nmB s) = none) (h2 : l[k].name = s) : findE l s = some l[k].id := by
  have e : l.find? (nmB s) = some l[k] := by
    have e := congrArg (List.find? (nmB s)) (show l.take k ++ l[k] :: l.drop (k + 1) = l by simp)
    rw [List.find?_append, h1] at e
    rw [← e, Option.none_or, List.find?_cons_of_pos (by simp [nmB, h2])]
  unfold findE
  rw [e]
  rfl
theorem withoutE_same (l : List Ent) (s : ByteArray) (k : Nat) (h : k < l.length) (h2 : l[k].name = s) : withoutE (l.take (k + 1)) s = withoutE (l.take k) s := by
  unfold withoutE
  rw [take_get l k h, List.filter_append]
  simp [nmB, h2]
theorem withoutE_more (l : List Ent) (s : ByteArray) (k : Nat) (h : k < l.length) (h2 : ¬ l[k].name = s) : withoutE (l.take (k + 1)) s = withoutE (l.take k) s ++ [l[k]] := by
  unfold withoutE
  rw [take_get l k h, List.filter_append]
  simp [nmB, h2]
/-- A rising list of numbers with a number more, once. -/
def addS (n : Int) (p : List Int × Bool) (e : Int) : List Int × Bool := if p.2 = false ∧ n < e then (p.1 ++ [n] ++ [e], true) else (p.1 ++ [e], p.2)
def addK (l : List Int) (n : Int) (k : Nat) : List Int × Bool := (l.take k).foldl (addS n) ([], false)
def addI (l : List Int) (n : Int) : List Int := if n ∈ l then l else if (addK l n l.length).2 = true then (addK l n l.length).1 else (addK l n l.length).1 ++ [n]
theorem addK_succ (l : List Int) (n : Int) (k : Nat) (h : k < l.length) : addK l n (k + 1) = addS n (addK l n k) l[k] := by
  unfold addK
  rw [take_get l k h, List.foldl_append]
  rfl
theorem addK_len (l : List Int) (n : Int) (k : Nat) (h : k ≤ l.length) : (addK l n k).1.length ≤ k + 1 ∧ ((addK l n k).2 = false → (addK l n k).1.length = k) := by
  induction k with
  | zero => exact ⟨by simp [addK], fun _ => rfl⟩
  | succ k ih =>
    have := ih (by omega)
    rw [addK_succ l n k (by omega)]
    unfold addS
    split
    · rename_i h2
      have := this.2 h2.1
      simp
      omega
    · simp
      omega
theorem addI_len (l : List Int) (n : Int) : (addI l n).length ≤ l.length + 1 := by
  have := addK_len l n l.length (Nat.le_refl _)
  unfold addI
  split
  · omega
  · split
    · exact this.1
    · rename_i h
      have := this.2 (by simpa using h)
      simp [this]
def idsK (L : List (List Ent)) : List Int := L.foldl (fun o l => l.foldl (fun o e => addI o e.id) o) []
end Go.Proofs.Ytpcbfkcpefcnjaa
