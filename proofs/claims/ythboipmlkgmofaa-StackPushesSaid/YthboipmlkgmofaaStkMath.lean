/-
  Stacks of steps (layer 24), as plain functions: what Push tells, how many edits, what can be run from the top on.
-/
import Derived.Test.YthboipmlkgmofaaStkRow
import Derived.Test.YthboipmlkgmofaaStepMath
namespace Go.Proofs.Ythboipmlkgmofaa
open Go.RowKit

/-- The steps of a stack, without where they lie. -/
def lsP (l : List EPc) : List (List Edt) := l.map EPc.l
theorem lsP_len (l : List EPc) : (lsP l).length = l.length := by simp [lsP]
theorem lsP_app (a b : List EPc) : lsP (a ++ b) = lsP a ++ lsP b := by simp [lsP]
theorem lsP_get (l : List EPc) (k : Nat) (h : k < l.length) : (lsP l)[k]! = (l[k]!).l := by
  rw [getElem!_pos (lsP l) k (by rw [lsP_len]; exact h), epget h]
  simp [lsP]
theorem lsP_take (l : List EPc) (k : Nat) : lsP (l.take k) = (lsP l).take k := by simp [lsP, List.map_take]
theorem lsP_drop (l : List EPc) (k : Nat) : lsP (l.drop k) = (lsP l).drop k := by simp [lsP, List.map_drop]
theorem ltake {L : List (List Edt)} {k : Nat} (h : k < L.length) : L.take (k + 1) = L.take k ++ [L[k]!] := by
  rw [List.take_succ_eq_append_getElem h, getElem!_pos L k h]

/-- What Push tells. -/
def pushL (L : List (List Edt)) (s : List Edt) : List (List Edt) := (L ++ [s]).drop (L.length + 1 - 16)
theorem pushL_few {L : List (List Edt)} {s : List Edt} (h : L.length + 1 ≤ 16) : pushL L s = L ++ [s] := by
  unfold pushL
  rw [show L.length + 1 - 16 = 0 by omega, List.drop_zero]
theorem pushL_many {L : List (List Edt)} {s : List Edt} (h : L.length + 1 - 16 ≤ L.length) : pushL L s = L.drop (L.length + 1 - 16) ++ [s] := by
  unfold pushL
  rw [List.drop_append_of_le_length h]
theorem pushL_len (L : List (List Edt)) (s : List Edt) : (pushL L s).length = min (L.length + 1) 16 := by
  unfold pushL
  rw [List.length_drop, List.length_append]
  simp
  omega

/-- How many edits. -/
def depthL (L : List (List Edt)) : Nat := (L.map List.length).sum
theorem depthL_more (L : List (List Edt)) (k : Nat) (h : k < L.length) : depthL (L.take (k + 1)) = depthL (L.take k) + (L[k]!).length := by
  unfold depthL
  rw [ltake h, List.map_append, List.sum_append]
  simp
theorem depthL_le (L : List (List Edt)) (k : Nat) : depthL (L.take k) ≤ depthL L := by
  have e := congrArg depthL (List.take_append_drop k L)
  unfold depthL at e ⊢
  rw [List.map_append, List.sum_append] at e
  omega
theorem depthL_bound {L : List (List Edt)} {b : Nat} (h : ∀ x ∈ L, x.length ≤ b) : depthL L ≤ L.length * b := by
  unfold depthL
  induction L with
  | nil => exact Nat.zero_le _
  | cons x r ih =>
    rw [List.map_cons, List.sum_cons, List.length_cons, Nat.succ_mul]
    have := h x (List.mem_cons_self ..)
    have := ih fun y hy => h y (List.mem_cons_of_mem _ hy)
    omega

/-- Can these be run, the first one first, with what f makes of each? -/
def goesE (f : List Edt → List Edt) (t : ByteArray) : List (List Edt) → Bool
  | [] => true
  | x :: r => if rightS t (f x) = true then goesE f (runE t (f x)).1 r else false
theorem goesE_nil (f : List Edt → List Edt) (t : ByteArray) : goesE f t [] = true := rfl
theorem goesE_no {f : List Edt → List Edt} {t : ByteArray} {x : List Edt} {r : List (List Edt)} (h : rightS t (f x) = false) : goesE f t (x :: r) = false := by
  show (if rightS t (f x) = true then _ else _) = _
  rw [if_neg (by rw [h]; decide)]
theorem goesE_ok {f : List Edt → List Edt} {t : ByteArray} {x : List Edt} {r : List (List Edt)} (h : rightS t (f x) = true) : goesE f t (x :: r) = goesE f (runE t (f x)).1 r := by
  show (if rightS t (f x) = true then _ else _) = _
  rw [if_pos h]
theorem rightS_size {t : ByteArray} {l : List Edt} (h : rightS t l = true) : (runE t l).1.size ≤ max t.size 4096 := by
  unfold rightS at h
  simp only [Bool.and_eq_true, decide_eq_true_eq, beq_iff_eq] at h
  exact runE_size (s := (runE t l).1) (by rw [← h.2])
/-- What Undoes and Redoes tell. -/
def goes16 (f : List Edt → List Edt) (t : ByteArray) (L : List (List Edt)) : Bool := goesE f t L.reverse && decide (L.length ≤ 16)
theorem rev_take (L : List (List Edt)) (k : Nat) (h : k < L.length) : (L.take (k + 1)).reverse = L[k]! :: (L.take k).reverse := by
  rw [ltake h, List.reverse_append]
  rfl
theorem Edtz.inv {l : List Edt} {b : Nat} (h : Edtz l b) : Edtz (invL l) b := fun x hx => by
  unfold invL at hx
  obtain ⟨y, hy, rfl⟩ := List.mem_map.1 (List.mem_reverse.1 hx)
  exact ⟨(h y hy).2, (h y hy).1⟩
end Go.Proofs.Ythboipmlkgmofaa
