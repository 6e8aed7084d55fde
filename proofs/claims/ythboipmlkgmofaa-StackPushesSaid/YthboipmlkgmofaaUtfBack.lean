/-
  Contracts of Back, the program's and the document's: the greatest edge that is not above a place.
-/
import Derived.Test.YthboipmlkgmofaaUtfLives
namespace Go.Proofs.Ythboipmlkgmofaa
open Go.RowKit

/-- The greatest edge that is not above a place, whatever number the place is. -/
def backI (l : List UInt8) (p : Int) : Nat := if p < 0 then 0 else if (l.length : Int) < p then l.length else back l p.toNat

theorem edge_zero (l : List UInt8) : edge l 0 := .inl rfl
theorem edge_len (l : List UInt8) : edge l l.length := .inr (.inl rfl)

/-- As far as the document's loop has come: the greatest edge below k. -/
def best (l : List UInt8) : Nat → Nat
  | 0 => 0
  | k + 1 => back l k
theorem best_yes (l : List UInt8) (k : Nat) (h : edge l k) : best l (k + 1) = k := back_edge l k h
theorem best_no (l : List UInt8) (k : Nat) (h : ¬ edge l k) : best l (k + 1) = best l k := by
  cases k with
  | zero => exact absurd (edge_zero l) h
  | succ k => exact back_not l k h
end Go.Proofs.Ythboipmlkgmofaa
