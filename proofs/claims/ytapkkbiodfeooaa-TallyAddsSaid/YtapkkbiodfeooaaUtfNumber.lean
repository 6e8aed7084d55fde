/-
  Contract of the document's 'number': what one to four bytes would be as a rune; -1: they can't.
-/
import Derived.Test.YtapkkbiodfeooaaLawPuts
namespace Go.Proofs.Ytapkkbiodfeooaa
open Go.RowKit

/-- What some bytes would be as a rune. -/
def baseOf (n : Nat) : Nat := if n = 2 then 192 else if n = 3 then 224 else 240
def numI (l : List UInt8) : Int :=
  if l.length = 1 then bt l 0 else if bt l 0 < baseOf l.length then -1 else acc l 0 (bt l 0 - baseOf l.length) (l.length - 1)

theorem acc_le (l : List UInt8) (v : Nat) (hv : v < 256) (j : Nat) (hj : j ≤ 3) : acc l 0 v j < 256 * 262144 + 262144 := by
  match j, hj with
  | 0, _ => simp only [acc]; omega
  | 1, _ => simp only [acc]; omega
  | 2, _ => simp only [acc]; omega
  | 3, _ => simp only [acc]; omega

end Go.Proofs.Ytapkkbiodfeooaa
