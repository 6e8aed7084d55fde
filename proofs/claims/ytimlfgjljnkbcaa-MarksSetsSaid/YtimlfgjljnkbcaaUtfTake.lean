/-
  Contract of utf.Take: the rune whose bytes stand at a place, and how many these are; 0 and 0 where none stands.
-/
import Derived.Test.YtimlfgjljnkbcaaUtfLeaf
namespace Go.Proofs.Ytimlfgjljnkbcaa
open Go.RowKit

def OnUp (l : List UInt8) (k j : Nat) : Prop := ∀ m, m < j → 128 ≤ bt l (k + 1 + m) ∧ bt l (k + 1 + m) ≤ 191
theorem onUp_zero (l : List UInt8) (k : Nat) : OnUp l k 0 := fun m h => absurd h (Nat.not_lt_zero m)
theorem onUp_succ {l : List UInt8} {k j : Nat} (h : OnUp l k j) (g : 128 ≤ bt l (k + 1 + j) ∧ bt l (k + 1 + j) ≤ 191) : OnUp l k (j + 1) := fun m hm => by
  by_cases e : m = j
  · subst e; exact g
  · exact h m (by omega)

end Go.Proofs.Ytimlfgjljnkbcaa
