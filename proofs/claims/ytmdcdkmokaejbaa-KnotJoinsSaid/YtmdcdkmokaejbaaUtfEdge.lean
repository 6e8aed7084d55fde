/-
  Contracts of Edge, the program's and the document's: is a place an edge of a text?
-/
import Derived.Test.YtmdcdkmokaejbaaUtfPut
namespace Go.Proofs.Ytmdcdkmokaejbaa
open Go.RowKit

def edgeB (l : List UInt8) (p : Int) : Bool := decide (0 ≤ p ∧ edge l p.toNat)

end Go.Proofs.Ytmdcdkmokaejbaa
