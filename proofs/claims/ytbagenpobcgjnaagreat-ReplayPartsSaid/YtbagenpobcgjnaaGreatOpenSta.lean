/-
  OpenSta
-/
import Derived.Test.YtbagenpobcgjnaaGreatJMarkCat
import Derived.Test.YtbagenpobcgjnaaGreatJKnotDev3
import Derived.Test.YtbagenpobcgjnaaGreatJStaRight
namespace Go.Proofs.YtbagenpobcgjnaaGreat
open Go.RowKit Go.ChangeShapes Go.WideShapes Go.Deep
set_option linter.unusedVariables false
section
variable {H : Type} {enc : TypeId × Value → H} {P : Program} {w : World} {base : Nat} {spare : Nat → Bool} {held : Bool} {Q : TypeId → DataW H → Prop}
end
abbrev litS {H:Type} (s:ByteArray):DataW H:=.lit (.string s.data.toList)
section
variable {H : Type} {enc : TypeId × Value → H} {w : World} {base : Nat} {spare : Nat → Bool} {held : Bool} {Q : TypeId → DataW H → Prop}
end
end Go.Proofs.YtbagenpobcgjnaaGreat
