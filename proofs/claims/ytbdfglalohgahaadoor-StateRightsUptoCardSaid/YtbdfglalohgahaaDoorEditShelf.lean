/-
  Library functions over rows of api.Edit (a row that has room, a row copied), at this program.
-/
import Derived.Shelf.SlicesE.Clone
import Derived.Shelf.Spec.SlicesGrow
import Derived.Ground.SlgnProg
import Derived.Ground.Names8Prog
import Derived.Test.YtbdfglalohgahaaDoorProg
namespace Go.Proofs
open Go.Shelf
def Tryd.mkCloneE_ren : Go.Shelf.Ren := ⟨fun | 41 => 51 | n => n, fun | 22 => 24 | 23 => 36 | 4 => 4 | n => n, fun | n => n⟩
theorem Tryd.mkCloneE : Go.Proofs.SlLaysE0.n41 Tryd.prog Tryd.mkCloneE_ren := {
  mixed := by kernel_rfl
  f41 := ⟨Tryd.f51.name, by decide, Tryd.func51.trans (congrArg some (by kernel_rfl))⟩
  t4 := Tryd.underlying4
  a4 := Tryd.isAgg4
  z4 := Tryd.sizeOf4
  v4 := Tryd.zeroValue4
  t22 := Tryd.underlying24
  a22 := Tryd.isAgg24
  z22 := Tryd.sizeOf24
  v22 := Tryd.zeroValue24 }
end Go.Proofs
