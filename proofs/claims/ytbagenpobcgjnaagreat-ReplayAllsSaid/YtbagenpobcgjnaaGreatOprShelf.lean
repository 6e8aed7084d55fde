/-
  Library functions over rows of api.Op (a row that has room, a row copied), at this program.
-/
import Derived.Shelf.SlicesE.Clone
import Derived.Shelf.Spec.SlicesGrow
import Derived.Ground.SlgnProg
import Derived.Ground.Names8Prog
import Derived.Test.YtbagenpobcgjnaaGreatProg
namespace Go.Proofs
open Go.Shelf
def Tryz.mkCloneQ_ren : Go.Shelf.Ren := ⟨fun | 41 => 30 | n => n, fun | 22 => 27 | 23 => 50 | 4 => 4 | n => n, fun | n => n⟩
theorem Tryz.mkCloneQ : Go.Proofs.SlLaysE0.n41 Tryz.prog Tryz.mkCloneQ_ren := {
  mixed := by kernel_rfl
  f41 := ⟨Tryz.f30.name, by decide, Tryz.func30.trans (congrArg some (by kernel_rfl))⟩
  t4 := Tryz.underlying4
  a4 := Tryz.isAgg4
  z4 := Tryz.sizeOf4
  v4 := Tryz.zeroValue4
  t22 := Tryz.underlying27
  a22 := Tryz.isAgg27
  z22 := Tryz.sizeOf27
  v22 := Tryz.zeroValue27 }
end Go.Proofs
