/-
  The library's contract of slices.Clone (rows of knots), at this program.
-/
import Derived.Shelf.SlicesE.Clone
import Derived.Ground.SlgnProg
import Derived.Test.YtfiobemeogaaiaaGreatProg
namespace Go.Proofs
open Go.Shelf
def Tryz.knClone_ren : Go.Shelf.Ren := ⟨fun | 41 => 117 | n => n, fun | 22 => 110 | 23 => 71 | 4 => 4 | n => n, fun | n => n⟩
theorem Tryz.knClone : Go.Proofs.SlLaysE0.n41 Tryz.prog Tryz.knClone_ren := {
  mixed := by kernel_rfl
  f41 := ⟨Tryz.f117.name, by decide, Tryz.func117.trans (congrArg some (by kernel_rfl))⟩
  t4 := Tryz.underlying4
  a4 := Tryz.isAgg4
  z4 := Tryz.sizeOf4
  v4 := Tryz.zeroValue4
  t22 := Tryz.underlying110
  a22 := Tryz.isAgg110
  z22 := Tryz.sizeOf110
  v22 := Tryz.zeroValue110 }
end Go.Proofs
