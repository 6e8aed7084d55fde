/-
  The library's contract of slices.Clone (rows of knots), at this program.
-/
import Derived.Shelf.SlicesE.Clone
import Derived.Ground.SlgnProg
import Derived.Test.YtbagenpobcgjnaaGreatProg
namespace Go.Proofs
open Go.Shelf
def Tryz.knClone_ren : Go.Shelf.Ren := ⟨fun | 41 => 212 | n => n, fun | 22 => 206 | 23 => 128 | 4 => 4 | n => n, fun | n => n⟩
theorem Tryz.knClone : Go.Proofs.SlLaysE0.n41 Tryz.prog Tryz.knClone_ren := {
  mixed := by kernel_rfl
  f41 := ⟨Tryz.f212.name, by decide, Tryz.func212.trans (congrArg some (by kernel_rfl))⟩
  t4 := Tryz.underlying4
  a4 := Tryz.isAgg4
  z4 := Tryz.sizeOf4
  v4 := Tryz.zeroValue4
  t22 := Tryz.underlying206
  a22 := Tryz.isAgg206
  z22 := Tryz.sizeOf206
  v22 := Tryz.zeroValue206 }
end Go.Proofs
