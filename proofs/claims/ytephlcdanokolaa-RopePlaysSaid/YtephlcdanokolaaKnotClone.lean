/-
  The library's contract of slices.Clone (rows of knots), at this program.
-/
import Derived.Shelf.SlicesE.Clone
import Derived.Ground.SlgnProg
import Derived.Test.YtephlcdanokolaaProg
namespace Go.Proofs
open Go.Shelf
def Try.knClone_ren : Go.Shelf.Ren := ⟨fun | 41 => 71 | n => n, fun | 22 => 75 | 23 => 44 | 4 => 4 | n => n, fun | n => n⟩
theorem Try.knClone : Go.Proofs.SlLaysE0.n41 Try.prog Try.knClone_ren := {
  mixed := by kernel_rfl
  f41 := ⟨Try.f71.name, by decide, Try.func71.trans (congrArg some (by kernel_rfl))⟩
  t4 := Try.underlying4
  a4 := Try.isAgg4
  z4 := Try.sizeOf4
  v4 := Try.zeroValue4
  t22 := Try.underlying75
  a22 := Try.isAgg75
  z22 := Try.sizeOf75
  v22 := Try.zeroValue75 }
end Go.Proofs
