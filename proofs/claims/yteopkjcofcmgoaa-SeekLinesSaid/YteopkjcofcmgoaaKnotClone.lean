/-
  The library's contract of slices.Clone (rows of knots), at this program.
-/
import Derived.Shelf.SlicesE.Clone
import Derived.Ground.SlgnProg
import Derived.Test.YteopkjcofcmgoaaProg
namespace Go.Proofs
open Go.Shelf
def Try.knClone_ren : Go.Shelf.Ren := ⟨fun | 41 => 58 | n => n, fun | 22 => 66 | 23 => 43 | 4 => 4 | n => n, fun | n => n⟩
theorem Try.knClone : Go.Proofs.SlLaysE0.n41 Try.prog Try.knClone_ren := {
  mixed := by kernel_rfl
  f41 := ⟨Try.f58.name, by decide, Try.func58.trans (congrArg some (by kernel_rfl))⟩
  t4 := Try.underlying4
  a4 := Try.isAgg4
  z4 := Try.sizeOf4
  v4 := Try.zeroValue4
  t22 := Try.underlying66
  a22 := Try.isAgg66
  z22 := Try.sizeOf66
  v22 := Try.zeroValue66 }
end Go.Proofs
