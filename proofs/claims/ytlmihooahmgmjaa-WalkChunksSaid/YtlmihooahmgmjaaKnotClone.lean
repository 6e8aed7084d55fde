/-
  The library's contract of slices.Clone (rows of knots), at this program.
-/
import Derived.Shelf.SlicesE.Clone
import Derived.Ground.SlgnProg
import Derived.Test.YtlmihooahmgmjaaProg
namespace Go.Proofs
open Go.Shelf
def Try.knClone_ren : Go.Shelf.Ren := ⟨fun | 41 => 84 | n => n, fun | 22 => 74 | 23 => 42 | 4 => 4 | n => n, fun | n => n⟩
theorem Try.knClone : Go.Proofs.SlLaysE0.n41 Try.prog Try.knClone_ren := {
  mixed := by kernel_rfl
  f41 := ⟨Try.f84.name, by decide, Try.func84.trans (congrArg some (by kernel_rfl))⟩
  t4 := Try.underlying4
  a4 := Try.isAgg4
  z4 := Try.sizeOf4
  v4 := Try.zeroValue4
  t22 := Try.underlying74
  a22 := Try.isAgg74
  z22 := Try.sizeOf74
  v22 := Try.zeroValue74 }
end Go.Proofs
