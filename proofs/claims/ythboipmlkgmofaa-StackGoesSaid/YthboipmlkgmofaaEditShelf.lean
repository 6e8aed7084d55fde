/-
  Library functions over rows of api.Edit (a row that has room, a row copied), at this program.
-/
import Derived.Shelf.SlicesE.Clone
import Derived.Shelf.Spec.SlicesGrow
import Derived.Ground.SlgnProg
import Derived.Ground.Names8Prog
import Derived.Test.YthboipmlkgmofaaProg
namespace Go.Proofs
open Go.Shelf
def Try.mkCloneE_ren : Go.Shelf.Ren := ⟨fun | 41 => 29 | n => n, fun | 22 => 23 | 23 => 38 | 4 => 4 | n => n, fun | n => n⟩
theorem Try.mkCloneE : Go.Proofs.SlLaysE0.n41 Try.prog Try.mkCloneE_ren := {
  mixed := by kernel_rfl
  f41 := ⟨Try.f29.name, by decide, Try.func29.trans (congrArg some (by kernel_rfl))⟩
  t4 := Try.underlying4
  a4 := Try.isAgg4
  z4 := Try.sizeOf4
  v4 := Try.zeroValue4
  t22 := Try.underlying23
  a22 := Try.isAgg23
  z22 := Try.sizeOf23
  v22 := Try.zeroValue23 }
end Go.Proofs
