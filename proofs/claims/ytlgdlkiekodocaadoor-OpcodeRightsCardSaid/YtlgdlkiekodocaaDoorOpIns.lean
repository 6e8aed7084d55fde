/-
  The library's contract of slices.Insert (rows of texts), at this program.
-/
import Derived.Shelf.Spec.SlicesInsert
import Derived.Shelf.Spec.SlicesInsertGrow
import Derived.Ground.Names2Prog
import Derived.Test.YtlgdlkiekodocaaDoorProg
namespace Go.Proofs
open Go.Shelf
def Tryd.opIns_ren : Go.Shelf.Ren := ⟨fun | 22 => 24 | 29 => 33 | 30 => 34 | 36 => 43 | 17 => 52 | n => n, fun | 24 => 41 | 9 => 9 | 3 => 3 | 4 => 4 | 0 => 0 | n => n, fun | n => n⟩
theorem Tryd.opIns : Go.Proofs.Lays2.n22 Tryd.prog Tryd.opIns_ren := {
  mixed := by kernel_rfl
  f17 := Tryd.func52.trans (congrArg some (by kernel_rfl))
  f22 := Tryd.func24.trans (congrArg some (by kernel_rfl))
  f29 := Tryd.func33.trans (congrArg some (by kernel_rfl))
  f30 := Tryd.func34.trans (congrArg some (by kernel_rfl))
  f36 := Tryd.func43.trans (congrArg some (by kernel_rfl))
  t0 := Tryd.underlying0
  a0 := Tryd.isAgg0
  z0 := Tryd.sizeOf0
  v0 := Tryd.zeroValue0
  t3 := Tryd.underlying3
  a3 := Tryd.isAgg3
  z3 := Tryd.sizeOf3
  v3 := Tryd.zeroValue3
  t4 := Tryd.underlying4
  a4 := Tryd.isAgg4
  z4 := Tryd.sizeOf4
  v4 := Tryd.zeroValue4
  t9 := Tryd.underlying9
  a9 := Tryd.isAgg9
  z9 := Tryd.sizeOf9
  v9 := Tryd.zeroValue9
  t24 := Tryd.underlying41
  a24 := Tryd.isAgg41
  z24 := Tryd.sizeOf41
  v24 := Tryd.zeroValue41
  i9 := by kernel_rfl }
end Go.Proofs
