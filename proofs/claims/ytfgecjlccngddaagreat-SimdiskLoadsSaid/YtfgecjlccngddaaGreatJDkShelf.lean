/-
  Joined: DkShelf.
-/
import Derived.Shelf.SlMaps.DeleteFunc
import Derived.Shelf.SlicesG.SearchI
import Derived.Ground.SlmdProg
import Derived.Ground.SlgnProg
import Derived.Test.YtfgecjlccngddaaGreatProg
namespace Go.Proofs
set_option linter.unusedSimpArgs false
set_option linter.unusedVariables false
open Go.Shelf
def Tryz.dkDel_ren : Go.Shelf.Ren := ⟨fun | 5 => 104 | n => n, fun | 23 => 63 | 26 => 3 | 24 => 79 | 27 => 145 | 0 => 0 | 4 => 4 | n => n, fun | n => n⟩
theorem Tryz.dkDel : Go.Proofs.SlLaysDf.n5 Tryz.prog Tryz.dkDel_ren := {
  mixed := by kernel_rfl
  f5 := ⟨Tryz.f104.name, by decide, Tryz.func104.trans (congrArg some (by kernel_rfl))⟩
  t0 := Tryz.underlying0
  a0 := Tryz.isAgg0
  z0 := Tryz.sizeOf0
  v0 := Tryz.zeroValue0
  t4 := Tryz.underlying4
  a4 := Tryz.isAgg4
  z4 := Tryz.sizeOf4
  v4 := Tryz.zeroValue4
  t23 := Tryz.underlying63
  a23 := Tryz.isAgg63
  z23 := Tryz.sizeOf63
  v23 := Tryz.zeroValue63
  a24 := Tryz.isAgg79
  z24 := Tryz.sizeOf79
  a26 := Tryz.isAgg3
  z26 := Tryz.sizeOf3
  t27 := Tryz.underlying145
  a27 := Tryz.isAgg145
  z27 := Tryz.sizeOf145
  v27 := Tryz.zeroValue145 }
def Tryz.dkSea_ren : Go.Shelf.Ren := ⟨fun | 49 => 106 | 59 => 147 | 60 => 148 | 68 => 173 | n => n, fun | 22 => 86 | 23 => 3 | 3 => 3 | 4 => 4 | 51 => 180 | 0 => 0 | n => n, fun | n => n⟩
theorem Tryz.dkSea : Go.Proofs.SlLaysN.n49 Tryz.prog Tryz.dkSea_ren := {
  mixed := by kernel_rfl
  f49 := ⟨Tryz.f106.name, by decide, Tryz.func106.trans (congrArg some (by kernel_rfl))⟩
  f59 := ⟨Tryz.f147.name, by decide, Tryz.func147.trans (congrArg some (by kernel_rfl))⟩
  f60 := ⟨Tryz.f148.name, by decide, Tryz.func148.trans (congrArg some (by kernel_rfl))⟩
  f68 := ⟨Tryz.f173.name, by decide, Tryz.func173.trans (congrArg some (by kernel_rfl))⟩
  t0 := Tryz.underlying0
  a0 := Tryz.isAgg0
  z0 := Tryz.sizeOf0
  v0 := Tryz.zeroValue0
  t3 := Tryz.underlying3
  a3 := Tryz.isAgg3
  z3 := Tryz.sizeOf3
  v3 := Tryz.zeroValue3
  t4 := Tryz.underlying4
  a4 := Tryz.isAgg4
  z4 := Tryz.sizeOf4
  v4 := Tryz.zeroValue4
  t22 := Tryz.underlying86
  a22 := Tryz.isAgg86
  z22 := Tryz.sizeOf86
  v22 := Tryz.zeroValue86
  t23 := Tryz.underlying3
  a23 := Tryz.isAgg3
  z23 := Tryz.sizeOf3
  v23 := Tryz.zeroValue3
  t51 := Tryz.underlying180
  a51 := Tryz.isAgg180
  z51 := Tryz.sizeOf180
  v51 := Tryz.zeroValue180 }
end Go.Proofs
