/-
  Contract of 'lives', which each law of layer 1 asks besides: it is true.
-/
import Derived.Test.YthboipmlkgmofaaUtfEdge
namespace Go.Proofs.Ythboipmlkgmofaa
open Go.RowKit

theorem euro : putS 8364 = ⟨#[226, 130, 172]⟩ := by decide +kernel
theorem euro_take : takeI (⟨#[226, 130, 172]⟩ : ByteArray).data.toList 0 = (8364, 3) := by decide +kernel
theorem euro_edge : ¬ edge (⟨#[226, 130, 172]⟩ : ByteArray).data.toList 1 := by decide +kernel

end Go.Proofs.Ythboipmlkgmofaa
