/-
  What the listed variable gives: the first bytes of a frame.
-/
import Derived.Test.YtibbglmhcjnedaaDoorFrameDev2
import Derived.Lib.LaidTab
namespace Go.Proofs.YtibbglmhcjnedaaDoor
open Go.RowKit

theorem gFirst : Tryd.prog.globalNamed "stylus/frame.first" = some 0 := by kernel_rfl
theorem gFirstType : (Tryd.prog.globals[0]?).map (·.type) = some 97 := by kernel_rfl
theorem cellsFirst : Tryd.prog.cellsOf 97 = 2 := by kernel_rfl
theorem cellsByte : Tryd.prog.cellsOf 5 = 1 := by kernel_rfl
theorem first_of_laid {W : World} (h : laidMetH Tryd.prog [("stylus/frame.first", Rows.laid_stylus_frame_first)] W) : First W := by
  have t := Lib.tabIs_of_head (rest := []) (k := .u8) (zs := [83, 74]) gFirst gFirstType Tryd.underlying97 Tryd.underlying5 cellsByte cellsFirst h
  have c0 : W.cell? ⟨0, 0, none⟩ = some (.int .u8 83) := t.cell gFirst 0 (by decide)
  refine ⟨c0, t.cell gFirst 1 (by decide), ?_⟩
  refine Decidable.byContradiction fun hn => ?_
  have : W.heap[0]? = none := Array.getElem?_eq_none (by omega)
  simp [World.cell?, this] at c0
end Go.Proofs.YtibbglmhcjnedaaDoor
