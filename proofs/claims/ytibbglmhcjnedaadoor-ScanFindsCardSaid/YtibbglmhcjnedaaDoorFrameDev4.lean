/-
  Contracts of the program's frames: Lay.
-/
import Derived.Test.YtibbglmhcjnedaaDoorFrameDev3
namespace Go.Proofs.YtibbglmhcjnedaaDoor
open Go.RowKit
set_option linter.unusedVariables false

theorem two_string (g : Nat) (W : World) (h0 : W.cell? ⟨g, 0, none⟩ = some (.int .u8 83)) (h1 : W.cell? ⟨g, 1, none⟩ = some (.int .u8 74)) :
    (convert 46 9 (.slice (some ⟨g, 0, none⟩) 2 2)).run Tryd.prog W = .ok (.string ⟨#[83, 74]⟩) W := by
  refine run_convert_bytes_back W 46 9 5 ⟨g, 0, none⟩ 2 [83, 74] Tryd.underlying46 Tryd.underlying5 Tryd.underlying9 fun j hj => ?_
  have hplain : (⟨g, 0, none⟩ : Addr).add j = ⟨g, 0 + j, none⟩ := by unfold Addr.add; split <;> simp_all
  rw [hplain, Nat.zero_add]
  rcases (show j = 0 ∨ j = 1 by simp at hj; omega) with rfl | rfl
  · exact h0
  · exact h1
/-- What Lay keeps while its last region runs. -/
def Ly (w0 : World) (b g : Nat) (d : ByteArray) (w' : World) : Prop :=
  Below w0.heap.size w0 w' ∧ w'.cell? ⟨b, 2, none⟩ = some (.string d) ∧ w'.cell? ⟨g, 0, none⟩ = some (.int .u8 83) ∧ w'.cell? ⟨g, 1, none⟩ = some (.int .u8 74) ∧ b < w'.heap.size ∧ g < w'.heap.size
theorem ly_call {w0 w' w1 : World} {b g : Nat} {d : ByteArray} (h : Ly w0 b g d w') (hb : Below w'.heap.size w' w1) : Ly w0 b g d w1 := by
  obtain ⟨h0, h1, h2, h3, h4, h5⟩ := h
  exact ⟨h0.trans (hb.mono h0.size), (hb.cell (p := ⟨b, 2, none⟩) h4).trans h1, (hb.cell (p := ⟨g, 0, none⟩) h5).trans h2, (hb.cell (p := ⟨g, 1, none⟩) h5).trans h3, Nat.lt_of_lt_of_le h4 hb.size, Nat.lt_of_lt_of_le h5 hb.size⟩
theorem ly_drew {w0 w' : World} {b g : Nat} {d : ByteArray} (h : Ly w0 b g d w') : Ly w0 b g d w'.drew := ⟨h.1.drew, h.2⟩

theorem blk_new2 (w : World) (o : Obj) (cs : Array Value) (T : TypeId) : Blk ((w.alloc o).alloc (.cells cs T)) (w.heap.size + 1) cs T := by simpa using Blk.new (w.alloc o) cs T
theorem below_two {w w1 w2 : World} {o p : Obj} (h : Below w.heap.size w w1) (hb : Below ((w1.alloc o).alloc p).heap.size ((w1.alloc o).alloc p) w2) : Below w.heap.size w w2 :=
  ((h.alloc h.size o).alloc (by have := h.size; simp; omega) p).trans (hb.mono (by have := h.size; simp; omega))
theorem below_one {w w1 w2 : World} {o : Obj} (h : Below w.heap.size w w1) (hb : Below (w1.alloc o).heap.size (w1.alloc o) w2) : Below w.heap.size w w2 :=
  (h.alloc h.size o).trans (hb.mono (by have := h.size; simp; omega))
theorem ly_new {w0 w2 : World} {b : Nat} {d : ByteArray} {T U : TypeId} {x y : Value} (h : Below w0.heap.size w0 w2) (hb : Blk w2 b #[x, y, .string d] T) :
    Ly w0 b w2.heap.size d (w2.alloc (.cells #[.int .u8 83, .int .u8 74] U)) := by
  have n := Blk.new w2 #[.int .u8 83, .int .u8 74] U
  have hb' := hb.alloc (.cells #[.int .u8 83, .int .u8 74] U)
  exact ⟨h.alloc h.size _, hb'.cell 2 _ rfl, n.cell 0 _ rfl, n.cell 1 _ rfl, hb'.lt, n.lt⟩

end Go.Proofs.YtibbglmhcjnedaaDoor
