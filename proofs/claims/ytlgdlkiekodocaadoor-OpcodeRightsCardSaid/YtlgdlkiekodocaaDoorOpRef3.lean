/-
  The document's reading of an operation.
-/
import Derived.Test.YtlgdlkiekodocaaDoorOpRef2
namespace Go.Proofs.YtlgdlkiekodocaaDoor
open Go.RowKit

/-- What Read answers, as a value. -/
def rdV (r : OpRd) : Value := .tuple #[.agg #[.int .i64 r.k, .int .i64 r.a, .int .i64 r.n, .string r.s], .int .i64 r.e]
theorem getI_short (s : ByteArray) (h : s.size < 4) : getI s.data.toList 0 4 = (0, false) := by
  unfold getI; rw [if_pos (by rw [list_size]; omega)]
theorem getI_long (s : ByteArray) (h : 4 ≤ s.size) : getI s.data.toList 0 4 = (leN s.data.toList 0 4, true) := by
  unfold getI; rw [if_neg (by rw [list_size]; omega)]; rfl
theorem rdEnd_yes {k a n : Int} {s : ByteArray} (h : rightB k a n s.data.toList = true) : rdEnd k a n s = ⟨k, a, n, s, 0⟩ := by unfold rdEnd; rw [if_pos h]
theorem rdEnd_no {k a n : Int} {s : ByteArray} (h : rightB k a n s.data.toList = false) : rdEnd k a n s = OpRd.none 5 := by unfold rdEnd; rw [if_neg (by rw [h]; decide)]

/-- Two blocks that a call made, known whole in what came behind. -/
theorem two_blks {w w1 : World} {cs ds : Array Value} {T : TypeId} (hb : Below ((w.alloc (.cells cs T)).alloc (.cells ds T)).heap.size ((w.alloc (.cells cs T)).alloc (.cells ds T)) w1) :
    Blk w1 w.heap.size cs T ∧ Blk w1 (w.heap.size + 1) ds T ∧ Below w.heap.size w w1 ∧ w.heap.size + 2 ≤ w1.heap.size := by
  have e : (w.alloc (.cells cs T)).heap.size = w.heap.size + 1 := by simp
  refine ⟨((Blk.new w cs T).alloc _).onto hb, ?_, ?_, ?_⟩
  · have := (Blk.new (w.alloc (.cells cs T)) ds T).onto hb
    rwa [e] at this
  · exact (((Below.refl _ _).alloc (Nat.le_refl _) _).alloc (by simp) _).trans (hb.mono (by simp; omega))
  · have := hb.size; simp at this; omega
theorem sets4_below {B b : Nat} {w W : World} (h : Below B w W) (hb : B ≤ b) (u0 u1 u2 u3 : Value) :
    Below B w ((((W.setCell ⟨b, 0, none⟩ u0).setCell ⟨b, 1, none⟩ u1).setCell ⟨b, 2, none⟩ u2).setCell ⟨b, 3, none⟩ u3) :=
  (((h.setCell hb _).setCell hb _).setCell hb _).setCell hb _

end Go.Proofs.YtlgdlkiekodocaaDoor
