/-
  The document's side of layer 16: groups, heights, bits, texts.
-/
import Derived.Test.YtlmihooahmgmjaaJKnotMath
import Derived.Test.YtlmihooahmgmjaaStrs
import Derived.Test.YtlmihooahmgmjaaJChunkRef
import Derived.Laws.MakeOwn
import Derived.Lib.MinMax
namespace Go.Proofs.Ytlmihooahmgmjaa
open Go.RowKit
set_option linter.unusedVariables false

theorem one_cell (v : Value) (h : v.oneCell' = true) : ∀ u ∈ [v], u.oneCell' = true := by intro u hu; simp at hu; subst hu; exact h
theorem int_info16 : (Try.prog.info? 3).map (fun i => (i.zero, i.size, i.bytes)) = some (some (.int .i64 0), 1, 8) := by kernel_rfl
/-- Groups under way: so many are told, for so many knots that are left. -/
structure GrI (n : Nat) (w : World) (m j : Nat) (v : Value) (wr : World) : Prop where
  own : ∃ xs, wr.ownsRow w.heap.size 3 1 v j xs
  bel : Below w.heap.size w wr
  sum : j + gcount m = gcount n
  le : m ≤ n
theorem GrI.step {n m j : Nat} {w wr w' : World} {v v' : Value} (h : GrI n w m j v wr) (hm : 0 < m) (ho : ∃ xs, w'.ownsRow w.heap.size 3 1 v' (j + 1) xs) (hb : Below w.heap.size w w') : GrI n w (m - gsz m) (j + 1) v' w' :=
  ⟨ho, hb, by have := h.sum; rw [gcount_pos hm] at this; omega, by have := h.le; omega⟩
def RetLen (w : World) (n : Nat) (e : Ending) (w' : World) : Prop := ∃ a c, e = .returned (.slice a n c) ∧ Below w.heap.size w w'
theorem gcount_le (n : Nat) : gcount n ≤ n := by
  rcases Nat.lt_or_ge 1 n with h | h
  · have := gcount_half n (by omega); omega
  · rcases Nat.lt_or_ge 0 n with g | g
    · obtain rfl : n = 1 := by omega
      rw [gcount_pos (by decide), show (1 : Nat) - gsz 1 = 0 from rfl, gcount_zero]
      exact Nat.le_refl _
    · obtain rfl : n = 0 := by omega
      rw [gcount_zero]; exact Nat.le_refl _

end Go.Proofs.Ytlmihooahmgmjaa
