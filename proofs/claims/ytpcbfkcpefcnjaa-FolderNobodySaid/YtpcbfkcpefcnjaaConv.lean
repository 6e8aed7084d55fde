/-
  A new row of bytes turned into a text.
-/
import Derived.Test.YtpcbfkcpefcnjaaRows
import Derived.Test.YtpcbfkcpefcnjaaCommon
namespace Go.Proofs.Ytpcbfkcpefcnjaa
open Go.RowKit

/-- Its block is one of the call's own. -/
theorem own_block {w : World} {base e size n : Nat} {v : Value} {xs : List Value} (h : w.ownsRow base e size v n xs) : ∀ k, v.ownBlock = some k → base ≤ k := by
  intro k hk
  rcases h.2 with ⟨rfl, _⟩ | ⟨g, cap, cur, rfl, hb, _⟩
  · simp [Value.ownBlock] at hk
  · simp [Value.ownBlock] at hk; omega
end Go.Proofs.Ytpcbfkcpefcnjaa
