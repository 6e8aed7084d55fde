/-
  The program's edits: Right, Shift.
-/
import Derived.Test.YtbghfifcbpcmbaaEditDev
namespace Go.Proofs.Ytbghfifcbpcmbaa
open Go.RowKit
set_option linter.unusedVariables false
set_option linter.unusedSimpArgs false

set_option maxRecDepth 100000 in
set_option maxHeartbeats 800000 in
theorem shift_any (p a : Int) (o n : ByteArray) (ho : o.size ≤ 4294967296) (hn : n.size ≤ 4294967296) (hp : -2305843009213693952 ≤ p ∧ p ≤ 2305843009213693952) (ha : -2305843009213693952 ≤ a ∧ a ≤ 2305843009213693952) (w : World) :
    Calls Try.prog 22 #[edV p o n, .int .i64 a] w fun e w' => e = .returned (.int .i64 (shiftI p o.size n.size a)) ∧ Below w.heap.size w w' := by
  have HE := Lib.hid (Ed.new w p o n)
  obtain ⟨p0, p1⟩ := hp
  obtain ⟨a0, a1⟩ := ha
  by_cases h1 : a ≤ p
  · rw [show shiftI p o.size n.size a = a by unfold shiftI; rw [if_pos h1]]
    go_enter Try.func22, Try.ntmps22
    go_wp2
    go_ret
    exact ⟨rfl, HE.out.1⟩
  by_cases h2 : p + o.size ≤ a
  · rw [show shiftI p o.size n.size a = a - o.size + n.size by unfold shiftI; rw [if_neg h1, if_pos h2]]
    have h3 : p ≤ 9223372036854775807 - (o.size : Int) := by omega
    have h4 : a - (o.size : Int) ≤ 9223372036854775807 - (n.size : Int) := by omega
    go_enter Try.func22, Try.ntmps22
    go_wp2
    go_ret
    exact ⟨rfl, HE.out.1⟩
  · rw [show shiftI p o.size n.size a = p by unfold shiftI; rw [if_neg h1, if_neg h2]]
    have h3 : p ≤ 9223372036854775807 - (o.size : Int) := by omega
    go_enter Try.func22, Try.ntmps22
    go_wp2
    go_ret
    exact ⟨rfl, HE.out.1⟩
end Go.Proofs.Ytbghfifcbpcmbaa
