/-
  The laws on operations: lives, OpcodeBytes, OpcodeReads.
-/
import Derived.Test.YtlgdlkiekodocaaDoorOpFill
import Derived.Test.YtlgdlkiekodocaaDoorOpenOp
namespace Go.Proofs.YtlgdlkiekodocaaDoor
open Go.RowKit
set_option linter.unusedVariables false

theorem live_bytes : bytesR 5 0 0 ⟨#[]⟩ = (⟨#[5]⟩, 0) := by decide +kernel
theorem live_kind : rdKind 1 ⟨#[2, 0, 0, 0, 97, 98]⟩ = ⟨1, 2, 0, ⟨#[97, 98]⟩, 0⟩ := by
  have h1 : headN ⟨#[2, 0, 0, 0, 97, 98]⟩ = 2 := by decide +kernel
  have h2 : restN ⟨#[2, 0, 0, 0, 97, 98]⟩ = ⟨#[97, 98]⟩ := by decide +kernel
  have h3 : rightB 1 2 0 (⟨#[97, 98]⟩ : ByteArray).data.toList = true := by decide +kernel
  unfold rdKind
  rw [if_neg (by decide), if_pos (by decide), if_neg (by decide), h1, h2, rdEnd_yes h3]
theorem live_read : readR ⟨#[1, 2, 0, 0, 0, 97, 98]⟩ = ⟨1, 2, 0, ⟨#[97, 98]⟩, 0⟩ := by
  have h0 : 0 < (⟨#[1, 2, 0, 0, 0, 97, 98]⟩ : ByteArray).size := by decide
  have h1 : (⟨#[1, 2, 0, 0, 0, 97, 98]⟩ : ByteArray).extract 1 (⟨#[1, 2, 0, 0, 0, 97, 98]⟩ : ByteArray).size = ⟨#[2, 0, 0, 0, 97, 98]⟩ := by decide +kernel
  unfold readR
  rw [dif_pos h0, h1]
  exact live_kind

set_option maxRecDepth 100000 in
set_option maxHeartbeats 800000 in
theorem lives14_any (w : World) : Calls Tryd.prog 4 #[] w fun e w' => e = .returned (.bool true) ∧ Below w.heap.size w w' := by
  have c1 := op_bytes_any 5 0 0 ⟨#[]⟩ (by decide)
  rw [live_bytes] at c1
  have c2 := op_read_any ⟨#[1, 2, 0, 0, 0, 97, 98]⟩ (by decide)
  rw [live_read] at c2
  unfold rdV at c2
  have C1 := Lib.hid c1; have C2 := Lib.hid c2
  clear c1 c2
  go_enter Tryd.func4, Tryd.ntmps4
  go_wp2_with fail
  refine (C1.out _).mono ?_; rintro e w1 ⟨rfl, hb1⟩
  go_wp2_with fail
  refine (C2.out _).mono ?_; rintro e w2 ⟨rfl, hb2⟩
  have HW := Lib.hid (hb1.trans (hb2.mono hb1.size))
  clear hb1 hb2
  go_wp2
  go_ret
  exact ⟨rfl, HW.out.alloc HW.out.size _⟩

theorem box_on14 {w w1 : World} {o : Obj} (hb : Below (w.alloc o).heap.size (w.alloc o) w1) : Below w.heap.size w w1 := ((Below.refl _ _).alloc (Nat.le_refl _) _).trans (hb.mono (by simp))

end Go.Proofs.YtlgdlkiekodocaaDoor
