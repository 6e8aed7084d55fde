/-
  The laws on operations: lives, OpcodeBytes, OpcodeReads.
-/
import Derived.Test.YtlgdlkiekodocaaOpFill
import Derived.Test.YtlgdlkiekodocaaOpenOp
namespace Go.Proofs.Ytlgdlkiekodocaa
open Go.RowKit
set_option linter.unusedVariables false

theorem live_bytes : bytesR 5 0 0 ⟨#[]⟩ = (⟨#[5]⟩, 0) := by decide +kernel
theorem live_kind : rdKind 1 ⟨#[2, 0, 0, 0, 97, 98]⟩ = ⟨1, 2, 0, ⟨#[97, 98]⟩, 0⟩ := by
  have h1 : headN ⟨#[2, 0, 0, 0, 97, 98]⟩ = 2 := by decide +kernel
  have h2 : restN ⟨#[2, 0, 0, 0, 97, 98]⟩ = ⟨#[97, 98]⟩ := by decide +kernel
  have h3 : rightB 1 2 0 (⟨#[97, 98]⟩ : ByteArray).data.toList = true := by decide +kernel
  unfold rdKind
  rw [if_neg (by decide), if_pos (by decide), if_neg (by decide), h1, h2, rdEnd_yes h3]
theorem live_read : readR ⟨#[1, 2, 0, 0, 0, 97, 98]⟩ = ⟨1, 2, 0, ⟨#[97, 98]⟩, 0⟩ := by
  have h0 : 0 < (⟨#[1, 2, 0, 0, 0, 97, 98]⟩ : ByteArray).size := by decide
  have h1 : (⟨#[1, 2, 0, 0, 0, 97, 98]⟩ : ByteArray).extract 1 (⟨#[1, 2, 0, 0, 0, 97, 98]⟩ : ByteArray).size = ⟨#[2, 0, 0, 0, 97, 98]⟩ := by decide +kernel
  unfold readR
  rw [dif_pos h0, h1]
  exact live_kind

set_option maxRecDepth 100000 in
set_option maxHeartbeats 800000 in
theorem lives14_any (w : World) : Calls Try.prog 6 #[] w fun e w' => e = .returned (.bool true) ∧ Below w.heap.size w w' := by
  have c1 := op_bytes_any 5 0 0 ⟨#[]⟩ (by decide)
  rw [live_bytes] at c1
  have c2 := op_read_any ⟨#[1, 2, 0, 0, 0, 97, 98]⟩ (by decide)
  rw [live_read] at c2
  unfold rdV at c2
  have C1 := Lib.hid c1; have C2 := Lib.hid c2
  clear c1 c2
  go_enter Try.func6, Try.ntmps6
  go_wp2_with fail
  refine (C1.out _).mono ?_; rintro e w1 ⟨rfl, hb1⟩
  go_wp2_with fail
  refine (C2.out _).mono ?_; rintro e w2 ⟨rfl, hb2⟩
  have HW := Lib.hid (hb1.trans (hb2.mono hb1.size))
  clear hb1 hb2
  go_wp2
  go_ret
  exact ⟨rfl, HW.out.alloc HW.out.size _⟩

theorem box_on14 {w w1 : World} {o : Obj} (hb : Below (w.alloc o).heap.size (w.alloc o) w1) : Below w.heap.size w w1 := ((Below.refl _ _).alloc (Nat.le_refl _) _).trans (hb.mono (by simp))

set_option maxRecDepth 100000 in
set_option maxHeartbeats 800000 in
theorem opcodeBytes_walk (x : Opr) (w : World) (fx : x.fits) :
    Calls Try.prog 3 #[x.v] w fun e w' => e = .returned (.bool true) ∧ Below w.heap.size w w' := by
  obtain ⟨k, a, n, s⟩ := x
  obtain ⟨-, -, -, hs⟩ := fx
  have hs : s.size ≤ maxLen := hs
  show Calls Try.prog 3 #[.agg #[.int .i64 k, .int .i64 a, .int .i64 n, .string s]] w _
  unfold maxLen at hs
  by_cases h6 : 600 < s.size
  · have C1 := Lib.hid (lives14_any (w.alloc (.cells #[.int .i64 k, .int .i64 a, .int .i64 n, .string s] 23)))
    go_enter Try.func3, Try.ntmps3
    go_wp2_with fail
    refine C1.out.mono ?_; rintro e w1 ⟨rfl, hb1⟩
    go_wp2
    go_ret
    exact ⟨rfl, box_on14 hb1⟩
  have c1 := op_bytes_any k a n s (by omega)
  have c2 := rbytes_any k a n s (by omega)
  obtain ⟨⟨B, r⟩, hB⟩ : ∃ p, bytesR k a n s = p := ⟨_, rfl⟩
  rw [hB] at c1 c2
  have C1 := Lib.hid c1; have C2 := Lib.hid c2
  have HB := Lib.hid (Blk.new w #[.int .i64 k, .int .i64 a, .int .i64 n, .string s] 23)
  clear c1 c2 hB
  go_enter Try.func3, Try.ntmps3
  go_wp2_with fail
  refine (C1.out _).mono ?_; rintro e w1 ⟨rfl, hb1⟩
  obtain ⟨k0, k1, k2, k3, -, -, -, -⟩ := (HB.out.onto hb1).four
  have HW1 := Lib.hid (box_on14 hb1)
  clear hb1
  go_wp2_with fail
  refine (C2.out _).mono ?_; rintro e w2 ⟨rfl, hb2⟩
  have HW2 := Lib.hid (HW1.out.trans (hb2.mono HW1.out.size))
  have C3 := Lib.hid (lives14_any w2)
  clear hb2 k0 k1 k2 k3
  go_wp2_with fail
  refine C3.out.mono ?_; rintro e w3 ⟨rfl, hb3⟩
  go_wp2
  go_ret
  exact ⟨rfl, HW2.out.trans (hb3.mono HW2.out.size)⟩

set_option maxRecDepth 100000 in
set_option maxHeartbeats 800000 in
theorem opcodeReads_walk (s : ByteArray) (w : World) (hs : s.size ≤ maxLen) :
    Calls Try.prog 4 #[.string s] w fun e w' => e = .returned (.bool true) ∧ Below w.heap.size w w' := by
  unfold maxLen at hs
  by_cases h6 : 700 < s.size
  · have C1 := Lib.hid (lives14_any w)
    go_enter Try.func4, Try.ntmps4
    go_wp2_with fail
    refine C1.out.mono ?_; rintro e w1 ⟨rfl, hb1⟩
    go_wp2
    go_ret
    exact ⟨rfl, hb1⟩
  have c1 := op_read_any s (by omega)
  have c2 := rop_read_any s (by omega)
  obtain ⟨⟨k, a, n, t, r⟩, hB⟩ : ∃ p, readR s = p := ⟨_, rfl⟩
  rw [hB] at c1 c2
  unfold rdV at c1 c2
  have C1 := Lib.hid c1; have C2 := Lib.hid c2
  clear c1 c2 hB
  go_enter Try.func4, Try.ntmps4
  go_wp2_with fail
  refine (C1.out _).mono ?_; rintro e w1 ⟨rfl, hb1⟩
  have HW1 := Lib.hid hb1
  have HB := Lib.hid (Blk.new w1 #[.int .i64 k, .int .i64 a, .int .i64 n, .string t] 23)
  clear hb1
  go_wp2_with fail
  refine (C2.out _).mono ?_; rintro e w2 ⟨rfl, hb2⟩
  obtain ⟨k0, k1, k2, k3, -, -, -, -⟩ := (HB.out.onto hb2).four
  have hlt : w1.heap.size < w2.heap.size := (HB.out.onto hb2).lt
  have HW2 := Lib.hid (HW1.out.trans ((box_on14 hb2).mono HW1.out.size))
  have C3 := Lib.hid (lives14_any (w2.alloc (.cells #[.int .i64 k, .int .i64 a, .int .i64 n, .string t] 23)))
  clear hb2
  go_wp2_with fail
  refine C3.out.mono ?_; rintro e w3 ⟨rfl, hb3⟩
  go_wp2
  go_ret
  exact ⟨rfl, HW2.out.trans ((box_on14 hb3).mono HW2.out.size)⟩
end Go.Proofs.Ytlgdlkiekodocaa
