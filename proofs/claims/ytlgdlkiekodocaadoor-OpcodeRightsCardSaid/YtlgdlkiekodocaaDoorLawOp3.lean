/-
  The law OpcodeRights.
-/
import Derived.Test.YtlgdlkiekodocaaDoorLawOp
import Derived.Test.YtlgdlkiekodocaaDoorOpWords
namespace Go.Proofs.YtlgdlkiekodocaaDoor
open Go.RowKit
set_option linter.unusedVariables false

/-- The operation's cells while the law's test runs. -/
def Bx4 (w : World) (k a n : Int) (s : ByteArray) (w' : World) : Prop :=
  Below w.heap.size w w' ∧ w.heap.size + 1 ≤ w'.heap.size ∧ w'.cell? ⟨w.heap.size, 0, none⟩ = some (.int .i64 k) ∧ w'.cell? ⟨w.heap.size, 1, none⟩ = some (.int .i64 a) ∧ w'.cell? ⟨w.heap.size, 2, none⟩ = some (.int .i64 n) ∧ w'.cell? ⟨w.heap.size, 3, none⟩ = some (.string s)
theorem bx4_new (w : World) (k a n : Int) (s : ByteArray) : Bx4 w k a n s (w.alloc (.cells #[.int .i64 k, .int .i64 a, .int .i64 n, .string s] 23)) := by
  have hB := Blk.new w #[.int .i64 k, .int .i64 a, .int .i64 n, .string s] 23
  exact ⟨(Below.refl _ _).alloc (Nat.le_refl _) _, hB.lt, hB.cell 0 _ rfl, hB.cell 1 _ rfl, hB.cell 2 _ rfl, hB.cell 3 _ rfl⟩
theorem bx4_drew {w w' : World} {k a n : Int} {s : ByteArray} (h : Bx4 w k a n s w') : Bx4 w k a n s w'.drew := ⟨h.1.drew, h.2⟩
theorem bx4_call {w w' w1 : World} {k a n : Int} {s : ByteArray} (h : Bx4 w k a n s w') (hb : Below w'.heap.size w' w1) : Bx4 w k a n s w1 :=
  ⟨h.1.trans (hb.mono h.1.size), Nat.le_trans h.2.1 hb.size, (hb.cell (p := ⟨_, _, _⟩) h.2.1).trans h.2.2.1, (hb.cell (p := ⟨_, _, _⟩) h.2.1).trans h.2.2.2.1, (hb.cell (p := ⟨_, _, _⟩) h.2.1).trans h.2.2.2.2.1, (hb.cell (p := ⟨_, _, _⟩) h.2.1).trans h.2.2.2.2.2⟩
theorem pow_at {B : Nat} {w w' : World} (h : Pow B w) (hb : Below B w w') : Pow w'.heap.size w' := Lib.tabBelow_of_tabIs (h.on hb).here

set_option maxRecDepth 100000 in
set_option maxHeartbeats 1600000 in
theorem opcodeRights_walk (x : Opr) (name : ByteArray) (w : World) (fx : x.fits) (hn : name.size ≤ maxLen) (ht : Lib.TabIs Tryd.prog w "internal/strconv.uint64pow10" .u64 Lib.pow10Tab) :
    Calls Tryd.prog 3 #[x.v, .string name] w fun e w' => e = .returned (.bool true) ∧ Below w.heap.size w w' := by
  obtain ⟨k, a, n, s⟩ := x
  obtain ⟨-, ⟨a0, a1⟩, ⟨n0, n1⟩, hs⟩ := fx
  have hs : s.size ≤ maxLen := hs
  have a0 : -9223372036854775808 ≤ a := a0
  have a1 : a ≤ 9223372036854775807 := a1
  have n0 : -9223372036854775808 ≤ n := n0
  have n1 : n ≤ 9223372036854775807 := n1
  show Calls Tryd.prog 3 #[.agg #[.int .i64 k, .int .i64 a, .int .i64 n, .string s], .string name] w _
  have hnl := omay_any name hn
  have HP := Lib.hid (show Pow w.heap.size w from Lib.tabBelow_of_tabIs ht)
  unfold maxLen at hs hn
  by_cases h6 : 600 < s.size
  · have C1 := Lib.hid (lives14_any (w.alloc (.cells #[.int .i64 k, .int .i64 a, .int .i64 n, .string s] 23)))
    clear a0 a1 n0 n1 ht hnl
    go_enter Tryd.func3, Tryd.ntmps3
    go_wp2_with fail
    refine C1.out.mono ?_; rintro e w1 ⟨rfl, hb1⟩
    go_wp2
    go_ret
    exact ⟨rfl, box_on14 hb1⟩
  have h6' : s.size ≤ 600 := by omega
  clear h6
  by_cases h7 : 400 < name.size
  · have C1 := Lib.hid (lives14_any (w.alloc (.cells #[.int .i64 k, .int .i64 a, .int .i64 n, .string s] 23)))
    clear a0 a1 n0 n1 ht hnl
    go_enter Tryd.func3, Tryd.ntmps3
    go_wp2_with fail
    refine C1.out.mono ?_; rintro e w1 ⟨rfl, hb1⟩
    go_wp2
    go_ret
    exact ⟨rfl, box_on14 hb1⟩
  have h7' : name.size ≤ 400 := by omega
  have c1 := op_right_any k a n s (by unfold maxLen; omega)
  have c2 := rright_any k a n s (by omega)
  have c3 := text_any k a n s (by omega) a0 a1 n0 n1
  have c4 := rtext_any k a n s (by omega)
  have c6 := rmark_any name (by omega)
  obtain ⟨r, hr⟩ : ∃ r, rightB k a n s.data.toList = r := ⟨_, rfl⟩
  obtain ⟨T, hT⟩ : ∃ T, textR k a n s = T := ⟨_, rfl⟩
  obtain ⟨m, hm⟩ : ∃ m, markB name.data.toList = m := ⟨_, rfl⟩
  rw [hr] at c1 c2
  rw [hT] at c3 c4
  rw [hm] at hnl c6
  have C1 := Lib.hid c1; have C2 := Lib.hid c2; have C3 := Lib.hid c3; have C4 := Lib.hid c4; have C5 := Lib.hid hnl; have C6 := Lib.hid c6
  have HB := Lib.hid (Blk.new w #[.int .i64 k, .int .i64 a, .int .i64 n, .string s] 23)
  clear h7 c1 c2 c3 c4 c6 hnl hr hT hm ht a0 a1 n0 n1
  go_enter Tryd.func3, Tryd.ntmps3
  have B0 := Lib.hid (bx4_new w k a n s)
  go_wp2_with fail
  go_region_held3 (fun w' => Below w.heap.size w w' ∧ w.heap.size + 1 ≤ w'.heap.size ∧ w'.cell? ⟨w.heap.size, 0, none⟩ = some (.int .i64 k) ∧ w'.cell? ⟨w.heap.size, 1, none⟩ = some (.int .i64 a) ∧ w'.cell? ⟨w.heap.size, 2, none⟩ = some (.int .i64 n) ∧ w'.cell? ⟨w.heap.size, 3, none⟩ = some (.string s))
    (first | assumption | exact bx4_drew B0.out | exact bx4_drew (by assumption) | exact bx4_call (by assumption) hb1)
    (first
      | (go_at_call 5; (with_reducible refine (C1.out _).mono ?_); rintro e w1 ⟨rfl, hb1⟩)
      | (go_at_call 6; (with_reducible refine (C2.out _).mono ?_); rintro e w1 ⟨rfl, hb1⟩)
      | (go_at_call 7; (with_reducible refine (C3.out _ ?_).mono ?_); exact pow_at HP.out (show Bx4 w k a n s _ by assumption).1; rintro e w1 ⟨rfl, hb1⟩)
      | (go_at_call 8; (with_reducible refine (C4.out _).mono ?_); rintro e w1 ⟨rfl, hb1⟩)
      | (go_at_call 9; (with_reducible refine (C5.out _).mono ?_); rintro e w1 ⟨rfl, rfl⟩)
      | (go_at_call 10; (with_reducible refine (C6.out _).mono ?_); rintro e w1 ⟨rfl, rfl⟩)
      | (go_at_call 4; refine (lives14_any _).mono ?_; rintro e w1 ⟨rfl, hb1⟩))
  go_wp2
  go_ret
  exact ⟨by simp, (show Bx4 w k a n s _ by assumption).1⟩
end Go.Proofs.YtlgdlkiekodocaaDoor
