/-
  The walks of the laws SumSteps, SumOfs and SumJoins.
-/
import Derived.Test.YtkppfobhccncaaaSumDev
namespace Go.Proofs.Ytkppfobhccncaaa
open Go.RowKit

theorem nine : addN 0 (⟨#[49, 50, 51, 52, 53, 54, 55, 56, 57]⟩ : ByteArray).data.toList = 3421780262 := by decide +kernel
set_option maxRecDepth 100000 in
theorem lives2_any (w : World) : Calls Try.prog 9 #[] w fun e w' => e = .returned (.bool true) ∧ Below w.heap.size w w' := by
  have hp := of_any ⟨#[49, 50, 51, 52, 53, 54, 55, 56, 57]⟩ (by decide +kernel)
  rw [nine] at hp
  have HP := Lib.hid hp; clear hp
  go_enter Try.func9, Try.ntmps9
  go_wp2_with (go_at_call 10; refine (HP.out _).mono ?_; rintro e w' ⟨rfl, hb⟩)
  go_ret
  exact ⟨by simp, by assumption⟩

theorem nat_of {r : Int} (h0 : 0 ≤ r) : ∃ k : Nat, r = k := Int.eq_ofNat_of_zero_le h0

set_option maxRecDepth 100000 in
set_option maxHeartbeats 400000 in
theorem sumSteps_walk (r b : Int) (w0 : (Lit.int .u32 r).wf = true) (w1 : (Lit.int .u8 b).wf = true) (w : World) :
    Calls Try.prog 3 #[.int .u32 r, .int .u8 b] w fun e w' => e = .returned (.bool true) ∧ Below w.heap.size w w' := by
  obtain ⟨r0, r1⟩ := bounds_u32 w0
  obtain ⟨b0, b1⟩ := bounds_u8 w1
  clear w0 w1
  obtain ⟨r, rfl⟩ := nat_of r0
  obtain ⟨b, rfl⟩ := nat_of b0
  have hr : r < 4294967296 := by omega
  have hb : b < 256 := by omega
  clear r0 r1 b0 b1
  go_enter Try.func3, Try.ntmps3
  go_wp2_with fail
  refine (step_any _ _ hr hb _).mono ?_; rintro e w' ⟨rfl, rfl⟩
  go_wp2_with fail
  refine (rstep_any _ _ hr hb _).mono ?_; rintro e w' ⟨rfl, rfl⟩
  go_wp2_with fail
  refine (lives2_any _).mono ?_; rintro e w1 ⟨rfl, hb1⟩
  go_wp2
  go_ret
  exact ⟨by simp, hb1⟩

set_option maxRecDepth 100000 in
set_option maxHeartbeats 400000 in
theorem sumOfs_walk (r : Int) (s : ByteArray) (w0 : (Lit.int .u32 r).wf = true) (w1 : s.size ≤ maxLen) (w : World) :
    Calls Try.prog 4 #[.int .u32 r, .string s] w fun e w' => e = .returned (.bool true) ∧ Below w.heap.size w w' := by
  obtain ⟨r0, r1⟩ := bounds_u32 w0
  clear w0
  obtain ⟨r, rfl⟩ := nat_of r0
  have hr : r < 4294967296 := by omega
  clear r0 r1
  by_cases hl : s.size ≤ 1000
  · have HM := Lib.hid w1; clear w1
    obtain ⟨x, hx⟩ : ∃ x, addN 0 s.data.toList = x := ⟨_, rfl⟩
    obtain ⟨y, hy⟩ : ∃ y, addN r s.data.toList = y := ⟨_, rfl⟩
    have c1 := of_any s HM.out
    have c2 := rof_any s HM.out
    have c3 := add_any r hr s HM.out
    have c4 := radd_any r hr s HM.out
    rw [hx] at c1 c2
    rw [hy] at c3 c4
    have C1 := Lib.hid c1; have C2 := Lib.hid c2; have C3 := Lib.hid c3; have C4 := Lib.hid c4
    clear c1 c2 c3 c4 hx hy
    have hb0 := Below.refl w.heap.size w
    go_enter Try.func4, Try.ntmps4
    go_wp2_with fail
    refine (onward (w0 := w) hb0 (C1.out _)).mono ?_; rintro e w1 ⟨rfl, hb1⟩
    go_wp2_with fail
    refine (C2.out _).mono ?_; rintro e w' ⟨rfl, rfl⟩
    go_wp2_with fail
    refine (onward (w0 := w) hb1 (C3.out _)).mono ?_; rintro e w2 ⟨rfl, hb2⟩
    go_wp2_with fail
    refine (C4.out _).mono ?_; rintro e w' ⟨rfl, rfl⟩
    go_wp2_with fail
    refine (onward (w0 := w) hb2 (lives2_any _)).mono ?_; rintro e w3 ⟨rfl, hb3⟩
    go_wp2
    go_ret
    exact ⟨by simp, hb3⟩
  · have hg : 1000 < s.size := by omega
    clear hl w1
    go_enter Try.func4, Try.ntmps4
    go_wp2_with fail
    refine (lives2_any _).mono ?_; rintro e w1 ⟨rfl, hb1⟩
    go_wp2
    go_ret
    exact ⟨rfl, hb1⟩

theorem flip_flip (x : Nat) : x ^^^ 4294967295 ^^^ 4294967295 = x := by rw [Nat.xor_assoc, Nat.xor_self, Nat.xor_zero]
theorem addN_app (r : Nat) (a b : List UInt8) : addN (addN r a) b = addN r (a ++ b) := by
  unfold addN; rw [flip_flip, crcT_app]
theorem addN_nil (r : Nat) : addN r [] = r := flip_flip r

set_option maxRecDepth 100000 in
set_option maxHeartbeats 400000 in
theorem sumJoins_walk (a b : ByteArray) (_w0 : a.size ≤ maxLen) (_w1 : b.size ≤ maxLen) (w : World) :
    Calls Try.prog 5 #[.string a, .string b] w fun e w' => e = .returned (.bool true) ∧ Below w.heap.size w w' := by
  by_cases ha : 1000 < a.size
  · go_enter Try.func5, Try.ntmps5
    go_wp2_with fail
    refine (lives2_any _).mono ?_; rintro e w1 ⟨rfl, hb1⟩
    go_wp2
    go_ret
    exact ⟨rfl, hb1⟩
  by_cases hb : 1000 < b.size
  · go_enter Try.func5, Try.ntmps5
    go_wp2_with fail
    refine (lives2_any _).mono ?_; rintro e w1 ⟨rfl, hb1⟩
    go_wp2
    go_ret
    exact ⟨rfl, hb1⟩
  have x1 := addN_lt 0 a.data.toList (by omega)
  have y1 := addN_lt 0 b.data.toList (by omega)
  have c1 := of_any a (by unfold maxLen; omega)
  have c2 := add_any _ x1 b (by unfold maxLen; omega)
  have c3 := of_any (a ++ b) (by unfold maxLen; rw [ByteArray.size_append]; omega)
  have c4 := of_any b (by unfold maxLen; omega)
  have c5 := add_any _ y1 ⟨#[]⟩ (by decide)
  rw [addN_app] at c2
  rw [app_list] at c3
  rw [show (⟨#[]⟩ : ByteArray).data.toList = [] from rfl, addN_nil] at c5
  obtain ⟨x, hx⟩ : ∃ x, addN 0 a.data.toList = x := ⟨_, rfl⟩
  obtain ⟨y, hy⟩ : ∃ y, addN 0 b.data.toList = y := ⟨_, rfl⟩
  obtain ⟨z, hz⟩ : ∃ z, addN 0 (a.data.toList ++ b.data.toList) = z := ⟨_, rfl⟩
  rw [hx] at c1 c2
  rw [hz] at c2 c3
  rw [hy] at c4 c5
  have C1 := Lib.hid c1; have C2 := Lib.hid c2; have C3 := Lib.hid c3; have C4 := Lib.hid c4; have C5 := Lib.hid c5
  clear c1 c2 c3 c4 c5 hx hy hz x1 y1
  have hb0 := Below.refl w.heap.size w
  go_enter Try.func5, Try.ntmps5
  go_wp2_with fail
  refine (onward (w0 := w) hb0 (C1.out _)).mono ?_; rintro e w1 ⟨rfl, hb1⟩
  go_wp2_with fail
  refine (onward (w0 := w) hb1 (C2.out _)).mono ?_; rintro e w2 ⟨rfl, hb2⟩
  go_wp2_with fail
  refine (onward (w0 := w) hb2 (C3.out _)).mono ?_; rintro e w3 ⟨rfl, hb3⟩
  go_wp2_with fail
  refine (onward (w0 := w) hb3 (C4.out _)).mono ?_; rintro e w4 ⟨rfl, hb4⟩
  go_wp2_with fail
  refine (onward (w0 := w) hb4 (C5.out _)).mono ?_; rintro e w5 ⟨rfl, hb5⟩
  go_wp2_with fail
  refine (onward (w0 := w) hb5 (C4.out _)).mono ?_; rintro e w6 ⟨rfl, hb6⟩
  go_wp2_with fail
  refine (onward (w0 := w) hb6 (lives2_any _)).mono ?_; rintro e w7 ⟨rfl, hb7⟩
  go_wp2
  go_ret
  exact ⟨by simp, hb7⟩
end Go.Proofs.Ytkppfobhccncaaa
