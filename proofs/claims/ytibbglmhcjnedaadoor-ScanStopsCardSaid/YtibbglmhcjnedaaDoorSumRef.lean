/-
  Contracts of the document's Step, Add and Of.
-/
import Derived.Test.YtibbglmhcjnedaaDoorRows
import Derived.Test.YtibbglmhcjnedaaDoorCommon
import Derived.Test.YtibbglmhcjnedaaDoorSumMath
namespace Go.Proofs.YtibbglmhcjnedaaDoor
open Go.RowKit

theorem crcN_succ (n x : Nat) : crcN (n + 1) x = crcF (crcN n x) := by rw [crcN_add n 1]; rfl

theorem crcF_odd {x : Nat} (h : x % 2 = 1) : crcF x = (x / 2) ^^^ 3988292384 := by unfold crcF; rw [if_pos h]
theorem crcF_even {x : Nat} (h : ¬ x % 2 = 1) : crcF x = x / 2 := by unfold crcF; rw [if_neg h, Nat.xor_zero]

set_option maxRecDepth 100000 in
set_option maxHeartbeats 400000 in
theorem rstep_any (r b : Nat) (hr : r < 4294967296) (hb : b < 256) (w : World) :
    Calls Tryd.prog 61 #[.int .u32 r, .int .u8 b] w fun e w' => e = .returned (.int .u32 (crcB r b)) ∧ w = w' := by
  have h0 : Go.bits BinOp.xor IntKind.u32 (r : Int) (b : Int) = ((r ^^^ b : Nat) : Int) := u32_xor_nat r b hr (by omega)
  have hx0 : r ^^^ b < 4294967296 := Nat.xor_lt_two_pow (n := 32) (by omega) (by omega)
  obtain ⟨y, hy⟩ : ∃ y, r ^^^ b = y := ⟨_, rfl⟩
  have hB : crcB r b = crcN 8 y := by unfold crcB; rw [hy]
  rw [hy] at h0 hx0
  rw [hB]
  clear hB hy
  go_enter Tryd.func61, Tryd.ntmps61
  go_wp2
  go_loop [0, 5] (fun x i => ∃ j : Nat, j ≤ 8 ∧ i = .int .i64 j ∧ x = .int .u32 (crcN j y)) (fun _ i => 8 - (intOf i).toNat)
  case atStart => exact ⟨0, by omega, rfl, rfl⟩
  case round =>
    obtain ⟨j, hj, rfl, rfl⟩ := hrel
    have hx := crcN_lt j y (by omega)
    by_cases hlt : j < 8
    · have hs := crcN_succ j y
      obtain ⟨x, hxx⟩ : ∃ x, crcN j y = x := ⟨_, rfl⟩
      rw [hxx] at hx hs ⊢
      clear hxx
      by_cases h1 : x % 2 = 1
      · have h2 : ((x : Int) % 2 == 1) = true := by simp; omega
        have h3 : Go.bits BinOp.xor IntKind.u32 ((x : Int) / 2) 3988292384 = ((crcF x : Nat) : Int) := by
          rw [crcF_odd h1]; exact u32_xor_nat (x / 2) 3988292384 (by omega) (by omega)
        have HS := Lib.hid hs; clear hs h1
        go_wp2
        go_round
        case rel => exact ⟨j + 1, by omega, by go_num, by rw [HS.out]⟩
        case measure => simp [intOf]; omega
      · have h2 : ((x : Int) % 2 == 1) = false := by simp; omega
        rw [crcF_even h1] at hs
        have HS := Lib.hid hs; clear hs h1
        go_wp2
        go_round
        case rel => exact ⟨j + 1, by omega, by go_num, by rw [HS.out]; go_num⟩
        case measure => simp [intOf]; omega
    · obtain rfl : j = 8 := by omega
      go_wp2
      go_ret
      exact ⟨rfl, rfl⟩

theorem flip_lt {r : Nat} (h : r < 4294967296) : r ^^^ 4294967295 < 4294967296 := Nat.xor_lt_two_pow (n := 32) (by omega) (by omega)
/-- The sum of a text behind one that has the sum r. -/
def addN (r : Nat) (l : List UInt8) : Nat := crcT (r ^^^ 4294967295) l ^^^ 4294967295
theorem addN_lt (r : Nat) (l : List UInt8) (h : r < 4294967296) : addN r l < 4294967296 := flip_lt (crcT_lt l _ (flip_lt h))
theorem crcT_take (r : Nat) (l : List UInt8) (k : Nat) (h : k < l.length) : crcT r (l.take (k + 1)) = crcB (crcT r (l.take k)) (bt l k) := by
  rw [take_succ l k h, crcT_app]; rfl
set_option maxRecDepth 100000 in
set_option maxHeartbeats 400000 in
theorem radd_any (r : Nat) (hr : r < 4294967296) (s : ByteArray) (hs : s.size ≤ maxLen) (w : World) :
    Calls Tryd.prog 47 #[.int .u32 r, .string s] w fun e w' => e = .returned (.int .u32 (addN r s.data.toList)) ∧ w = w' := by
  have hlen : s.data.toList.length = s.size := by simp
  have HN := Lib.hid hlen; clear hlen
  unfold maxLen at hs
  have h0 : Go.bits BinOp.xor IntKind.u32 (r : Int) 4294967295 = ((r ^^^ 4294967295 : Nat) : Int) := u32_xor_nat r 4294967295 hr (by omega)
  have hy0 := flip_lt hr
  have hA : addN r s.data.toList = crcT (r ^^^ 4294967295) s.data.toList ^^^ 4294967295 := rfl
  obtain ⟨y, hy⟩ : ∃ y, r ^^^ 4294967295 = y := ⟨_, rfl⟩
  rw [hy] at h0 hy0 hA
  rw [hA]
  clear hA hy
  obtain ⟨z, hz⟩ : ∃ z, crcT y s.data.toList = z := ⟨_, rfl⟩
  rw [hz]
  have hz1 : z < 4294967296 := by rw [← hz]; exact crcT_lt _ _ hy0
  have hz2 : Go.bits BinOp.xor IntKind.u32 (z : Int) 4294967295 = ((z ^^^ 4294967295 : Nat) : Int) := u32_xor_nat z 4294967295 hz1 (by omega)
  have HZ := Lib.hid hz; clear hz
  go_enter Tryd.func47, Tryd.ntmps47
  go_wp2
  go_loop [5, 6] (fun x i => ∃ j : Nat, j ≤ s.size ∧ i = .int .i64 j ∧ x = .int .u32 (crcT y (s.data.toList.take j))) (fun _ i => s.size - (intOf i).toNat)
  case atStart => exact ⟨0, by omega, rfl, rfl⟩
  case round =>
    obtain ⟨j, hj, rfl, rfl⟩ := hrel
    by_cases hlt : j < s.size
    · have hc := crcT_take y s.data.toList j (by rw [HN.out]; exact hlt)
      rw [bt_get s j hlt] at hc
      have hx := crcT_lt (s.data.toList.take j) y hy0
      have hb := s[j].toNat_lt
      obtain ⟨x, hxx⟩ : ∃ x, crcT y (s.data.toList.take j) = x := ⟨_, rfl⟩
      rw [hxx] at hc hx ⊢
      have HC := Lib.hid hc; clear hc hxx
      go_wp2_with (go_at_call 61; refine (rstep_any _ _ hx hb _).mono ?_; rintro e w' ⟨rfl, rfl⟩)
      go_round
      case rel => exact ⟨j + 1, by omega, by go_num, by rw [HC.out]⟩
      case measure => simp [intOf]; omega
    · have hend : crcT y (s.data.toList.take j) = z := by rw [List.take_of_length_le (by rw [HN.out]; omega)]; exact HZ.out
      rw [hend]
      clear hend
      go_wp2
      go_ret
      exact ⟨rfl, rfl⟩
theorem rof_any (s : ByteArray) (hs : s.size ≤ maxLen) (w : World) :
    Calls Tryd.prog 31 #[.string s] w fun e w' => e = .returned (.int .u32 (addN 0 s.data.toList)) ∧ w = w' := by
  have ha := radd_any 0 (by omega) s hs
  have HA := Lib.hid ha; clear ha
  go_enter Tryd.func31, Tryd.ntmps31
  go_wp2_with (go_at_call 47; refine (HA.out _).mono ?_; rintro e w' ⟨rfl, rfl⟩)
  go_ret
  exact ⟨rfl, rfl⟩
end Go.Proofs.YtibbglmhcjnedaaDoor
