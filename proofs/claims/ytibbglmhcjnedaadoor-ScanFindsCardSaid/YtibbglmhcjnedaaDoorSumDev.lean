/-
  Contracts of the program's Step, Add and Of.
-/
import Derived.Test.YtibbglmhcjnedaaDoorSumRef
namespace Go.Proofs.YtibbglmhcjnedaaDoor
open Go.RowKit

set_option maxRecDepth 100000 in
set_option maxHeartbeats 400000 in
theorem step_any (r b : Nat) (hr : r < 4294967296) (hb : b < 256) (w : World) :
    Calls Tryd.prog 66 #[.int .u32 r, .int .u8 b] w fun e w' => e = .returned (.int .u32 (crcB r b)) ∧ w = w' := by
  have h0 : Go.bits BinOp.xor IntKind.u32 (r : Int) (b : Int) = ((r ^^^ b : Nat) : Int) := u32_xor_nat r b hr (by omega)
  have hx0 : r ^^^ b < 4294967296 := Nat.xor_lt_two_pow (n := 32) (by omega) (by omega)
  obtain ⟨y, hy⟩ : ∃ y, r ^^^ b = y := ⟨_, rfl⟩
  have hB : crcB r b = crcN 8 y := by unfold crcB; rw [hy]
  rw [hy] at h0 hx0
  rw [hB]
  clear hB hy
  go_enter Tryd.func66, Tryd.ntmps66
  go_wp2
  go_loop [0, 10] (fun x i => ∃ j : Nat, j ≤ 8 ∧ i = .int .i64 j ∧ x = .int .u32 (crcN j y)) (fun _ i => 8 - (intOf i).toNat)
  case atStart => exact ⟨0, by omega, rfl, rfl⟩
  case round =>
    obtain ⟨j, hj, rfl, rfl⟩ := hrel
    have hx := crcN_lt j y (by omega)
    by_cases hlt : j < 8
    · have hs := crcN_succ j y
      obtain ⟨x, hxx⟩ : ∃ x, crcN j y = x := ⟨_, rfl⟩
      rw [hxx] at hx hs ⊢
      clear hxx
      have hand : Go.bits BinOp.and IntKind.u32 (x : Int) 1 = (x : Int) % 2 := by
        have := u32_and_nat x 1 (by omega) (by omega)
        rw [nat_mask1] at this; simpa using this
      by_cases h1 : x % 2 = 1
      · have h2 : ((x : Int) % 2 == 1) = true := by simp; omega
        have h3 : Go.bits BinOp.xor IntKind.u32 ((x : Int) / 2) 3988292384 = ((crcF x : Nat) : Int) := by
          rw [crcF_odd h1]; exact u32_xor_nat (x / 2) 3988292384 (by omega) (by omega)
        have HS := Lib.hid hs; clear hs h1
        go_wp2
        go_round
        case rel => exact ⟨j + 1, by omega, by go_num, by rw [HS.out]⟩
        case measure => simp [intOf]; omega
      · have h2 : ((x : Int) % 2 == 1) = false := by simp; omega
        rw [crcF_even h1] at hs
        have HS := Lib.hid hs; clear hs h1
        go_wp2
        go_round
        case rel => exact ⟨j + 1, by omega, by go_num, by rw [HS.out]; go_num⟩
        case measure => simp [intOf]; omega
    · obtain rfl : j = 8 := by omega
      go_wp2
      go_ret
      exact ⟨rfl, rfl⟩

set_option maxRecDepth 100000 in
set_option maxHeartbeats 400000 in
theorem take_any (x b : Nat) (hx : x < 4294967296) (hb : b < 256) (w : World) :
    Calls Tryd.prog 65 #[.int .u8 b, .pointer (some ⟨w.heap.size, 0, none⟩)] (w.alloc (.cells #[.int .u32 x] 60)) fun e w' => e = .returned (.tuple #[]) ∧ w.alloc (.cells #[.int .u32 (crcB x b)] 60) = w' := by
  go_enter Tryd.func65, Tryd.ntmps65
  go_wp2_with (go_at_call 66; refine (step_any _ _ hx hb _).mono ?_; rintro e w' ⟨rfl, rfl⟩)
  go_end0
  exact ⟨rfl, rfl⟩

set_option maxRecDepth 100000 in
set_option maxHeartbeats 400000 in
theorem end_any (x y : Nat) (hy : Go.bits BinOp.xor IntKind.u32 IntKind.u32.max (x : Int) = (y : Int)) (w : World) :
    Calls Tryd.prog 67 #[.pointer (some ⟨w.heap.size, 0, none⟩)] (w.alloc (.cells #[.int .u32 x] 60)) fun e w' => e = .returned (.int .u32 y) ∧ w.alloc (.cells #[.int .u32 x] 60) = w' := by
  go_enter Tryd.func67, Tryd.ntmps67
  go_wp2
  go_ret
  exact ⟨rfl, rfl⟩

set_option maxRecDepth 100000 in
set_option maxHeartbeats 400000 in
theorem register_any (r y : Nat) (hy : Go.bits BinOp.xor IntKind.u32 IntKind.u32.max (r : Int) = (y : Int)) (w : World) :
    Calls Tryd.prog 62 #[.int .u32 r] w fun e w' =>
      e = .returned (.tuple #[.func (.func 65) #[] #[.pointer (some ⟨w.heap.size, 0, none⟩)], .func (.func 67) #[] #[.pointer (some ⟨w.heap.size, 0, none⟩)]])
        ∧ w.alloc (.cells #[.int .u32 y] 60) = w' := by
  have hmf : ∀ (fn : Fn) (first cap : Array Value) (w : World), (Instr.makeFunc fn first cap).run Tryd.prog w = .ok (.func fn first cap) w := fun _ _ _ _ => rfl
  go_enter Tryd.func62, Tryd.ntmps62
  go_wp2
  go_ret2
  exact ⟨rfl, rfl⟩

set_option maxRecDepth 100000 in
set_option maxHeartbeats 400000 in
theorem add_any (r : Nat) (hr : r < 4294967296) (s : ByteArray) (hs : s.size ≤ maxLen) (w : World) :
    Calls Tryd.prog 55 #[.int .u32 r, .string s] w fun e w' => e = .returned (.int .u32 (addN r s.data.toList)) ∧ Below w.heap.size w w' := by
  have hlen : s.data.toList.length = s.size := by simp
  have HN := Lib.hid hlen; clear hlen
  unfold maxLen at hs
  have h0 : Go.bits BinOp.xor IntKind.u32 IntKind.u32.max (r : Int) = ((r ^^^ 4294967295 : Nat) : Int) := by
    rw [Nat.xor_comm]; exact u32_xor_nat 4294967295 r (by omega) hr
  have hy0 := flip_lt hr
  have hA : addN r s.data.toList = crcT (r ^^^ 4294967295) s.data.toList ^^^ 4294967295 := rfl
  obtain ⟨y, hy⟩ : ∃ y, r ^^^ 4294967295 = y := ⟨_, rfl⟩
  rw [hy] at h0 hy0 hA
  rw [hA]
  clear hA hy
  obtain ⟨z, hz⟩ : ∃ z, crcT y s.data.toList = z := ⟨_, rfl⟩
  rw [hz]
  have hz1 : z < 4294967296 := by rw [← hz]; exact crcT_lt _ _ hy0
  have hz2 : Go.bits BinOp.xor IntKind.u32 IntKind.u32.max (z : Int) = ((z ^^^ 4294967295 : Nat) : Int) := by
    rw [Nat.xor_comm]; exact u32_xor_nat 4294967295 z (by omega) hz1
  have HZ := Lib.hid hz; clear hz
  have H0 := Lib.hid h0; clear h0
  have H2 := Lib.hid hz2; clear hz2
  go_enter Tryd.func55, Tryd.ntmps55
  go_wp2_with fail
  refine (register_any _ _ H0.out _).mono ?_; rintro e w' ⟨rfl, rfl⟩
  go_wp2
  go_loopw [15] (fun i wr => ∃ j : Nat, j ≤ s.size ∧ i = .int .i64 j ∧ wr = w.alloc (.cells #[.int .u32 (crcT y (s.data.toList.take j))] 60)) (fun i _ => s.size - (intOf i).toNat)
  case atStart => exact ⟨0, by omega, rfl, rfl⟩
  case round =>
    obtain ⟨j, hj, rfl, rfl⟩ := hrel
    by_cases hlt : j < s.size
    · have hc := crcT_take y s.data.toList j (by rw [HN.out]; exact hlt)
      rw [bt_get s j hlt] at hc
      have hx := crcT_lt (s.data.toList.take j) y hy0
      have hb := s[j].toNat_lt
      obtain ⟨x, hxx⟩ : ∃ x, crcT y (s.data.toList.take j) = x := ⟨_, rfl⟩
      rw [hxx] at hc hx ⊢
      have HC := Lib.hid hc; clear hc hxx
      go_wp2_with (go_at_call 65; refine (take_any _ _ hx hb _).mono ?_; rintro e w' ⟨rfl, rfl⟩)
      go_roundw
      case rel => exact ⟨j + 1, by omega, by go_num, by rw [HC.out]⟩
      case measure => simp [intOf]; omega
    · have hend : crcT y (s.data.toList.take j) = z := by rw [List.take_of_length_le (by rw [HN.out]; omega)]; exact HZ.out
      rw [hend]
      clear hend
      go_wp2_with (go_at_call 67; refine (end_any _ _ H2.out _).mono ?_; rintro e w' ⟨rfl, rfl⟩)
      go_ret
      exact ⟨rfl, (Below.refl _ _).alloc (Nat.le_refl _) _⟩

theorem of_any (s : ByteArray) (hs : s.size ≤ maxLen) (w : World) :
    Calls Tryd.prog 56 #[.string s] w fun e w' => e = .returned (.int .u32 (addN 0 s.data.toList)) ∧ Below w.heap.size w w' := by
  have ha := add_any 0 (by omega) s hs
  have HA := Lib.hid ha; clear ha
  go_enter Tryd.func56, Tryd.ntmps56
  go_wp2_with (go_at_call 55; refine (HA.out _).mono ?_; rintro e w' ⟨rfl, hb⟩)
  go_ret
  exact ⟨rfl, by assumption⟩
end Go.Proofs.YtibbglmhcjnedaaDoor
