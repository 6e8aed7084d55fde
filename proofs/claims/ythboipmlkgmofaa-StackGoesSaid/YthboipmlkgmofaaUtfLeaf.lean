/-
  Contracts of the leaves of layer 1: utf.size, utf.Put, utf.lead, utf.goesOn, and the document's ok, octets, on.
-/
import Derived.Test.YthboipmlkgmofaaRows
import Derived.Test.YthboipmlkgmofaaCommon
namespace Go.Proofs.Ythboipmlkgmofaa
open Go.RowKit

set_option maxHeartbeats 400000 in
theorem size_any (c : Int) (w : World) :
    Calls Try.prog 51 #[.int .i32 c] w fun e w' => e = .returned (.int .i64 (sz c)) ∧ w = w' := by
  by_cases h0 : c < 0
  · go_enter Try.func51, Try.ntmps51
    go_wp2
    go_ret
    exact ⟨ret_int (by unfold sz; rw [if_pos (by omega)]; rfl), rfl⟩
  by_cases h1 : 1114111 < c
  · go_enter Try.func51, Try.ntmps51
    go_wp2
    go_ret
    exact ⟨ret_int (by unfold sz; rw [if_pos (by omega)]; rfl), rfl⟩
  by_cases h2 : c < 128
  · go_enter Try.func51, Try.ntmps51
    go_wp2
    go_ret
    exact ⟨ret_int (by unfold sz; rw [if_neg (by omega), if_pos (by omega)]; rfl), rfl⟩
  by_cases h3 : c < 2048
  · go_enter Try.func51, Try.ntmps51
    go_wp2
    go_ret
    exact ⟨ret_int (by unfold sz; rw [if_neg (by omega), if_neg (by omega), if_pos (by omega)]; rfl), rfl⟩
  by_cases h4 : 55296 ≤ c
  · by_cases h5 : c ≤ 57343
    · go_enter Try.func51, Try.ntmps51
      go_wp2
      go_ret
      exact ⟨ret_int (by unfold sz; rw [if_pos (by omega)]; rfl), rfl⟩
    by_cases h6 : c < 65536
    · go_enter Try.func51, Try.ntmps51
      go_wp2
      go_ret
      exact ⟨ret_int (by unfold sz; rw [if_neg (by omega), if_neg (by omega), if_neg (by omega), if_pos (by omega)]; rfl), rfl⟩
    · go_enter Try.func51, Try.ntmps51
      go_wp2
      go_ret
      exact ⟨ret_int (by unfold sz; rw [if_neg (by omega), if_neg (by omega), if_neg (by omega), if_neg (by omega)]; rfl), rfl⟩
  · have h6 : c < 65536 := by omega
    go_enter Try.func51, Try.ntmps51
    go_wp2
    go_ret
    exact ⟨ret_int (by unfold sz; rw [if_neg (by omega), if_neg (by omega), if_neg (by omega), if_pos (by omega)]; rfl), rfl⟩

theorem goesOn_yes (b : Nat) (h1 : 128 ≤ b) (h2 : b ≤ 191) (w : World) :
    Calls Try.prog 44 #[.int .u8 b] w fun e w' => e = .returned (.bool true) ∧ w = w' := by
  go_enter Try.func44, Try.ntmps44
  go_wp2
  go_ret
  exact ⟨by simp; omega, rfl⟩
theorem goesOn_no (b : Nat) (h : ¬ (128 ≤ b ∧ b ≤ 191)) (w : World) :
    Calls Try.prog 44 #[.int .u8 b] w fun e w' => e = .returned (.bool false) ∧ w = w' := by
  by_cases h1 : 128 ≤ b
  · have h2 : ¬ b ≤ 191 := by omega
    clear h
    go_enter Try.func44, Try.ntmps44
    go_wp2
    go_ret
    exact ⟨by simp; omega, rfl⟩
  · clear h
    go_enter Try.func44, Try.ntmps44
    go_wp2
    go_ret
    exact ⟨rfl, rfl⟩
theorem on_yes (b : Nat) (h1 : 128 ≤ b) (h2 : b ≤ 191) (w : World) :
    Calls Try.prog 42 #[.int .u8 b] w fun e w' => e = .returned (.bool true) ∧ w = w' := by
  go_enter Try.func42, Try.ntmps42
  go_wp2
  go_ret
  exact ⟨by simp; omega, rfl⟩
theorem on_no (b : Nat) (h : ¬ (128 ≤ b ∧ b ≤ 191)) (w : World) :
    Calls Try.prog 42 #[.int .u8 b] w fun e w' => e = .returned (.bool false) ∧ w = w' := by
  by_cases h1 : 128 ≤ b
  · have h2 : ¬ b ≤ 191 := by omega
    clear h
    go_enter Try.func42, Try.ntmps42
    go_wp2
    go_ret
    exact ⟨by simp; omega, rfl⟩
  · clear h
    go_enter Try.func42, Try.ntmps42
    go_wp2
    go_ret
    exact ⟨rfl, rfl⟩

set_option maxRecDepth 100000 in
set_option maxHeartbeats 400000 in
theorem lead_1 (b : Nat) (h : b < 128) (w : World) :
    Calls Try.prog 50 #[.int .u8 b] w fun e w' => e = .returned (.tuple #[.int .i32 (ld b).1, .int .i64 (ld b).2]) ∧ w = w' := by
  have e0 : ld b = (b, 1) := by unfold ld; rw [if_pos h]
  rw [e0]
  clear e0
  go_enter Try.func50, Try.ntmps50
  go_wp2
  go_ret2
  exact ⟨by simp, rfl⟩
set_option maxRecDepth 100000 in
set_option maxHeartbeats 400000 in
theorem lead_on (b : Nat) (h : 128 ≤ b) (h' : b < 192) (w : World) :
    Calls Try.prog 50 #[.int .u8 b] w fun e w' => e = .returned (.tuple #[.int .i32 (ld b).1, .int .i64 (ld b).2]) ∧ w = w' := by
  have e0 : ld b = (0, 0) := by unfold ld; rw [if_neg (by omega), if_pos (by omega)]
  rw [e0]
  clear e0
  go_enter Try.func50, Try.ntmps50
  go_wp2
  go_ret2
  exact ⟨by simp, rfl⟩
set_option maxRecDepth 100000 in
set_option maxHeartbeats 400000 in
theorem lead_2 (b : Nat) (h : 192 ≤ b) (h' : b < 224) (w : World) :
    Calls Try.prog 50 #[.int .u8 b] w fun e w' => e = .returned (.tuple #[.int .i32 (ld b).1, .int .i64 (ld b).2]) ∧ w = w' := by
  have e0 : ld b = (b % 32, 2) := by unfold ld; rw [if_neg (by omega), if_neg (by omega), if_pos (by omega)]
  rw [e0]
  clear e0
  go_enter Try.func50, Try.ntmps50
  go_wp2
  go_ret2
  exact ⟨by simp, rfl⟩
set_option maxRecDepth 100000 in
set_option maxHeartbeats 400000 in
theorem lead_3 (b : Nat) (h : 224 ≤ b) (h' : b < 240) (w : World) :
    Calls Try.prog 50 #[.int .u8 b] w fun e w' => e = .returned (.tuple #[.int .i32 (ld b).1, .int .i64 (ld b).2]) ∧ w = w' := by
  have e0 : ld b = (b % 16, 3) := by unfold ld; rw [if_neg (by omega), if_neg (by omega), if_neg (by omega), if_pos (by omega)]
  rw [e0]
  clear e0
  go_enter Try.func50, Try.ntmps50
  go_wp2
  go_ret2
  exact ⟨by simp, rfl⟩
set_option maxRecDepth 100000 in
set_option maxHeartbeats 400000 in
theorem lead_4 (b : Nat) (h : 240 ≤ b) (h' : b < 248) (w : World) :
    Calls Try.prog 50 #[.int .u8 b] w fun e w' => e = .returned (.tuple #[.int .i32 (ld b).1, .int .i64 (ld b).2]) ∧ w = w' := by
  have e0 : ld b = (b % 8, 4) := by unfold ld; rw [if_neg (by omega), if_neg (by omega), if_neg (by omega), if_neg (by omega), if_pos (by omega)]
  rw [e0]
  clear e0
  go_enter Try.func50, Try.ntmps50
  go_wp2
  go_ret2
  exact ⟨by simp, rfl⟩
set_option maxRecDepth 100000 in
set_option maxHeartbeats 400000 in
theorem lead_no (b : Nat) (h : 248 ≤ b) (h' : b < 256) (w : World) :
    Calls Try.prog 50 #[.int .u8 b] w fun e w' => e = .returned (.tuple #[.int .i32 (ld b).1, .int .i64 (ld b).2]) ∧ w = w' := by
  have e0 : ld b = (0, 0) := by unfold ld; rw [if_neg (by omega), if_neg (by omega), if_neg (by omega), if_neg (by omega), if_neg (by omega)]
  rw [e0]
  clear e0
  go_enter Try.func50, Try.ntmps50
  go_wp2
  go_ret2
  exact ⟨by simp, rfl⟩
theorem lead_any (b : Nat) (hb : b < 256) (w : World) :
    Calls Try.prog 50 #[.int .u8 b] w fun e w' => e = .returned (.tuple #[.int .i32 (ld b).1, .int .i64 (ld b).2]) ∧ w = w' := by
  by_cases h1 : b < 128
  · exact lead_1 b h1 w
  by_cases h2 : b < 192
  · exact lead_on b (by omega) h2 w
  by_cases h3 : b < 224
  · exact lead_2 b (by omega) h3 w
  by_cases h4 : b < 240
  · exact lead_3 b (by omega) h4 w
  by_cases h5 : b < 248
  · exact lead_4 b (by omega) h5 w
  · exact lead_no b (by omega) hb w
end Go.Proofs.Ythboipmlkgmofaa
