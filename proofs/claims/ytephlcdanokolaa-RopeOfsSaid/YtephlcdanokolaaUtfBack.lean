/-
  Contracts of Back, the program's and the document's: the greatest edge that is not above a place.
-/
import Derived.Test.YtephlcdanokolaaUtfLives
namespace Go.Proofs.Ytephlcdanokolaa
open Go.RowKit

/-- The greatest edge that is not above a place, whatever number the place is. -/
def backI (l : List UInt8) (p : Int) : Nat := if p < 0 then 0 else if (l.length : Int) < p then l.length else back l p.toNat

theorem edge_zero (l : List UInt8) : edge l 0 := .inl rfl
theorem edge_len (l : List UInt8) : edge l l.length := .inr (.inl rfl)

set_option maxRecDepth 100000 in
set_option maxHeartbeats 400000 in
theorem back_in (s : ByteArray) (hs : s.size ≤ maxLen) (k : Nat) (hk : k ≤ s.size) (w : World) :
    Calls Try.prog 79 #[.string s, .int .i64 k] w fun e w' => e = .returned (.int .i64 (back s.data.toList k)) ∧ w = w' := by
  have hs1 := hs
  unfold maxLen at hs
  have hlen : s.data.toList.length = s.size := by simp
  have HN := Lib.hid hlen; clear hlen
  have HM := Lib.hid hs1; clear hs1
  obtain ⟨b, hb⟩ : ∃ b, back s.data.toList k = b := ⟨_, rfl⟩
  rw [hb]
  have HB := Lib.hid hb; clear hb
  go_enter Try.func79, Try.ntmps79
  go_wp2
  all_goals
    go_loop [1] (fun i => ∃ j : Nat, j ≤ k ∧ i = .int .i64 j ∧ back s.data.toList j = b) (fun i => (intOf i).toNat)
    case atStart => exact ⟨k, Nat.le_refl _, by first | rfl | (simp; omega), HB.out⟩
    case round =>
      obtain ⟨j, hj, rfl, hbj⟩ := hrel
      have HJ := Lib.hid hbj; clear hbj
      by_cases he : edge s.data.toList j
      · have HE := Lib.hid he; clear he
        go_wp2_with (go_at_call 93; refine (edge_yes s HM.out j HE.out _).mono ?_; rintro e w' ⟨rfl, rfl⟩)
        go_ret
        exact ⟨ret_int (by rw [← HJ.out, back_edge _ _ HE.out]), rfl⟩
      · have hj0 : j ≠ 0 := fun h => he (by rw [h]; exact edge_zero _)
        have hjs : j < s.size := by
          rcases Nat.lt_or_ge j s.size with h | h
          · exact h
          · exact absurd (.inr (.inl (by rw [HN.out]; omega))) he
        have HE := Lib.hid he; clear he
        go_wp2_with (go_at_call 93; refine (edge_no s HM.out j hjs HE.out _).mono ?_; rintro e w' ⟨rfl, rfl⟩)
        go_round
        case rel =>
          obtain ⟨i, rfl⟩ : ∃ i, j = i + 1 := ⟨j - 1, by omega⟩
          exact ⟨i, by omega, by go_num, by rw [← HJ.out, back_not _ _ HE.out]⟩
        case measure => simp [intOf]; omega
set_option maxRecDepth 100000 in
set_option maxHeartbeats 400000 in
theorem back_low (s : ByteArray) (hs : s.size ≤ maxLen) (p : Int) (hp : p < 0) (w : World) :
    Calls Try.prog 79 #[.string s, .int .i64 p] w fun e w' => e = .returned (.int .i64 (back s.data.toList 0)) ∧ w = w' := by
  have hs1 := hs
  unfold maxLen at hs
  have hlen : s.data.toList.length = s.size := by simp
  have HN := Lib.hid hlen; clear hlen
  have HM := Lib.hid hs1; clear hs1
  obtain ⟨b, hb⟩ : ∃ b, back s.data.toList 0 = b := ⟨_, rfl⟩
  rw [hb]
  have HB := Lib.hid hb; clear hb
  go_enter Try.func79, Try.ntmps79
  go_wp2
  all_goals
    go_loop [1] (fun i => ∃ j : Nat, j ≤ 0 ∧ i = .int .i64 j ∧ back s.data.toList j = b) (fun i => (intOf i).toNat)
    case atStart => exact ⟨0, Nat.le_refl _, by first | rfl | (simp; omega), HB.out⟩
    case round =>
      obtain ⟨j, hj, rfl, hbj⟩ := hrel
      have HJ := Lib.hid hbj; clear hbj
      by_cases he : edge s.data.toList j
      · have HE := Lib.hid he; clear he
        go_wp2_with (go_at_call 93; refine (edge_yes s HM.out j HE.out _).mono ?_; rintro e w' ⟨rfl, rfl⟩)
        go_ret
        exact ⟨ret_int (by rw [← HJ.out, back_edge _ _ HE.out]), rfl⟩
      · have hj0 : j ≠ 0 := fun h => he (by rw [h]; exact edge_zero _)
        have hjs : j < s.size := by
          rcases Nat.lt_or_ge j s.size with h | h
          · exact h
          · exact absurd (.inr (.inl (by rw [HN.out]; omega))) he
        have HE := Lib.hid he; clear he
        go_wp2_with (go_at_call 93; refine (edge_no s HM.out j hjs HE.out _).mono ?_; rintro e w' ⟨rfl, rfl⟩)
        go_round
        case rel =>
          obtain ⟨i, rfl⟩ : ∃ i, j = i + 1 := ⟨j - 1, by omega⟩
          exact ⟨i, by omega, by go_num, by rw [← HJ.out, back_not _ _ HE.out]⟩
        case measure => simp [intOf]; omega
set_option maxRecDepth 100000 in
set_option maxHeartbeats 400000 in
theorem back_high (s : ByteArray) (hs : s.size ≤ maxLen) (p : Int) (hp : (s.size : Int) < p) (w : World) :
    Calls Try.prog 79 #[.string s, .int .i64 p] w fun e w' => e = .returned (.int .i64 (back s.data.toList s.size)) ∧ w = w' := by
  have hs1 := hs
  unfold maxLen at hs
  have hlen : s.data.toList.length = s.size := by simp
  have HN := Lib.hid hlen; clear hlen
  have HM := Lib.hid hs1; clear hs1
  obtain ⟨b, hb⟩ : ∃ b, back s.data.toList s.size = b := ⟨_, rfl⟩
  rw [hb]
  have HB := Lib.hid hb; clear hb
  go_enter Try.func79, Try.ntmps79
  go_wp2
  all_goals
    go_loop [1] (fun i => ∃ j : Nat, j ≤ s.size ∧ i = .int .i64 j ∧ back s.data.toList j = b) (fun i => (intOf i).toNat)
    case atStart => exact ⟨s.size, Nat.le_refl _, by first | rfl | (simp; omega), HB.out⟩
    case round =>
      obtain ⟨j, hj, rfl, hbj⟩ := hrel
      have HJ := Lib.hid hbj; clear hbj
      by_cases he : edge s.data.toList j
      · have HE := Lib.hid he; clear he
        go_wp2_with (go_at_call 93; refine (edge_yes s HM.out j HE.out _).mono ?_; rintro e w' ⟨rfl, rfl⟩)
        go_ret
        exact ⟨ret_int (by rw [← HJ.out, back_edge _ _ HE.out]), rfl⟩
      · have hj0 : j ≠ 0 := fun h => he (by rw [h]; exact edge_zero _)
        have hjs : j < s.size := by
          rcases Nat.lt_or_ge j s.size with h | h
          · exact h
          · exact absurd (.inr (.inl (by rw [HN.out]; omega))) he
        have HE := Lib.hid he; clear he
        go_wp2_with (go_at_call 93; refine (edge_no s HM.out j hjs HE.out _).mono ?_; rintro e w' ⟨rfl, rfl⟩)
        go_round
        case rel =>
          obtain ⟨i, rfl⟩ : ∃ i, j = i + 1 := ⟨j - 1, by omega⟩
          exact ⟨i, by omega, by go_num, by rw [← HJ.out, back_not _ _ HE.out]⟩
        case measure => simp [intOf]; omega
theorem back_any (s : ByteArray) (hs : s.size ≤ maxLen) (p : Int) (w : World) :
    Calls Try.prog 79 #[.string s, .int .i64 p] w fun e w' => e = .returned (.int .i64 (backI s.data.toList p)) ∧ w = w' := by
  have hlen : s.data.toList.length = s.size := by simp
  by_cases h0 : p < 0
  · have e : backI s.data.toList p = back s.data.toList 0 := by unfold backI; rw [if_pos h0]; rfl
    rw [e]
    exact back_low s hs p h0 w
  · by_cases h1 : (s.size : Int) < p
    · have e : backI s.data.toList p = back s.data.toList s.size := by unfold backI; rw [if_neg h0, if_pos (by omega), back_edge _ _ (by rw [← hlen]; exact edge_len _), hlen]
      rw [e]
      exact back_high s hs p h1 w
    · obtain ⟨k, rfl⟩ := Int.eq_ofNat_of_zero_le (Int.not_lt.1 h0)
      have e : backI s.data.toList k = back s.data.toList k := by unfold backI; rw [if_neg h0, if_neg (by omega), Int.toNat_natCast]
      rw [e]
      exact back_in s hs k (by omega) w

/-- As far as the document's loop has come: the greatest edge below k. -/
def best (l : List UInt8) : Nat → Nat
  | 0 => 0
  | k + 1 => back l k
theorem best_yes (l : List UInt8) (k : Nat) (h : edge l k) : best l (k + 1) = k := back_edge l k h
theorem best_no (l : List UInt8) (k : Nat) (h : ¬ edge l k) : best l (k + 1) = best l k := by
  cases k with
  | zero => exact absurd (edge_zero l) h
  | succ k => exact back_not l k h
end Go.Proofs.Ytephlcdanokolaa
