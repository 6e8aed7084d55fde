/-
  The document's operations: its names of marks, its places, which operations are right.
-/
import Derived.Test.YtlgdlkiekodocaaDoorOpMath
import Derived.Test.YtlgdlkiekodocaaDoorNumRef
import Derived.Test.YtlgdlkiekodocaaDoorBlk
namespace Go.Proofs.YtlgdlkiekodocaaDoor
open Go.RowKit

set_option maxRecDepth 100000 in
set_option maxHeartbeats 400000 in
theorem rmark_any (s : ByteArray) (hs : s.size ≤ 4294967296) (w : World) :
    Calls Tryd.prog 10 #[.string s] w fun e w' => e = .returned (.bool (markB s.data.toList)) ∧ w = w' := by
  obtain ⟨r, hr⟩ : ∃ r, markB s.data.toList = r := ⟨_, rfl⟩
  rw [hr]
  have HR := Lib.hid hr; clear hr
  go_enter Tryd.func10, Tryd.ntmps10
  go_wp2
  go_loop [3] (fun i => ∃ k : Nat, k ≤ s.size ∧ i = .int .i64 k ∧ (s.data.toList.take k).all letB = true) (fun i => s.size - (intOf i).toNat)
  case atStart => exact ⟨0, Nat.zero_le _, rfl, rfl⟩
  case round =>
    obtain ⟨k, hk, rfl, hall⟩ := hrel
    have HA := Lib.hid hall; clear hall
    by_cases hlt : k < s.size
    · have hb255 := s[k].toNat_lt
      by_cases g1 : 97 ≤ s[k].toNat
      · by_cases g2 : s[k].toNat ≤ 122
        · have h2 := Lib.hid (may_snoc hlt HA.out g1 g2)
          go_wp2
          go_round
          case rel => exact ⟨k + 1, by omega, by go_num, h2.out⟩
          case measure => simp [intOf]; omega
        · have h2 := Lib.hid (may_off hlt (.inr (by omega)))
          have g2' : 122 < s[k].toNat := by omega
          go_wp2
          go_ret
          exact ⟨ret_bool (by rw [← HR.out, h2.out]), rfl⟩
      · have h2 := Lib.hid (may_off hlt (.inl (by omega)))
        have g1' : s[k].toNat < 97 := by omega
        go_wp2
        go_ret
        exact ⟨ret_bool (by rw [← HR.out, h2.out]), rfl⟩
    · obtain rfl : k = s.size := by omega
      have h2 := Lib.hid (may_end HA.out)
      by_cases z1 : 1 ≤ s.size
      · by_cases z2 : s.size ≤ 8
        · have z0 : 0 < s.size := by omega
          go_wp2
          go_ret
          exact ⟨ret_bool (by rw [← HR.out, h2.out, decide_eq_true z1, Bool.true_and]; exact decide_eq_decide.2 (by omega)), rfl⟩
        · have z0 : 0 < s.size := by omega
          have z3 : 8 < s.size := by omega
          go_wp2
          go_ret
          exact ⟨ret_bool (by rw [← HR.out, h2.out, decide_eq_true z1, Bool.true_and]; exact decide_eq_decide.2 (by omega)), rfl⟩
      · have z0 : s.size = 0 := by omega
        have z3 : s.size < 1 := by omega
        go_wp2
        go_ret
        exact ⟨ret_bool (by rw [← HR.out, h2.out, decide_eq_false z1, Bool.false_and]), rfl⟩

theorem rplace_any (n : Int) (w : World) :
    Calls Tryd.prog 14 #[.int .i64 n] w fun e w' => e = .returned (.bool (plB n)) ∧ w = w' := by
  by_cases h0 : 0 ≤ n
  · by_cases h1 : n ≤ 4096
    · rw [plB_yes h0 h1]
      go_enter Tryd.func14, Tryd.ntmps14
      go_wp2
      go_ret
      exact ⟨rfl, rfl⟩
    · have h1' : 4096 < n := by omega
      rw [plB_no (.inr h1')]
      go_enter Tryd.func14, Tryd.ntmps14
      go_wp2
      go_ret
      exact ⟨rfl, rfl⟩
  · have h0' : n < 0 := by omega
    rw [plB_no (.inl h0')]
    go_enter Tryd.func14, Tryd.ntmps14
    go_wp2
    go_ret
    exact ⟨rfl, rfl⟩

theorem nil_size {s : ByteArray} (h : s.size = 0) : s = ⟨#[]⟩ := ByteArray.ext (Array.eq_empty_of_size_eq_zero (by simpa using h))
theorem list_size (s : ByteArray) : s.data.toList.length = s.size := by simp

set_option maxRecDepth 100000 in
set_option maxHeartbeats 1600000 in
theorem rright_one (a n : Int) (s : ByteArray) (hs : s.size ≤ 4294967296) (w : World) :
    Calls Tryd.prog 6 #[.agg #[.int .i64 1, .int .i64 a, .int .i64 n, .string s]] w fun e w' => e = .returned (.bool (rightB 1 a n s.data.toList)) ∧ Below w.heap.size w w' := by
  rw [right1, list_size]
  have hp := rplace_any a
  have hv := rvalid_any s hs
  obtain ⟨p, hp1⟩ : ∃ p, plB a = p := ⟨_, rfl⟩
  obtain ⟨v, hv1⟩ : ∃ v, vldB s.data.toList = v := ⟨_, rfl⟩
  rw [hp1] at hp ⊢
  rw [hv1] at hv ⊢
  have HP := Lib.hid hp; have HV := Lib.hid hv
  clear hp hv hp1 hv1
  by_cases n0 : n = 0
  · subst n0
    by_cases h5 : s.size ≤ 512
    · cases p <;>
      · go_enter Tryd.func6, Tryd.ntmps6
        go_wp2_with fail
        refine (HP.out _).mono ?_; rintro e w' ⟨rfl, rfl⟩
        go_wp2_with (go_at_call 15; refine (HV.out _).mono ?_; rintro e w' ⟨rfl, hb⟩)
        go_ret
        first | exact ⟨ret_bool (by simp [h5]), ((Below.refl _ _).alloc (Nat.le_refl _) _).trans (hb.mono (by simp))⟩ | exact ⟨ret_bool (by simp), (Below.refl _ _).alloc (Nat.le_refl _) _⟩
    · have h5' : 512 < s.size := by omega
      cases p <;>
      · go_enter Tryd.func6, Tryd.ntmps6
        go_wp2_with fail
        refine (HP.out _).mono ?_; rintro e w' ⟨rfl, rfl⟩
        go_wp2
        go_ret
        exact ⟨ret_bool (by simp; try omega), (Below.refl _ _).alloc (Nat.le_refl _) _⟩
  · cases p <;>
    · go_enter Tryd.func6, Tryd.ntmps6
      go_wp2_with fail
      refine (HP.out _).mono ?_; rintro e w' ⟨rfl, rfl⟩
      go_wp2
      go_ret
      exact ⟨ret_bool (by simp [n0]), (Below.refl _ _).alloc (Nat.le_refl _) _⟩

set_option maxRecDepth 100000 in
set_option maxHeartbeats 1600000 in
theorem rright_two (a n : Int) (s : ByteArray) (w : World) :
    Calls Tryd.prog 6 #[.agg #[.int .i64 2, .int .i64 a, .int .i64 n, .string s]] w fun e w' => e = .returned (.bool (rightB 2 a n s.data.toList)) ∧ Below w.heap.size w w' := by
  rw [right2, list_size]
  have hp := rplace_any a
  have hq := rplace_any n
  obtain ⟨p, hp1⟩ : ∃ p, plB a = p := ⟨_, rfl⟩
  obtain ⟨q, hq1⟩ : ∃ q, plB n = q := ⟨_, rfl⟩
  rw [hp1] at hp ⊢
  rw [hq1] at hq ⊢
  have HP := Lib.hid hp; have HQ := Lib.hid hq
  clear hp hq hp1 hq1
  have he := isEmpty_size s
  by_cases hz : s.size = 0
  · rw [nil_size hz]
    clear hz he
    cases p <;> cases q <;>
    · go_enter Tryd.func6, Tryd.ntmps6
      go_wp2_with fail
      refine (HP.out _).mono ?_; rintro e w' ⟨rfl, rfl⟩
      go_wp2_with (go_at_call 14; refine (HQ.out _).mono ?_; rintro e w' ⟨rfl, rfl⟩)
      go_ret
      exact ⟨ret_bool (by first | (simp; done) | (simp; rfl)), (Below.refl _ _).alloc (Nat.le_refl _) _⟩
  · rw [decide_eq_false hz] at he ⊢
    cases p <;> cases q <;>
    · go_enter Tryd.func6, Tryd.ntmps6
      go_wp2_with fail
      refine (HP.out _).mono ?_; rintro e w' ⟨rfl, rfl⟩
      go_wp2_with (go_at_call 14; refine (HQ.out _).mono ?_; rintro e w' ⟨rfl, rfl⟩)
      go_ret
      exact ⟨ret_bool (by first | (simp; done) | simp [he]), (Below.refl _ _).alloc (Nat.le_refl _) _⟩
set_option maxRecDepth 100000 in
set_option maxHeartbeats 1600000 in
theorem rright_three (a n : Int) (s : ByteArray) (hs : s.size ≤ 4294967296) (w : World) :
    Calls Tryd.prog 6 #[.agg #[.int .i64 3, .int .i64 a, .int .i64 n, .string s]] w fun e w' => e = .returned (.bool (rightB 3 a n s.data.toList)) ∧ Below w.heap.size w w' := by
  rw [right3]
  have hp := rplace_any a
  have hv := rmark_any s hs
  obtain ⟨p, hp1⟩ : ∃ p, plB a = p := ⟨_, rfl⟩
  obtain ⟨v, hv1⟩ : ∃ v, markB s.data.toList = v := ⟨_, rfl⟩
  rw [hp1] at hp ⊢
  rw [hv1] at hv ⊢
  have HP := Lib.hid hp; have HV := Lib.hid hv
  clear hp hv hp1 hv1
  by_cases n0 : n = 0
  · subst n0
    cases p <;>
    · go_enter Tryd.func6, Tryd.ntmps6
      go_wp2_with fail
      refine (HP.out _).mono ?_; rintro e w' ⟨rfl, rfl⟩
      go_wp2_with (go_at_call 10; refine (HV.out _).mono ?_; rintro e w' ⟨rfl, rfl⟩)
      go_ret
      exact ⟨ret_bool (by simp), (Below.refl _ _).alloc (Nat.le_refl _) _⟩
  · cases p <;>
    · go_enter Tryd.func6, Tryd.ntmps6
      go_wp2_with fail
      refine (HP.out _).mono ?_; rintro e w' ⟨rfl, rfl⟩
      go_wp2
      go_ret
      exact ⟨ret_bool (by simp [n0]), (Below.refl _ _).alloc (Nat.le_refl _) _⟩
set_option maxRecDepth 100000 in
set_option maxHeartbeats 1600000 in
theorem rright_four (a n : Int) (s : ByteArray) (hs : s.size ≤ 4294967296) (w : World) :
    Calls Tryd.prog 6 #[.agg #[.int .i64 4, .int .i64 a, .int .i64 n, .string s]] w fun e w' => e = .returned (.bool (rightB 4 a n s.data.toList)) ∧ Below w.heap.size w w' := by
  rw [right4]
  have hv := rmark_any s hs
  obtain ⟨v, hv1⟩ : ∃ v, markB s.data.toList = v := ⟨_, rfl⟩
  rw [hv1] at hv ⊢
  have HV := Lib.hid hv
  clear hv hv1
  by_cases a0 : a = 0
  · subst a0
    by_cases n0 : n = 0
    · subst n0
      go_enter Tryd.func6, Tryd.ntmps6
      go_wp2_with (go_at_call 10; refine (HV.out _).mono ?_; rintro e w' ⟨rfl, rfl⟩)
      go_ret
      exact ⟨ret_bool (by simp), (Below.refl _ _).alloc (Nat.le_refl _) _⟩
    · go_enter Tryd.func6, Tryd.ntmps6
      go_wp2
      go_ret
      exact ⟨ret_bool (by simp [n0]), (Below.refl _ _).alloc (Nat.le_refl _) _⟩
  · go_enter Tryd.func6, Tryd.ntmps6
    go_wp2
    go_ret
    exact ⟨ret_bool (by simp [a0]), (Below.refl _ _).alloc (Nat.le_refl _) _⟩
set_option maxRecDepth 100000 in
set_option maxHeartbeats 1600000 in
/-- The kinds that have nothing. -/
theorem rright_bare (k a n : Int) (hk : k = 5 ∨ k = 6 ∨ k = 7 ∨ k = 8) (s : ByteArray) (w : World) :
    Calls Tryd.prog 6 #[.agg #[.int .i64 k, .int .i64 a, .int .i64 n, .string s]] w fun e w' => e = .returned (.bool (rightB k a n s.data.toList)) ∧ Below w.heap.size w w' := by
  rw [right5 (by omega) (by omega), list_size]
  have he := isEmpty_size s
  by_cases a0 : a = 0
  · subst a0
    by_cases n0 : n = 0
    · subst n0
      by_cases hz : s.size = 0
      · rw [nil_size hz]
        clear hz he
        rcases hk with rfl | rfl | rfl | rfl <;>
        · go_enter Tryd.func6, Tryd.ntmps6
          go_wp2
          go_ret
          exact ⟨ret_bool (by first | (simp; done) | (simp; rfl)), (Below.refl _ _).alloc (Nat.le_refl _) _⟩
      · rw [decide_eq_false hz] at he ⊢
        rcases hk with rfl | rfl | rfl | rfl <;>
        · go_enter Tryd.func6, Tryd.ntmps6
          go_wp2
          go_ret
          exact ⟨ret_bool (by first | (simp; done) | simp [he]), (Below.refl _ _).alloc (Nat.le_refl _) _⟩
    · clear he
      rcases hk with rfl | rfl | rfl | rfl <;>
      · go_enter Tryd.func6, Tryd.ntmps6
        go_wp2
        go_ret
        exact ⟨ret_bool (by simp [n0]), (Below.refl _ _).alloc (Nat.le_refl _) _⟩
  · clear he
    rcases hk with rfl | rfl | rfl | rfl <;>
    · go_enter Tryd.func6, Tryd.ntmps6
      go_wp2
      go_ret
      exact ⟨ret_bool (by simp [a0]), (Below.refl _ _).alloc (Nat.le_refl _) _⟩
set_option maxRecDepth 100000 in
set_option maxHeartbeats 1600000 in
theorem rright_off (k a n : Int) (hk : k < 1 ∨ 8 < k) (s : ByteArray) (w : World) :
    Calls Tryd.prog 6 #[.agg #[.int .i64 k, .int .i64 a, .int .i64 n, .string s]] w fun e w' => e = .returned (.bool (rightB k a n s.data.toList)) ∧ Below w.heap.size w w' := by
  rw [right_off hk]
  have h1 : k ≠ 1 := by omega
  have h2 : k ≠ 2 := by omega
  have h3 : k ≠ 3 := by omega
  have h4 : k ≠ 4 := by omega
  have h5 : k ≠ 5 := by omega
  have h6 : k ≠ 6 := by omega
  have h7 : k ≠ 7 := by omega
  have h8 : k ≠ 8 := by omega
  clear hk
  go_enter Tryd.func6, Tryd.ntmps6
  go_wp2
  go_ret
  exact ⟨rfl, (Below.refl _ _).alloc (Nat.le_refl _) _⟩
/-- Right: which operations may be. -/
theorem rright_any (k a n : Int) (s : ByteArray) (hs : s.size ≤ 4294967296) (w : World) :
    Calls Tryd.prog 6 #[.agg #[.int .i64 k, .int .i64 a, .int .i64 n, .string s]] w fun e w' => e = .returned (.bool (rightB k a n s.data.toList)) ∧ Below w.heap.size w w' := by
  rcases opKinds k with rfl | rfl | rfl | rfl | g | g
  · exact rright_one a n s hs w
  · exact rright_two a n s w
  · exact rright_three a n s hs w
  · exact rright_four a n s hs w
  · exact rright_bare k a n (by omega) s w
  · exact rright_off k a n g s w
end Go.Proofs.YtlgdlkiekodocaaDoor
