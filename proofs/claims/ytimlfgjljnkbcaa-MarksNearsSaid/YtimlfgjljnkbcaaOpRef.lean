/-
  The document's operations: its names of marks, its places, which operations are right.
-/
import Derived.Test.YtimlfgjljnkbcaaOpMath
import Derived.Test.YtimlfgjljnkbcaaNumRef
import Derived.Test.YtimlfgjljnkbcaaBlk
namespace Go.Proofs.Ytimlfgjljnkbcaa
open Go.RowKit

set_option maxRecDepth 100000 in
set_option maxHeartbeats 400000 in
theorem rmark_any (s : ByteArray) (hs : s.size ≤ 4294967296) (w : World) :
    Calls Try.prog 31 #[.string s] w fun e w' => e = .returned (.bool (markB s.data.toList)) ∧ w = w' := by
  obtain ⟨r, hr⟩ : ∃ r, markB s.data.toList = r := ⟨_, rfl⟩
  rw [hr]
  have HR := Lib.hid hr; clear hr
  go_enter Try.func31, Try.ntmps31
  go_wp2
  go_loop [3] (fun i => ∃ k : Nat, k ≤ s.size ∧ i = .int .i64 k ∧ (s.data.toList.take k).all letB = true) (fun i => s.size - (intOf i).toNat)
  case atStart => exact ⟨0, Nat.zero_le _, rfl, rfl⟩
  case round =>
    obtain ⟨k, hk, rfl, hall⟩ := hrel
    have HA := Lib.hid hall; clear hall
    by_cases hlt : k < s.size
    · have hb255 := s[k].toNat_lt
      by_cases g1 : 97 ≤ s[k].toNat
      · by_cases g2 : s[k].toNat ≤ 122
        · have h2 := Lib.hid (may_snoc hlt HA.out g1 g2)
          go_wp2
          go_round
          case rel => exact ⟨k + 1, by omega, by go_num, h2.out⟩
          case measure => simp [intOf]; omega
        · have h2 := Lib.hid (may_off hlt (.inr (by omega)))
          have g2' : 122 < s[k].toNat := by omega
          go_wp2
          go_ret
          exact ⟨ret_bool (by rw [← HR.out, h2.out]), rfl⟩
      · have h2 := Lib.hid (may_off hlt (.inl (by omega)))
        have g1' : s[k].toNat < 97 := by omega
        go_wp2
        go_ret
        exact ⟨ret_bool (by rw [← HR.out, h2.out]), rfl⟩
    · obtain rfl : k = s.size := by omega
      have h2 := Lib.hid (may_end HA.out)
      by_cases z1 : 1 ≤ s.size
      · by_cases z2 : s.size ≤ 8
        · have z0 : 0 < s.size := by omega
          go_wp2
          go_ret
          exact ⟨ret_bool (by rw [← HR.out, h2.out, decide_eq_true z1, Bool.true_and]; exact decide_eq_decide.2 (by omega)), rfl⟩
        · have z0 : 0 < s.size := by omega
          have z3 : 8 < s.size := by omega
          go_wp2
          go_ret
          exact ⟨ret_bool (by rw [← HR.out, h2.out, decide_eq_true z1, Bool.true_and]; exact decide_eq_decide.2 (by omega)), rfl⟩
      · have z0 : s.size = 0 := by omega
        have z3 : s.size < 1 := by omega
        go_wp2
        go_ret
        exact ⟨ret_bool (by rw [← HR.out, h2.out, decide_eq_false z1, Bool.false_and]), rfl⟩

theorem nil_size {s : ByteArray} (h : s.size = 0) : s = ⟨#[]⟩ := ByteArray.ext (Array.eq_empty_of_size_eq_zero (by simpa using h))
theorem list_size (s : ByteArray) : s.data.toList.length = s.size := by simp

end Go.Proofs.Ytimlfgjljnkbcaa
