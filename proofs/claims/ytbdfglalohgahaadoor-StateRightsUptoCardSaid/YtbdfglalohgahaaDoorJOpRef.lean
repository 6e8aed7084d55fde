/-
  Joined: OpRef, OpRef2.
-/
import Derived.Test.YtbdfglalohgahaaDoorJUtfRTake
import Derived.Test.YtbdfglalohgahaaDoorJUtfLeaf
import Derived.Test.YtbdfglalohgahaaDoorBlk
namespace Go.Proofs.YtbdfglalohgahaaDoor
open Go.RowKit

set_option maxRecDepth 100000 in
set_option maxHeartbeats 400000 in
theorem rmark_any (s : ByteArray) (hs : s.size ≤ 4294967296) (w : World) :
    Calls Tryd.prog 60 #[.string s] w fun e w' => e = .returned (.bool (markB s.data.toList)) ∧ w = w' := by
  obtain ⟨r, hr⟩ : ∃ r, markB s.data.toList = r := ⟨_, rfl⟩
  rw [hr]
  have HR := Lib.hid hr; clear hr
  go_enter Tryd.func60, Tryd.ntmps60
  go_wp2
  go_loop [3] (fun i => ∃ k : Nat, k ≤ s.size ∧ i = .int .i64 k ∧ (s.data.toList.take k).all letB = true) (fun i => s.size - (intOf i).toNat)
  case atStart => exact ⟨0, Nat.zero_le _, rfl, rfl⟩
  case round =>
    obtain ⟨k, hk, rfl, hall⟩ := hrel
    have HA := Lib.hid hall; clear hall
    by_cases hlt : k < s.size
    · have hb255 := s[k].toNat_lt
      by_cases g1 : 97 ≤ s[k].toNat
      · by_cases g2 : s[k].toNat ≤ 122
        · have h2 := Lib.hid (may_snoc hlt HA.out g1 g2)
          go_wp2
          go_round
          case rel => exact ⟨k + 1, by omega, by go_num, h2.out⟩
          case measure => simp [intOf]; omega
        · have h2 := Lib.hid (may_off hlt (.inr (by omega)))
          have g2' : 122 < s[k].toNat := by omega
          go_wp2
          go_ret
          exact ⟨ret_bool (by rw [← HR.out, h2.out]), rfl⟩
      · have h2 := Lib.hid (may_off hlt (.inl (by omega)))
        have g1' : s[k].toNat < 97 := by omega
        go_wp2
        go_ret
        exact ⟨ret_bool (by rw [← HR.out, h2.out]), rfl⟩
    · obtain rfl : k = s.size := by omega
      have h2 := Lib.hid (may_end HA.out)
      by_cases z1 : 1 ≤ s.size
      · by_cases z2 : s.size ≤ 8
        · have z0 : 0 < s.size := by omega
          go_wp2
          go_ret
          exact ⟨ret_bool (by rw [← HR.out, h2.out, decide_eq_true z1, Bool.true_and]; exact decide_eq_decide.2 (by omega)), rfl⟩
        · have z0 : 0 < s.size := by omega
          have z3 : 8 < s.size := by omega
          go_wp2
          go_ret
          exact ⟨ret_bool (by rw [← HR.out, h2.out, decide_eq_true z1, Bool.true_and]; exact decide_eq_decide.2 (by omega)), rfl⟩
      · have z0 : s.size = 0 := by omega
        have z3 : s.size < 1 := by omega
        go_wp2
        go_ret
        exact ⟨ret_bool (by rw [← HR.out, h2.out, decide_eq_false z1, Bool.false_and]), rfl⟩

theorem nil_size {s : ByteArray} (h : s.size = 0) : s = ⟨#[]⟩ := ByteArray.ext (Array.eq_empty_of_size_eq_zero (by simpa using h))
theorem list_size (s : ByteArray) : s.data.toList.length = s.size := by simp

end Go.Proofs.YtbdfglalohgahaaDoor
namespace Go.Proofs.YtbdfglalohgahaaDoor
open Go.RowKit

theorem body_size (k a n : Int) (s : ByteArray) : (bodyL k a n s.data.toList).length ≤ s.size + 9 := by
  unfold bodyL
  have h1 := leL_length (u64 a) 4
  have h2 := leL_length (u64 n) 4
  split <;> split <;> simp [h1, h2] <;> omega
theorem body_low {k a n : Int} (s : ByteArray) (h : k ≤ 3) (h2 : k ≠ 2) : bodyL k a n s.data.toList = UInt8.ofNat (k % 256).toNat :: (leL (u64 a) 4 ++ s.data.toList) := by
  unfold bodyL; rw [if_pos h, if_neg h2]; rfl
theorem body_two (a n : Int) (s : ByteArray) : bodyL 2 a n s.data.toList = UInt8.ofNat ((2 : Int) % 256).toNat :: (leL (u64 a) 4 ++ (leL (u64 n) 4 ++ s.data.toList)) := rfl
theorem body_high {k a n : Int} (s : ByteArray) (h : 3 < k) : bodyL k a n s.data.toList = UInt8.ofNat (k % 256).toNat :: s.data.toList := by
  unfold bodyL; rw [if_neg (by omega), if_neg (by omega)]; rfl
theorem mk_list (l : List UInt8) : (⟨l.toArray⟩ : ByteArray).data.toList = l := by simp
theorem leL4_size (u : Nat) : (⟨(leL u 4).toArray⟩ : ByteArray).size = 4 := by show (leL u 4).toArray.size = 4; simp [leL_length]

theorem conv_one (x : Int) (W : World) (b : Nat) (hb : W.heap.size = b) :
    (convert 49 9 (.slice (some ⟨b, 0, none⟩) 1 1)).run Tryd.prog (W.alloc (.cells #[.int .u8 x] 5)) = .ok (.string (strOfNums [x])) (W.alloc (.cells #[.int .u8 x] 5)) := by
  subst hb
  exact conv_row [x] 1 rfl W
theorem one_list (x : Int) : (strOfNums [x]).data.toList = [UInt8.ofNat x.toNat] := rfl

/-- What Bytes answers. -/
def bytesR (k a n : Int) (s : ByteArray) : ByteArray × Int := if rightB k a n s.data.toList = true then (⟨(bodyL k a n s.data.toList).toArray⟩, 0) else (⟨#[]⟩, 2)

end Go.Proofs.YtbdfglalohgahaaDoor
