/-
  The document's bytes of an operation.
-/
import Derived.Test.YtimlfgjljnkbcaaOpRef
namespace Go.Proofs.Ytimlfgjljnkbcaa
open Go.RowKit

theorem body_size (k a n : Int) (s : ByteArray) : (bodyL k a n s.data.toList).length ≤ s.size + 9 := by
  unfold bodyL
  have h1 := leL_length (u64 a) 4
  have h2 := leL_length (u64 n) 4
  split <;> split <;> simp [h1, h2] <;> omega
theorem body_low {k a n : Int} (s : ByteArray) (h : k ≤ 3) (h2 : k ≠ 2) : bodyL k a n s.data.toList = UInt8.ofNat (k % 256).toNat :: (leL (u64 a) 4 ++ s.data.toList) := by
  unfold bodyL; rw [if_pos h, if_neg h2]; rfl
theorem body_two (a n : Int) (s : ByteArray) : bodyL 2 a n s.data.toList = UInt8.ofNat ((2 : Int) % 256).toNat :: (leL (u64 a) 4 ++ (leL (u64 n) 4 ++ s.data.toList)) := rfl
theorem body_high {k a n : Int} (s : ByteArray) (h : 3 < k) : bodyL k a n s.data.toList = UInt8.ofNat (k % 256).toNat :: s.data.toList := by
  unfold bodyL; rw [if_neg (by omega), if_neg (by omega)]; rfl
theorem mk_list (l : List UInt8) : (⟨l.toArray⟩ : ByteArray).data.toList = l := by simp
theorem leL4_size (u : Nat) : (⟨(leL u 4).toArray⟩ : ByteArray).size = 4 := by show (leL u 4).toArray.size = 4; simp [leL_length]

theorem conv_one (x : Int) (W : World) (b : Nat) (hb : W.heap.size = b) :
    (convert 75 9 (.slice (some ⟨b, 0, none⟩) 1 1)).run Try.prog (W.alloc (.cells #[.int .u8 x] 5)) = .ok (.string (strOfNums [x])) (W.alloc (.cells #[.int .u8 x] 5)) := by
  subst hb
  exact conv_row [x] 1 rfl W
theorem one_list (x : Int) : (strOfNums [x]).data.toList = [UInt8.ofNat x.toNat] := rfl

/-- What Bytes answers. -/
def bytesR (k a n : Int) (s : ByteArray) : ByteArray × Int := if rightB k a n s.data.toList = true then (⟨(bodyL k a n s.data.toList).toArray⟩, 0) else (⟨#[]⟩, 2)

end Go.Proofs.Ytimlfgjljnkbcaa
