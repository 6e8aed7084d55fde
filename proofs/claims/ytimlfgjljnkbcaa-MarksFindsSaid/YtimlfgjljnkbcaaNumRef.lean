/-
  Contracts of the document's numbers: get, Get16, Get32, Parse, Digits, put, Put16, Put32.
-/
import Derived.Test.YtimlfgjljnkbcaaRows
import Derived.Test.YtimlfgjljnkbcaaNumMath
import Derived.Test.YtimlfgjljnkbcaaConv
namespace Go.Proofs.Ytimlfgjljnkbcaa
open Go.RowKit

theorem allDig_take (l : List UInt8) (k : Nat) (h : k < l.length) : allDig (l.take (k + 1)) = (allDig (l.take k) && (decide (48 ≤ bt l k) && decide (bt l k ≤ 57))) := by
  rw [take_succ l k h, allDig_snoc]; rfl
theorem decN_take (l : List UInt8) (k : Nat) (h : k < l.length) : decN (l.take (k + 1)) = 10 * decN (l.take k) + (bt l k - 48) := by
  rw [take_succ l k h, decN_snoc]; rfl
theorem allDig_off (l : List UInt8) (k : Nat) (h : k < l.length) (g : ¬ (48 ≤ bt l k ∧ bt l k ≤ 57)) : allDig l = false := by
  have h1 := allDig_take l k h
  have h2 : (decide (48 ≤ bt l k) && decide (bt l k ≤ 57)) = false := by simp; omega
  rw [h2, Bool.and_false] at h1
  have h3 : l = l.take (k + 1) ++ l.drop (k + 1) := (List.take_append_drop _ _).symm
  rw [h3, allDig_app, h1, Bool.false_and]

theorem app_mk (x : Int) (t : ByteArray) : (strOfNums [x] ++ t).data.toList = UInt8.ofNat x.toNat :: t.data.toList := by
  rw [app_list]; rfl
theorem str_nil (l : List UInt8) : (⟨l.toArray⟩ : ByteArray).data.toList = l := by simp

theorem u64_wrap (n : Int) : IntKind.u64.wrap n = ((u64 n : Nat) : Int) := by
  rw [IntKind.wrap_u64]; unfold u64; omega
theorem u64_lt (n : Int) : u64 n < 18446744073709551616 := by unfold u64; omega
theorem uint8_info : (Try.prog.info? 5).map (fun i => (i.zero, i.size, i.bytes)) = some (some (.int .u8 0), 1, 1) := by kernel_rfl

end Go.Proofs.Ytimlfgjljnkbcaa
