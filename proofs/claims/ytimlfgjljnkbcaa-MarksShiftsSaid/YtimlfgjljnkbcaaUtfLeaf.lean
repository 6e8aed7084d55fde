/-
  Contracts of the leaves of layer 1: utf.size, utf.Put, utf.lead, utf.goesOn, and the document's ok, octets, on.
-/
import Derived.Test.YtimlfgjljnkbcaaRows
import Derived.Test.YtimlfgjljnkbcaaCommon
namespace Go.Proofs.Ytimlfgjljnkbcaa
open Go.RowKit

theorem goesOn_yes (b : Nat) (h1 : 128 ≤ b) (h2 : b ≤ 191) (w : World) :
    Calls Try.prog 46 #[.int .u8 b] w fun e w' => e = .returned (.bool true) ∧ w = w' := by
  go_enter Try.func46, Try.ntmps46
  go_wp2
  go_ret
  exact ⟨by simp; omega, rfl⟩
theorem goesOn_no (b : Nat) (h : ¬ (128 ≤ b ∧ b ≤ 191)) (w : World) :
    Calls Try.prog 46 #[.int .u8 b] w fun e w' => e = .returned (.bool false) ∧ w = w' := by
  by_cases h1 : 128 ≤ b
  · have h2 : ¬ b ≤ 191 := by omega
    clear h
    go_enter Try.func46, Try.ntmps46
    go_wp2
    go_ret
    exact ⟨by simp; omega, rfl⟩
  · clear h
    go_enter Try.func46, Try.ntmps46
    go_wp2
    go_ret
    exact ⟨rfl, rfl⟩
theorem on_yes (b : Nat) (h1 : 128 ≤ b) (h2 : b ≤ 191) (w : World) :
    Calls Try.prog 47 #[.int .u8 b] w fun e w' => e = .returned (.bool true) ∧ w = w' := by
  go_enter Try.func47, Try.ntmps47
  go_wp2
  go_ret
  exact ⟨by simp; omega, rfl⟩
theorem on_no (b : Nat) (h : ¬ (128 ≤ b ∧ b ≤ 191)) (w : World) :
    Calls Try.prog 47 #[.int .u8 b] w fun e w' => e = .returned (.bool false) ∧ w = w' := by
  by_cases h1 : 128 ≤ b
  · have h2 : ¬ b ≤ 191 := by omega
    clear h
    go_enter Try.func47, Try.ntmps47
    go_wp2
    go_ret
    exact ⟨by simp; omega, rfl⟩
  · clear h
    go_enter Try.func47, Try.ntmps47
    go_wp2
    go_ret
    exact ⟨rfl, rfl⟩

end Go.Proofs.Ytimlfgjljnkbcaa
