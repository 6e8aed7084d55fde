/-
  Contract of 'lives', which each law of layer 1 asks besides: it is true.
-/
import Derived.Test.YtncnincmcgiefaaUtfEdge
namespace Go.Proofs.Ytncnincmcgiefaa
open Go.RowKit

theorem euro : putS 8364 = ⟨#[226, 130, 172]⟩ := by decide +kernel
theorem euro_take : takeI (⟨#[226, 130, 172]⟩ : ByteArray).data.toList 0 = (8364, 3) := by decide +kernel
theorem euro_edge : ¬ edge (⟨#[226, 130, 172]⟩ : ByteArray).data.toList 1 := by decide +kernel

set_option maxRecDepth 100000 in
theorem lives_any (w : World) : Calls Try.prog 11 #[] w fun e w' => e = .returned (.bool true) ∧ w = w' := by
  have hp := put_any 8364
  rw [euro] at hp
  have HP := Lib.hid hp; clear hp
  have ht := take_any ⟨#[226, 130, 172]⟩ (by decide +kernel) 0
  rw [euro_take] at ht
  have HT := Lib.hid ht; clear ht
  have he := edge_no ⟨#[226, 130, 172]⟩ (by decide +kernel) 1 (by decide +kernel) euro_edge
  have HE := Lib.hid he; clear he
  go_enter Try.func11, Try.ntmps11
  go_wp2_with (first | (go_at_call 8; refine (HP.out _).mono ?_; rintro e w' ⟨rfl, rfl⟩) | (go_at_call 10; refine (HT.out _).mono ?_; rintro e w' ⟨rfl, rfl⟩) | (go_at_call 21; refine (HE.out _).mono ?_; rintro e w' ⟨rfl, rfl⟩))
  go_ret
  exact ⟨by simp, rfl⟩
end Go.Proofs.Ytncnincmcgiefaa
