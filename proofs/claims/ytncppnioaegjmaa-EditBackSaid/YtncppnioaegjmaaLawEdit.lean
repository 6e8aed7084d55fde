/-
  The laws on edits: lives, EditApplies, EditShifts.
-/
import Derived.Test.YtncppnioaegjmaaEditDev2
import Derived.Test.YtncppnioaegjmaaEditRef
import Derived.Test.YtncppnioaegjmaaOpenEd
namespace Go.Proofs.Ytncppnioaegjmaa
open Go.RowKit
set_option linter.unusedVariables false

theorem live_app21 : appE ⟨#[97, 98]⟩ 1 ⟨#[98]⟩ ⟨#[99, 100]⟩ = (⟨#[97, 99, 100]⟩, 0) := by decide +kernel
theorem live_shift21 : shiftI 1 (⟨#[98]⟩ : ByteArray).size (⟨#[]⟩ : ByteArray).size 2 = 1 := by decide +kernel

set_option maxRecDepth 100000 in
set_option maxHeartbeats 800000 in
theorem lives21_any (w : World) : Calls Try.prog 6 #[] w fun e w' => e = .returned (.bool true) ∧ Below w.heap.size w w' := by
  have c1 := apply_any ⟨#[97, 98]⟩ ⟨#[98]⟩ ⟨#[99, 100]⟩ (by decide) (by decide) (by decide) 1
  rw [live_app21] at c1
  have c2 := shift_any 1 2 ⟨#[98]⟩ ⟨#[]⟩ (by decide) (by decide) (by decide) (by decide)
  rw [live_shift21] at c2
  have C1 := Lib.hid c1; have C2 := Lib.hid c2
  clear c1 c2
  go_enter Try.func6, Try.ntmps6
  go_wp2_with fail
  refine (C1.out _).mono ?_; rintro e w1 ⟨rfl, hb1⟩
  go_wp2_with fail
  refine (C2.out _).mono ?_; rintro e w2 ⟨rfl, hb2⟩
  go_wp2
  go_ret
  exact ⟨rfl, hb1.trans (hb2.mono hb1.size)⟩

set_option maxRecDepth 100000 in
set_option maxHeartbeats 1600000 in
theorem editApplies_walk (t : ByteArray) (x : Edt) (w : World) (ht : t.size ≤ maxLen) (fx : x.fits) :
    Calls Try.prog 3 #[.string t, x.v] w fun e w' => e = .returned (.bool true) ∧ Below w.heap.size w w' := by
  obtain ⟨p, o, n⟩ := x
  obtain ⟨-, ho, hn⟩ := fx
  have ho : o.size ≤ maxLen := ho
  have hn : n.size ≤ maxLen := hn
  show Calls Try.prog 3 #[.string t, edV p o n] w _
  unfold maxLen at ht ho hn
  have HE := Lib.hid (Ed.new w p o n)
  by_cases h1 : 5000 < t.size ∨ 1000 < o.size ∨ 1000 < n.size
  · rcases (show 5000 < t.size ∨ (t.size ≤ 5000 ∧ 1000 < o.size) ∨ (t.size ≤ 5000 ∧ o.size ≤ 1000 ∧ 1000 < n.size) by omega) with h | ⟨h, h2⟩ | ⟨h, h2, h3⟩
    all_goals
      clear h1
      go_enter Try.func3, Try.ntmps3
      go_wp2_with fail
      refine (lives21_any _).mono ?_; rintro e w1 ⟨rfl, hb1⟩
      go_wp2
      go_ret
      exact ⟨rfl, box_on hb1⟩
  obtain ⟨b1, b2, b3⟩ : t.size ≤ 5000 ∧ o.size ≤ 1000 ∧ n.size ≤ 1000 := by omega
  clear h1 ht ho hn
  have c1 := apply_any t o n (by omega) (by omega) (by omega) p
  have c2 := rapply_any t o n (by omega) (by omega) (by omega) p
  have c3 := right_any t o n (by omega) (by omega) (by omega) p
  have c4 := inverse_any p o n
  have c5 := rinverse_any p o n
  obtain ⟨⟨s, r⟩, hr⟩ : ∃ x, appE t p o n = x := ⟨_, rfl⟩
  rw [hr] at c1 c2 c3
  have C1 := Lib.hid c1; have C2 := Lib.hid c2; have C3 := Lib.hid c3; have C4 := Lib.hid c4; have C5 := Lib.hid c5
  clear c1 c2 c3 c4 c5 hr
  go_enter Try.func3, Try.ntmps3
  go_wp2_with fail
  refine (C1.out _).mono ?_; rintro e w1 ⟨rfl, hb1⟩
  have HE1 := Lib.hid (HE.out.on hb1)
  obtain ⟨-, -, k0, k1, k2⟩ := HE1.out
  clear hb1
  go_wp2_with fail
  refine (C2.out _).mono ?_; rintro e w2 ⟨rfl, hb2⟩
  have HE2 := Lib.hid (HE1.out.on hb2)
  obtain ⟨-, -, k0, k1, k2⟩ := HE2.out
  clear hb2
  go_wp2_with fail
  go_region_held3 (fun w' => Below w.heap.size w w' ∧ w.heap.size + 1 ≤ w'.heap.size ∧ w'.cell? ⟨w.heap.size, 0, none⟩ = some (.int .i64 p) ∧ w'.cell? ⟨w.heap.size, 1, none⟩ = some (.string o) ∧ w'.cell? ⟨w.heap.size, 2, none⟩ = some (.string n))
    (first | exact HE2.out.drew | exact Ed.on (by assumption) hb1)
    (first
      | (go_at_call 9; refine (C3.out _).mono ?_; rintro e w1 ⟨rfl, hb1⟩)
      | (go_at_call 10; refine (C4.out _).mono ?_; rintro e w1 ⟨rfl, hb1⟩)
      | (go_at_call 11; refine (C5.out _).mono ?_; rintro e w1 ⟨rfl, hb1⟩)
      | (go_at_call 6; refine (lives21_any _).mono ?_; rintro e w1 ⟨rfl, hb1⟩))
  go_wp2
  go_ret
  exact ⟨by simp, (show Ed w p o n _ by assumption).1⟩

set_option maxRecDepth 100000 in
set_option maxHeartbeats 1600000 in
theorem editShifts_walk (x : Edt) (a : Int) (w : World) (fx : x.fits) (fa : (Lit.int .i64 a).wf = true) :
    Calls Try.prog 4 #[x.v, .int .i64 a] w fun e w' => e = .returned (.bool true) ∧ Below w.heap.size w w' := by
  obtain ⟨p, o, n⟩ := x
  obtain ⟨-, ho, hn⟩ := fx
  have ho : o.size ≤ maxLen := ho
  have hn : n.size ≤ maxLen := hn
  show Calls Try.prog 4 #[edV p o n, .int .i64 a] w _
  unfold maxLen at ho hn
  clear fa
  have HE := Lib.hid (Ed.new w p o n)
  by_cases h1 : p < 0 ∨ 10000 < p ∨ a < 0 ∨ 10000 < a ∨ 1000 < o.size ∨ 1000 < n.size
  · go_enter Try.func4, Try.ntmps4
    go_wp2_with fail
    all_goals
      refine (lives21_any _).mono ?_; rintro e w1 ⟨rfl, hb1⟩
      go_wp2
      go_ret
      exact ⟨rfl, box_on hb1⟩
  obtain ⟨b1, b2, b3, b4, b5, b6⟩ : 0 ≤ p ∧ p ≤ 10000 ∧ 0 ≤ a ∧ a ≤ 10000 ∧ o.size ≤ 1000 ∧ n.size ≤ 1000 := by omega
  clear h1 ho hn
  have c1 := shift_any p a o n (by omega) (by omega) (by omega) (by omega)
  have c2 := rshift_any p a o n (by omega) (by omega) (by omega) (by omega)
  obtain ⟨r, hr⟩ : ∃ x, shiftI p o.size n.size a = x := ⟨_, rfl⟩
  rw [hr] at c1 c2
  have C1 := Lib.hid c1; have C2 := Lib.hid c2
  clear c1 c2 hr
  go_enter Try.func4, Try.ntmps4
  go_wp2_with fail
  go_region_held3 (fun w' => Below w.heap.size w w' ∧ w.heap.size + 1 ≤ w'.heap.size ∧ w'.cell? ⟨w.heap.size, 0, none⟩ = some (.int .i64 p) ∧ w'.cell? ⟨w.heap.size, 1, none⟩ = some (.string o) ∧ w'.cell? ⟨w.heap.size, 2, none⟩ = some (.string n))
    (first | exact HE.out.drew | exact Ed.on (by assumption) hb1)
    (first
      | (go_at_call 12; refine (C1.out _).mono ?_; rintro e w1 ⟨rfl, hb1⟩)
      | (go_at_call 13; refine (C2.out _).mono ?_; rintro e w1 ⟨rfl, hb1⟩)
      | (go_at_call 6; refine (lives21_any _).mono ?_; rintro e w1 ⟨rfl, hb1⟩))
  go_wp2
  go_ret
  exact ⟨by simp, (show Ed w p o n _ by assumption).1⟩
end Go.Proofs.Ytncppnioaegjmaa
