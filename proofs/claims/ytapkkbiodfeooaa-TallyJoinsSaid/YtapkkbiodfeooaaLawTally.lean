/-
  The walks of the laws TallyOfs and TallyJoins.
-/
import Derived.Test.YtapkkbiodfeooaaTallyAdd
namespace Go.Proofs.Ytapkkbiodfeooaa
open Go.RowKit

theorem aline : runes (⟨#[97, 10]⟩ : ByteArray).data.toList = 2 ∧ lines (⟨#[97, 10]⟩ : ByteArray).data.toList = 1 := by decide +kernel
set_option maxRecDepth 100000 in
set_option maxHeartbeats 400000 in
theorem lives4_any (w : World) : Calls Try.prog 6 #[] w fun e w' => e = .returned (.bool true) ∧ Below w.heap.size w w' := by
  have hp := tof_any ⟨#[97, 10]⟩ (by decide +kernel)
  rw [aline.1, aline.2] at hp
  have HP := Lib.hid hp; clear hp
  go_enter Try.func6, Try.ntmps6
  go_wp2_with fail
  refine (HP.out _).mono ?_
  rintro e w' ⟨rfl, hb⟩
  go_wp2
  go_ret
  exact ⟨by simp, by assumption⟩

set_option maxRecDepth 100000 in
set_option maxHeartbeats 400000 in
theorem tallyOfs_walk (s : ByteArray) (p : Int) (w0 : s.size ≤ maxLen) (_w1 : (Lit.int .i64 p).wf = true) (w : World) :
    Calls Try.prog 3 #[.string s, .int .i64 p] w fun e w' => e = .returned (.bool true) ∧ Below w.heap.size w w' := by
  by_cases hl : s.size ≤ 400
  · have c1 := tof_any s w0
    have c2 := rtof_any s w0
    have c3 := thead_any s w0 p
    have c4 := rthead_any s w0 p
    clear w0 _w1
    obtain ⟨b1, h1⟩ : ∃ b : Int, (s.size : Int) = b := ⟨_, rfl⟩
    obtain ⟨x1, h2⟩ : ∃ x, runes s.data.toList = x := ⟨_, rfl⟩
    obtain ⟨y1, h3⟩ : ∃ y, lines s.data.toList = y := ⟨_, rfl⟩
    obtain ⟨b2, h4⟩ : ∃ b : Int, ((headS s p).size : Int) = b := ⟨_, rfl⟩
    obtain ⟨x2, h5⟩ : ∃ x, runes (headS s p).data.toList = x := ⟨_, rfl⟩
    obtain ⟨y2, h6⟩ : ∃ y, lines (headS s p).data.toList = y := ⟨_, rfl⟩
    rw [h1, h2, h3] at c1 c2
    rw [h4, h5, h6] at c3 c4
    have C1 := Lib.hid c1; have C2 := Lib.hid c2; have C3 := Lib.hid c3; have C4 := Lib.hid c4
    clear c1 c2 c3 c4 h1 h2 h3 h4 h5 h6
    have hb0 := Below.refl w.heap.size w
    go_enter Try.func3, Try.ntmps3
    go_wp2_with fail
    refine (onward (w0 := w) hb0 (C1.out _)).mono ?_; rintro e w1 ⟨rfl, hb1⟩
    go_wp2_with fail
    refine (onward (w0 := w) hb1 (C2.out _)).mono ?_; rintro e w2 ⟨rfl, hb2⟩
    go_wp2_with fail
    refine (onward (w0 := w) hb2 (C3.out _)).mono ?_; rintro e w3 ⟨rfl, hb3⟩
    go_wp2_with fail
    refine (onward (w0 := w) hb3 (C4.out _)).mono ?_; rintro e w4 ⟨rfl, hb4⟩
    go_wp2_with fail
    refine (onward (w0 := w) hb4 (lives4_any _)).mono ?_; rintro e w5 ⟨rfl, hb5⟩
    go_wp2
    go_ret
    exact ⟨by simp, hb5⟩
  · have hg : 400 < s.size := by omega
    clear hl w0
    go_enter Try.func3, Try.ntmps3
    go_wp2_with fail
    refine (lives4_any _).mono ?_; rintro e w1 ⟨rfl, hb1⟩
    go_wp2
    go_ret
    exact ⟨rfl, hb1⟩
end Go.Proofs.Ytapkkbiodfeooaa
