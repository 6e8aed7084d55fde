/-
  The walk of the law UtfTexts: where any bytes are no runes, and how many of them begin something, or end a line, is told as the page says.
-/
import Derived.Test.YtncnincmcgiefaaUtfCount
namespace Go.Proofs.Ytncnincmcgiefaa
open Go.RowKit

set_option maxRecDepth 100000 in
set_option maxHeartbeats 400000 in
theorem utfTexts_walk (s : ByteArray) (w0 : s.size ≤ maxLen) (w : World) :
    Calls Try.prog 5 #[.string s] w fun e w' => e = .returned (.bool true) ∧ Below w.heap.size w w' := by
  by_cases hl : s.size ≤ 400
  · have c1 := bad_any s w0
    have c2 := rbad_any s (by omega)
    have c3 := valid_any s w0
    have c4 := rvalid_any s (by omega)
    have c5 := runes_any s w0
    have c6 := rrunes_any s w0
    have c7 := lines_any s w0
    have c8 := rlines_any s w0
    obtain ⟨x1, h1⟩ : ∃ x, bad s.data.toList = x := ⟨_, rfl⟩
    obtain ⟨x2, h2⟩ : ∃ x, vldB s.data.toList = x := ⟨_, rfl⟩
    obtain ⟨x3, h3⟩ : ∃ x, runes s.data.toList = x := ⟨_, rfl⟩
    obtain ⟨x4, h4⟩ : ∃ x, lines s.data.toList = x := ⟨_, rfl⟩
    rw [h1] at c1 c2
    rw [h2] at c3 c4
    rw [h3] at c5 c6
    rw [h4] at c7 c8
    have C1 := Lib.hid c1; have C2 := Lib.hid c2; have C3 := Lib.hid c3; have C4 := Lib.hid c4; have C5 := Lib.hid c5; have C6 := Lib.hid c6; have C7 := Lib.hid c7; have C8 := Lib.hid c8
    clear c1 c2 c3 c4 c5 c6 c7 c8 h1 h2 h3 h4 w0
    have hb0 := Below.refl w.heap.size w
    go_enter Try.func5, Try.ntmps5
    go_wp2_with (first | (go_at_call 13; refine (onward (w0 := w) ?_ (C1.out _)).mono ?_; assumption; rintro e w' ⟨rfl, hb⟩) | (go_at_call 14; refine (onward (w0 := w) ?_ (C2.out _)).mono ?_; assumption; rintro e w' ⟨rfl, hb⟩) | (go_at_call 15; refine (onward (w0 := w) ?_ (C3.out _)).mono ?_; assumption; rintro e w' ⟨rfl, hb⟩) | (go_at_call 16; refine (onward (w0 := w) ?_ (C4.out _)).mono ?_; assumption; rintro e w' ⟨rfl, hb⟩) | (go_at_call 17; refine (onward (w0 := w) ?_ (C5.out _)).mono ?_; assumption; rintro e w' ⟨rfl, hb⟩) | (go_at_call 18; refine (C6.out _).mono ?_; rintro e w' ⟨rfl, rfl⟩) | (go_at_call 19; refine (onward (w0 := w) ?_ (C7.out _)).mono ?_; assumption; rintro e w' ⟨rfl, hb⟩) | (go_at_call 20; refine (C8.out _).mono ?_; rintro e w' ⟨rfl, rfl⟩) | (go_at_call 11; refine (lives_any _).mono ?_; rintro e w' ⟨rfl, rfl⟩))
    go_ret
    exact ⟨by simp, by assumption⟩
  · have hg : 400 < s.size := by omega
    clear hl w0
    go_enter Try.func5, Try.ntmps5
    go_wp2_with (go_at_call 11; refine (lives_any _).mono ?_; rintro e w' ⟨rfl, rfl⟩)
    go_ret
    exact ⟨rfl, Below.refl _ _⟩
end Go.Proofs.Ytncnincmcgiefaa
