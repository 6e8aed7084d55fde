/-
  The walk of the law UtfEdges: which places of any bytes are edges, and the greatest one up to any place, is told as the page says.
-/
import Derived.Test.YtncnincmcgiefaaUtfBack
namespace Go.Proofs.Ytncnincmcgiefaa
open Go.RowKit

set_option maxRecDepth 100000 in
set_option maxHeartbeats 400000 in
theorem utfEdges_walk (s : ByteArray) (p : Int) (w0 : s.size ≤ maxLen) (_w1 : (Lit.int .i64 p).wf = true) (w : World) :
    Calls Try.prog 6 #[.string s, .int .i64 p] w fun e w' => e = .returned (.bool true) ∧ Below w.heap.size w w' := by
  by_cases hl : s.size ≤ 400
  · have HM := Lib.hid w0; clear w0
    have ea := edge_any s HM.out p
    have eb := redge_any s HM.out p
    have ba := back_any s HM.out p
    have bb := rback_any s (by omega) p
    obtain ⟨x, hx⟩ : ∃ x, edgeB s.data.toList p = x := ⟨_, rfl⟩
    obtain ⟨y, hy⟩ : ∃ y, backI s.data.toList p = y := ⟨_, rfl⟩
    rw [hx] at ea eb
    rw [hy] at ba bb
    have EA := Lib.hid ea; have EB := Lib.hid eb; have BA := Lib.hid ba; have BB := Lib.hid bb
    clear ea eb ba bb hx hy
    go_enter Try.func6, Try.ntmps6
    go_wp2_with (first | (go_at_call 21; refine (EA.out _).mono ?_; rintro e w' ⟨rfl, rfl⟩) | (go_at_call 22; refine (EB.out _).mono ?_; rintro e w' ⟨rfl, rfl⟩) | (go_at_call 23; refine (BA.out _).mono ?_; rintro e w' ⟨rfl, rfl⟩) | (go_at_call 24; refine (BB.out _).mono ?_; rintro e w' ⟨rfl, rfl⟩) | (go_at_call 11; refine (lives_any _).mono ?_; rintro e w' ⟨rfl, rfl⟩))
    go_ret
    exact ⟨by simp, Below.refl _ _⟩
  · have hg : 400 < s.size := by omega
    clear hl w0
    go_enter Try.func6, Try.ntmps6
    go_wp2_with (go_at_call 11; refine (lives_any _).mono ?_; rintro e w' ⟨rfl, rfl⟩)
    go_ret
    exact ⟨rfl, Below.refl _ _⟩
end Go.Proofs.Ytncnincmcgiefaa
