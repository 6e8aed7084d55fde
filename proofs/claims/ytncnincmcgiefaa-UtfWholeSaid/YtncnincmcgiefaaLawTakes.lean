/-
  The walk of the law UtfTakes: the rune that stands at any place of any bytes is the one of the page, or none.
-/
import Derived.Test.YtncnincmcgiefaaUtfRTake
namespace Go.Proofs.Ytncnincmcgiefaa
open Go.RowKit

set_option maxRecDepth 100000 in
theorem rtake_any (s : ByteArray) (hs : s.size ≤ 4294967296) (p : Int) (w : World) :
    Calls Try.prog 12 #[.string s, .int .i64 p] w fun e w' => e = .returned (.tuple #[.int .i32 (takeI s.data.toList p).1, .int .i64 (takeI s.data.toList p).2]) ∧ Below w.heap.size w w' := by
  by_cases h0 : p < 0
  · have e : takeI s.data.toList p = (0, 0) := by unfold takeI; rw [if_pos h0]
    rw [e]; clear e
    go_enter Try.func12, Try.ntmps12
    go_wp2
    go_ret2
    exact ⟨rfl, Below.refl _ _⟩
  obtain ⟨k, rfl⟩ := Int.eq_ofNat_of_zero_le (Int.not_lt.1 h0)
  by_cases hk : k < s.size
  · have e : takeI s.data.toList k = tkl (s.data.toList.drop k) := by unfold takeI; rw [if_neg h0]; rfl
    rw [e]
    exact rtake_in s hs k hk w _ _ rfl
  · have e : takeI s.data.toList k = (0, 0) := by
      unfold takeI; rw [if_neg h0, Int.toNat_natCast, List.drop_eq_nil_of_le (by simp; omega)]; rfl
    rw [e]; clear e
    go_enter Try.func12, Try.ntmps12
    go_wp2
    go_ret2
    exact ⟨rfl, Below.refl _ _⟩

set_option maxRecDepth 100000 in
set_option maxHeartbeats 400000 in
theorem utfTakes_walk (s : ByteArray) (p : Int) (w0 : s.size ≤ maxLen) (_w1 : (Lit.int .i64 p).wf = true) (w : World) :
    Calls Try.prog 4 #[.string s, .int .i64 p] w fun e w' => e = .returned (.bool true) ∧ Below w.heap.size w w' := by
  by_cases hl : s.size ≤ 400
  · have ta := take_any s w0 p
    have tb := rtake_any s (by omega) p
    obtain ⟨⟨x, y⟩, hx⟩ : ∃ x, takeI s.data.toList p = x := ⟨_, rfl⟩
    rw [hx] at ta tb
    have TA := Lib.hid ta; have TB := Lib.hid tb
    clear ta tb hx w0
    go_enter Try.func4, Try.ntmps4
    go_wp2_with (first | (go_at_call 10; refine (TA.out _).mono ?_; rintro e w' ⟨rfl, rfl⟩) | (go_at_call 12; refine (TB.out _).mono ?_; rintro e w' ⟨rfl, hb⟩) | (go_at_call 11; refine (lives_any _).mono ?_; rintro e w' ⟨rfl, rfl⟩))
    go_ret
    exact ⟨by simp, by assumption⟩
  · have hg : 400 < s.size := by omega
    clear hl w0
    go_enter Try.func4, Try.ntmps4
    go_wp2_with (go_at_call 11; refine (lives_any _).mono ?_; rintro e w' ⟨rfl, rfl⟩)
    go_ret
    exact ⟨rfl, Below.refl _ _⟩
end Go.Proofs.Ytncnincmcgiefaa
