/-
  The walk of the law UtfTakes: the rune that stands at any place of any bytes is the one of the page, or none.
-/
import Derived.Test.YthboipmlkgmofaaUtfRTake
namespace Go.Proofs.Ythboipmlkgmofaa
open Go.RowKit

set_option maxRecDepth 100000 in
theorem rtake_any (s : ByteArray) (hs : s.size ≤ 4294967296) (p : Int) (w : World) :
    Calls Try.prog 46 #[.string s, .int .i64 p] w fun e w' => e = .returned (.tuple #[.int .i32 (takeI s.data.toList p).1, .int .i64 (takeI s.data.toList p).2]) ∧ Below w.heap.size w w' := by
  by_cases h0 : p < 0
  · have e : takeI s.data.toList p = (0, 0) := by unfold takeI; rw [if_pos h0]
    rw [e]; clear e
    go_enter Try.func46, Try.ntmps46
    go_wp2
    go_ret2
    exact ⟨rfl, Below.refl _ _⟩
  obtain ⟨k, rfl⟩ := Int.eq_ofNat_of_zero_le (Int.not_lt.1 h0)
  by_cases hk : k < s.size
  · have e : takeI s.data.toList k = tkl (s.data.toList.drop k) := by unfold takeI; rw [if_neg h0]; rfl
    rw [e]
    exact rtake_in s hs k hk w _ _ rfl
  · have e : takeI s.data.toList k = (0, 0) := by
      unfold takeI; rw [if_neg h0, Int.toNat_natCast, List.drop_eq_nil_of_le (by simp; omega)]; rfl
    rw [e]; clear e
    go_enter Try.func46, Try.ntmps46
    go_wp2
    go_ret2
    exact ⟨rfl, Below.refl _ _⟩

end Go.Proofs.Ythboipmlkgmofaa
