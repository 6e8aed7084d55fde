/-
  Contracts of the program's frames (its code at 81595eef): may, the methods that put, put, check, Size.
-/
import Derived.Test.YtibbglmhcjnedaaDoorFrameRef2
import Derived.Test.YtibbglmhcjnedaaDoorNumDev
import Derived.Test.YtibbglmhcjnedaaDoorSumDev
import Derived.Test.YtibbglmhcjnedaaDoorBlk
namespace Go.Proofs.YtibbglmhcjnedaaDoor
open Go.RowKit
set_option linter.unusedVariables false

theorem fsize_any (n : Int) (h0 : -9223372036854775808 ≤ n) (h : n ≤ 1099511627776) (w : World) :
    Calls Tryd.prog 52 #[.int .i64 n] w fun e w' => e = .returned (.int .i64 (sizI n)) ∧ w = w' := by
  by_cases hn : n < 0
  · have e : sizI n = 16 := if_pos hn
    rw [e]; clear e
    have g : ¬ 9223372036854775791 < n := by omega
    have m1 : min n 9223372036854775791 = n := by omega
    have m2 : max 0 n = 0 := by omega
    go_enter Tryd.func52, Tryd.ntmps52
    go_wp2
    all_goals (go_ret; exact ⟨ret_int (by omega), rfl⟩)
  · have e : sizI n = 16 + n := if_neg hn
    rw [e]; clear e
    have m1 : min n 9223372036854775791 = n := by omega
    have m2 : max 0 n = n := by omega
    go_enter Tryd.func52, Tryd.ntmps52
    go_wp2
    all_goals (go_ret; exact ⟨ret_int (by omega), rfl⟩)

set_option maxRecDepth 100000 in
set_option maxHeartbeats 400000 in
theorem fmay_any (ep sq : Int) (d : ByteArray) (w : World) :
    Calls Tryd.prog 40 #[.agg #[.int .i64 ep, .int .i64 sq, .string d]] w fun e w' => e = .returned (.bool (mayB ep sq)) ∧ Below w.heap.size w w' := by
  by_cases h : 0 ≤ ep ∧ ep ≤ 999999 ∧ 0 ≤ sq ∧ sq ≤ 2147483647
  · rw [mayB_yes.2 h]
    obtain ⟨h1, h2, h3, h4⟩ := h
    go_enter Tryd.func40, Tryd.ntmps40
    go_wp2
    go_ret
    exact ⟨by simp, (Below.refl _ _).alloc (Nat.le_refl _) _⟩
  · rw [mayB_no.2 h]
    by_cases h1 : 0 ≤ ep
    · by_cases h2 : ep ≤ 999999
      · by_cases h3 : 0 ≤ sq
        · have h4 : ¬ sq ≤ 2147483647 := by omega
          clear h
          go_enter Tryd.func40, Tryd.ntmps40
          go_wp2
          go_ret
          exact ⟨by simp, (Below.refl _ _).alloc (Nat.le_refl _) _⟩
        · clear h
          go_enter Tryd.func40, Tryd.ntmps40
          go_wp2
          go_ret
          exact ⟨by simp, (Below.refl _ _).alloc (Nat.le_refl _) _⟩
      · clear h
        go_enter Tryd.func40, Tryd.ntmps40
        go_wp2
        go_ret
        exact ⟨by simp, (Below.refl _ _).alloc (Nat.le_refl _) _⟩
    · clear h
      go_enter Tryd.func40, Tryd.ntmps40
      go_wp2
      go_ret
      exact ⟨by simp, (Below.refl _ _).alloc (Nat.le_refl _) _⟩

set_option maxRecDepth 100000 in
set_option maxHeartbeats 400000 in
theorem fcheck_any (a d : ByteArray) (ha : a.size ≤ 1000) (hd : d.size ≤ 1024) (w : World) :
    Calls Tryd.prog 39 #[.string a, .string d] w fun e w' => e = .returned (.int .i64 (addN 0 (a ++ d).data.toList)) ∧ Below w.heap.size w w' := by
  have c1 := of_any a (by unfold maxLen; omega)
  have x1 := addN_lt 0 a.data.toList (by omega)
  have c2 := add_any _ x1 d (by unfold maxLen; omega)
  rw [addN_on] at c2
  rw [app_list]
  have x2 := addN_lt 0 (a.data.toList ++ d.data.toList) (by omega)
  obtain ⟨x, hx⟩ : ∃ x, addN 0 a.data.toList = x := ⟨_, rfl⟩
  obtain ⟨z, hz⟩ : ∃ x, addN 0 (a.data.toList ++ d.data.toList) = x := ⟨_, rfl⟩
  rw [hx] at c1 c2
  rw [hz] at c2 x2 ⊢
  have C1 := Lib.hid c1; have C2 := Lib.hid c2
  clear c1 c2 hx hz x1
  have hb0 := Below.refl w.heap.size w
  go_enter Tryd.func39, Tryd.ntmps39
  go_wp2_with fail
  refine (onward (w0 := w) hb0 (C1.out _)).mono ?_; rintro e w1 ⟨rfl, hb1⟩
  go_wp2_with fail
  refine (onward (w0 := w) hb1 (C2.out _)).mono ?_; rintro e w2 ⟨rfl, hb2⟩
  go_wp2
  go_ret
  exact ⟨rfl, hb2⟩
end Go.Proofs.YtibbglmhcjnedaaDoor
