/-
  The walk of the law UtfPuts: any number's bytes, and what is taken of these, are what the page says.
-/
import Derived.Test.YtncnincmcgiefaaUtfLives
namespace Go.Proofs.Ytncnincmcgiefaa
open Go.RowKit

theorem tkl_nums (x : Int) (xs : List Int) : tkl (strOfNums (x :: xs)).data.toList = tk (bt (strOfNums (x :: xs)).data.toList 0) (bt (strOfNums (x :: xs)).data.toList 1) (bt (strOfNums (x :: xs)).data.toList 2) (bt (strOfNums (x :: xs)).data.toList 3) := by
  unfold tkl; rw [if_neg (by simp [strOfNums])]

/-- What is put is taken, and has its own number of bytes. -/
theorem put_takes (c : Int) (h : sz c ≠ 0) : 0 ≤ c ∧ tkl (putS c).data.toList = (c.toNat, sz c) ∧ (putS c).size = sz c := by
  by_cases hb : c < 0 ∨ 1114111 < c ∨ (55296 ≤ c ∧ c ≤ 57343)
  · exact absurd (by unfold sz; rw [if_pos hb]) h
  refine ⟨by omega, ?_⟩
  by_cases h1 : c < 128
  · have hs : sz c = 1 := by unfold sz; rw [if_neg hb, if_pos h1]
    rw [hs, putS_1 c (by omega) h1, tkl_nums, size_nums, bt_nums _ 0 (by simp)]
    refine ⟨?_, rfl⟩
    simp only [List.getD_cons_zero]
    unfold tk; rw [if_pos (by omega)]; simp only [Prod.mk.injEq, and_true]; omega
  by_cases h2 : c < 2048
  · have hs : sz c = 2 := by unfold sz; rw [if_neg hb, if_neg h1, if_pos h2]
    rw [hs, putS_2 c (by omega) h2, tkl_nums, size_nums, bt_nums _ 0 (by simp), bt_nums _ 1 (by simp)]
    refine ⟨?_, rfl⟩
    simp only [List.getD_cons_zero, List.getD_cons_succ]
    unfold tk; rw [if_neg (by omega), if_pos (by omega)]; simp only [Prod.mk.injEq, and_true]; omega
  by_cases h3 : c < 65536
  · have hs : sz c = 3 := by unfold sz; rw [if_neg hb, if_neg h1, if_neg h2, if_pos h3]
    rw [hs, putS_3 c (by omega) h3 (by omega), tkl_nums, size_nums, bt_nums _ 0 (by simp), bt_nums _ 1 (by simp), bt_nums _ 2 (by simp)]
    refine ⟨?_, rfl⟩
    simp only [List.getD_cons_zero, List.getD_cons_succ]
    unfold tk; rw [if_neg (by omega), if_neg (by omega), if_pos (by omega)]; simp only [Prod.mk.injEq, and_true]; omega
  · have hs : sz c = 4 := by unfold sz; rw [if_neg hb, if_neg h1, if_neg h2, if_neg h3]
    rw [hs, putS_4 c (by omega) (by omega), tkl_nums, size_nums, bt_nums _ 0 (by simp), bt_nums _ 1 (by simp), bt_nums _ 2 (by simp), bt_nums _ 3 (by simp)]
    refine ⟨?_, rfl⟩
    simp only [List.getD_cons_zero, List.getD_cons_succ]
    unfold tk; rw [if_neg (by omega), if_neg (by omega), if_neg (by omega), if_pos (by omega)]; simp only [Prod.mk.injEq, and_true]; omega

set_option maxRecDepth 100000 in
set_option maxHeartbeats 400000 in
theorem utfPuts_walk (c : Int) (wf : (Lit.int .i32 c).wf = true) (w : World) :
    Calls Try.prog 3 #[.int .i32 c] w fun e w' => e = .returned (.bool true) ∧ Below w.heap.size w w' := by
  obtain ⟨b0, b1⟩ := bounds_i32 wf
  clear wf
  obtain ⟨s, hs⟩ : ∃ s, putS c = s := ⟨_, rfl⟩
  have hp := put_any c
  have hr := rput_any c b0 b1
  rw [hs] at hp hr
  have HP := Lib.hid hp; clear hp
  have HR := Lib.hid hr; clear hr
  by_cases h : sz c = 0
  · have hs0 : s = ⟨#[]⟩ := by rw [← hs]; unfold putS; rw [if_pos h]
    have ht := take_any s (by rw [hs0]; decide) 0
    rw [show takeI s.data.toList 0 = (0, 0) from by rw [hs0]; rfl] at ht
    have HT := Lib.hid ht; clear ht
    subst hs0
    clear hs
    go_enter Try.func3, Try.ntmps3
    go_wp2_with (first | (go_at_call 8; refine (HP.out _).mono ?_; rintro e w' ⟨rfl, rfl⟩) | (go_at_call 9; refine (HR.out _).mono ?_; rintro e w' ⟨rfl, hbel⟩) | (go_at_call 10; refine (HT.out _).mono ?_; rintro e w' ⟨rfl, rfl⟩) | (go_at_call 11; refine (lives_any _).mono ?_; rintro e w' ⟨rfl, rfl⟩))
    go_ret
    exact ⟨rfl, hbel⟩
  · obtain ⟨h0, ht0, hsz⟩ := put_takes c h
    rw [hs] at ht0 hsz
    have ht := take_any s (by rw [hsz]; unfold sz maxLen; repeat' split
                              all_goals omega) 0
    rw [show takeI s.data.toList 0 = (c.toNat, sz c) from ht0, show ((c.toNat : Nat) : Int) = c from by omega, ← hsz] at ht
    have HT := Lib.hid ht; clear ht
    have hne : ((s.size : Int) == 0) = false := by rw [hsz]; simp; omega
    clear hs ht0 hsz h0 h
    go_enter Try.func3, Try.ntmps3
    go_wp2_with (first | (go_at_call 8; refine (HP.out _).mono ?_; rintro e w' ⟨rfl, rfl⟩) | (go_at_call 9; refine (HR.out _).mono ?_; rintro e w' ⟨rfl, hbel⟩) | (go_at_call 10; refine (HT.out _).mono ?_; rintro e w' ⟨rfl, rfl⟩) | (go_at_call 11; refine (lives_any _).mono ?_; rintro e w' ⟨rfl, rfl⟩))
    go_ret
    exact ⟨rfl, hbel⟩
end Go.Proofs.Ytncnincmcgiefaa
