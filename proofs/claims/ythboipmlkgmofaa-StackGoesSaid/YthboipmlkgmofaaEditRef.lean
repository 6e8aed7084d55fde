/-
  The document's edits: Apply, Inverse, Shift.
-/
import Derived.Test.YthboipmlkgmofaaEditDev
namespace Go.Proofs.Ythboipmlkgmofaa
open Go.RowKit
set_option linter.unusedVariables false
set_option linter.unusedSimpArgs false

set_option maxRecDepth 100000 in
set_option maxHeartbeats 400000 in
theorem rinverse_any (p : Int) (o n : ByteArray) (w : World) :
    Calls Try.prog 33 #[edV p o n] w fun e w' => e = .returned (edV p n o) ∧ Below w.heap.size w w' := by
  go_enter Try.func33, Try.ntmps33
  go_wp2
  refine bodyPost_ret (v := edV p n o) (by simp [results, Try.results33, go_sem]) rfl ⟨rfl, ?_⟩
  exact ((Below.refl _ _).alloc (Nat.le_refl _) _).alloc (by simp) _

theorem Ed.drewN {w w1 : World} {p : Int} {o n : ByteArray} (h : Ed w p o n w1) (m : Nat) : Ed w p o n (w1.drewN m) := ⟨drewN_below h.1 m, h.2⟩

set_option maxRecDepth 100000 in
set_option maxHeartbeats 1600000 in
theorem rapply_any (t o n : ByteArray) (ht : t.size ≤ 4294967296) (ho : o.size ≤ 4294967296) (hn : n.size ≤ 4294967296) (p : Int) (w : World) :
    Calls Try.prog 34 #[.string t, edV p o n] w fun e w' => e = .returned (appV (appE t p o n)) ∧ Below w.heap.size w w' := by
  have HE := Lib.hid (Ed.new w p o n)
  obtain ⟨-, -, c0, c1, c2⟩ := HE.out
  by_cases hp : p < 0 ∨ (t.size : Int) < p
  · rw [appE_range hp]
    rcases hp with hp | hp
    · go_enter Try.func34, Try.ntmps34
      go_wp2
      go_ret2
      exact ⟨rfl, HE.out.1⟩
    · have h0 : 0 ≤ p := by omega
      go_enter Try.func34, Try.ntmps34
      go_wp2
      go_ret2
      exact ⟨rfl, HE.out.1⟩
  obtain ⟨k, rfl⟩ := Int.eq_ofNat_of_zero_le (show 0 ≤ p by omega)
  have hk : k ≤ t.size := by omega
  clear hp
  have W1 : IntKind.i64.wrap ((t.size : Int) - (k : Int)) = (t.size : Int) - k := IntWalk.i64_in _ (by omega)
  by_cases hs : t.extract k (k + o.size) = o
  case neg =>
    rw [appE_none hk hs]
    by_cases hle : k + o.size ≤ t.size
    · have hx := str_ne hs
      have D1 : decide ((t.size : Int) - (k : Int) < (o.size : Int)) = false := by simp; omega
      have W2 : IntKind.i64.wrap ((k : Int) + (o.size : Int)) = ((k + o.size : Nat) : Int) := (IntWalk.i64_in _ (by omega)).trans (by omega)
      have G1 : ((k + o.size : Nat) : Int) ≤ (t.size : Int) := by omega
      have G3 : (k : Int) ≤ ((k + o.size : Nat) : Int) := by omega
      clear hs
      go_enter Try.func34, Try.ntmps34
      go_wp2_with fail
      go_quiet (fail)
      go_wp2
      go_ret2
      exact ⟨rfl, drewN_below HE.out.1 _⟩
    · have D1 : decide ((t.size : Int) - (k : Int) < (o.size : Int)) = true := by simp; omega
      clear hs
      go_enter Try.func34, Try.ntmps34
      go_wp2_with fail
      go_quiet (fail)
      go_wp2
      go_ret2
      exact ⟨rfl, drewN_below HE.out.1 _⟩
  have hle := stands_le hk hs
  have hx : ((t.extract k (k + o.size)).toList == o.toList) = true := by rw [hs]; simp
  have D1 : decide ((t.size : Int) - (k : Int) < (o.size : Int)) = false := by simp; omega
  have W2 : IntKind.i64.wrap ((k : Int) + (o.size : Int)) = ((k + o.size : Nat) : Int) := (IntWalk.i64_in _ (by omega)).trans (by omega)
  have G1 : ((k + o.size : Nat) : Int) ≤ (t.size : Int) := by omega
  have G3 : (k : Int) ≤ ((k + o.size : Nat) : Int) := by omega
  have e1 := redge_any t (by unfold maxLen; omega) k
  have e2 := redge_any t (by unfold maxLen; omega) ((k : Int) + (o.size : Int))
  have v1 := rvalid_any o ho
  have v2 := rvalid_any n hn
  have h2 : ∀ b, edgeB t.data.toList ((k + o.size : Nat) : Int) = b → edgeB t.data.toList ((k : Int) + (o.size : Int)) = b := fun b h => by rw [← Int.natCast_add]; exact h
  cases q1 : edgeB t.data.toList k
  · rw [appE_split hk hs (.inl q1)]
    rw [q1] at e1
    have E1 := Lib.hid e1
    clear e1 e2 v1 v2 h2 q1 hs
    go_enter Try.func34, Try.ntmps34
    go_wp2_with fail
    go_quiet (fail)
    go_wp2_with (first | (go_at_call 37; (with_reducible refine (E1.out _).mono ?_); rintro e w2 ⟨rfl, rfl⟩))
    go_ret2
    exact ⟨rfl, drewN_below HE.out.1 _⟩
  rw [q1] at e1
  have E1 := Lib.hid e1
  clear e1
  cases q2 : edgeB t.data.toList ((k + o.size : Nat) : Int)
  · rw [appE_split hk hs (.inr q2)]
    rw [h2 _ q2] at e2
    have E2 := Lib.hid e2
    clear e2 v1 v2 h2 q1 q2 hs
    go_enter Try.func34, Try.ntmps34
    go_wp2_with fail
    go_quiet (fail)
    go_wp2_with (first | (go_at_call 37; (with_reducible refine (E1.out _).mono ?_); rintro e w2 ⟨rfl, rfl⟩) | (go_at_call 37; (with_reducible refine (E2.out _).mono ?_); rintro e w2 ⟨rfl, rfl⟩))
    go_ret2
    exact ⟨rfl, drewN_below HE.out.1 _⟩
  rw [h2 _ q2] at e2
  have E2 := Lib.hid e2
  clear e2 h2
  cases q3 : vldB o.data.toList
  · rw [appE_form hk hs q1 q2 (.inl q3)]
    rw [q3] at v1
    have V1 := Lib.hid v1
    clear v1 v2 q1 q2 q3 hs
    go_enter Try.func34, Try.ntmps34
    go_wp2_with fail
    go_quiet (fail)
    go_wp2_with (first | (go_at_call 37; (with_reducible refine (E1.out _).mono ?_); rintro e w2 ⟨rfl, rfl⟩) | (go_at_call 37; (with_reducible refine (E2.out _).mono ?_); rintro e w2 ⟨rfl, rfl⟩))
    refine (V1.out _).mono ?_; rintro e w2 ⟨rfl, hb2⟩
    have HE2 := Lib.hid ((HE.out.drewN _).on hb2)
    obtain ⟨-, -, k0, k1, k2⟩ := HE2.out
    clear hb2
    go_wp2
    go_ret2
    exact ⟨rfl, HE2.out.1⟩
  rw [q3] at v1
  have V1 := Lib.hid v1
  clear v1
  cases q4 : vldB n.data.toList
  · rw [appE_form hk hs q1 q2 (.inr q4)]
    rw [q4] at v2
    have V2 := Lib.hid v2
    clear v2 q1 q2 q3 q4 hs
    go_enter Try.func34, Try.ntmps34
    go_wp2_with fail
    go_quiet (fail)
    go_wp2_with (first | (go_at_call 37; (with_reducible refine (E1.out _).mono ?_); rintro e w2 ⟨rfl, rfl⟩) | (go_at_call 37; (with_reducible refine (E2.out _).mono ?_); rintro e w2 ⟨rfl, rfl⟩))
    refine (V1.out _).mono ?_; rintro e w2 ⟨rfl, hb2⟩
    have HE2 := Lib.hid ((HE.out.drewN _).on hb2)
    obtain ⟨-, -, k0, k1, k2⟩ := HE2.out
    clear hb2
    go_wp2_with (first | (go_at_call 37; (with_reducible refine (E1.out _).mono ?_); rintro e w2 ⟨rfl, rfl⟩) | (go_at_call 37; (with_reducible refine (E2.out _).mono ?_); rintro e w2 ⟨rfl, rfl⟩))
    refine (V2.out _).mono ?_; rintro e w3 ⟨rfl, hb2⟩
    have HE3 := Lib.hid (HE2.out.on hb2)
    obtain ⟨-, -, k0, k1, k2⟩ := HE3.out
    clear hb2
    go_wp2
    go_ret2
    exact ⟨rfl, HE3.out.1⟩
  rw [q4] at v2
  have V2 := Lib.hid v2
  clear v2
  by_cases hl : 4096 + o.size < t.size + n.size
  · rw [appE_long hk hs q1 q2 q3 q4 hl]
    clear q1 q2 q3 q4 hs
    go_enter Try.func34, Try.ntmps34
    go_wp2_with fail
    go_quiet (fail)
    go_wp2_with (first | (go_at_call 37; (with_reducible refine (E1.out _).mono ?_); rintro e w2 ⟨rfl, rfl⟩) | (go_at_call 37; (with_reducible refine (E2.out _).mono ?_); rintro e w2 ⟨rfl, rfl⟩))
    refine (V1.out _).mono ?_; rintro e w2 ⟨rfl, hb2⟩
    have HE2 := Lib.hid ((HE.out.drewN _).on hb2)
    obtain ⟨-, -, k0, k1, k2⟩ := HE2.out
    clear hb2
    go_wp2_with (first | (go_at_call 37; (with_reducible refine (E1.out _).mono ?_); rintro e w2 ⟨rfl, rfl⟩) | (go_at_call 37; (with_reducible refine (E2.out _).mono ?_); rintro e w2 ⟨rfl, rfl⟩))
    refine (V2.out _).mono ?_; rintro e w3 ⟨rfl, hb2⟩
    have HE3 := Lib.hid (HE2.out.on hb2)
    obtain ⟨-, -, k0, k1, k2⟩ := HE3.out
    clear hb2
    go_wp2
    go_ret2
    exact ⟨rfl, HE3.out.1⟩
  · rw [appE_ok hk hs q1 q2 q3 q4 hl]
    have za : (t.extract 0 k).size = k := by rw [ByteArray.size_extract]; omega
    have zb : (t.extract (k + o.size) t.size).size = t.size - (k + o.size) := by rw [ByteArray.size_extract]; omega
    obtain ⟨A, hA⟩ : ∃ A, t.extract 0 k = A := ⟨_, rfl⟩
    obtain ⟨B, hB⟩ : ∃ B, t.extract (k + o.size) t.size = B := ⟨_, rfl⟩
    rw [hA] at za ⊢
    rw [hB] at zb ⊢
    clear q1 q2 q3 q4 hs
    go_enter Try.func34, Try.ntmps34
    go_wp2_with fail
    go_quiet (fail)
    go_wp2_with (first | (go_at_call 37; (with_reducible refine (E1.out _).mono ?_); rintro e w2 ⟨rfl, rfl⟩) | (go_at_call 37; (with_reducible refine (E2.out _).mono ?_); rintro e w2 ⟨rfl, rfl⟩))
    refine (V1.out _).mono ?_; rintro e w2 ⟨rfl, hb2⟩
    have HE2 := Lib.hid ((HE.out.drewN _).on hb2)
    obtain ⟨-, -, k0, k1, k2⟩ := HE2.out
    clear hb2
    go_wp2_with (first | (go_at_call 37; (with_reducible refine (E1.out _).mono ?_); rintro e w2 ⟨rfl, rfl⟩) | (go_at_call 37; (with_reducible refine (E2.out _).mono ?_); rintro e w2 ⟨rfl, rfl⟩))
    refine (V2.out _).mono ?_; rintro e w3 ⟨rfl, hb2⟩
    have HE3 := Lib.hid (HE2.out.on hb2)
    obtain ⟨-, -, k0, k1, k2⟩ := HE3.out
    clear hb2
    go_wp2_with fail
    have F1 : ¬ (9223372036854775807 < k + n.size) := by omega
    have F2 : ¬ (9223372036854775807 < (A ++ n).size + (t.size - (k + o.size))) := by rw [ByteArray.size_append]; omega
    have F3 : ¬ (9223372036854775807 < k + n.size + (t.size - (k + o.size))) := by omega
    have G4 : (k : Int) ≤ (t.size : Int) := by omega
    go_quiet (fail)
    go_wp2
    go_ret2
    exact ⟨rfl, drewN_below HE3.out.1 _⟩
end Go.Proofs.Ythboipmlkgmofaa
