/-
  Contracts of the program's operations: the names of marks, the fields.
-/
import Derived.Test.YtlgdlkiekodocaaDoorOpRef2
import Derived.Test.YtlgdlkiekodocaaDoorObj
import Derived.Handy
namespace Go.Proofs.YtlgdlkiekodocaaDoor
open Go.RowKit

set_option maxRecDepth 100000 in
set_option maxHeartbeats 400000 in
theorem omay_any (s : ByteArray) (hs : s.size ≤ maxLen) (w : World) :
    Calls Tryd.prog 9 #[.string s] w fun e w' => e = .returned (.bool (markB s.data.toList)) ∧ w = w' := by
  unfold maxLen at hs
  by_cases z1 : s.size < 1
  · rw [markB_short (by rw [list_size]; exact z1)]
    go_enter Tryd.func9, Tryd.ntmps9
    go_wp2
    go_ret
    exact ⟨rfl, rfl⟩
  by_cases z2 : 8 < s.size
  · have z3 : 1 ≤ s.size := by omega
    rw [markB_long (by rw [list_size]; exact z2)]
    clear z1
    go_enter Tryd.func9, Tryd.ntmps9
    go_wp2
    go_ret
    exact ⟨rfl, rfl⟩
  have z3 : 1 ≤ s.size := by omega
  have z4 : s.size ≤ 8 := by omega
  clear z1 z2
  obtain ⟨r, hr⟩ : ∃ r, markB s.data.toList = r := ⟨_, rfl⟩
  rw [hr]
  have HR := Lib.hid hr; clear hr
  go_enter Tryd.func9, Tryd.ntmps9
  go_wp2
  go_loop [14] (fun i => ∃ k : Nat, k ≤ s.size ∧ i = .int .i64 k ∧ (s.data.toList.take k).all letB = true) (fun i => s.size - (intOf i).toNat)
  case atStart => exact ⟨0, Nat.zero_le _, rfl, rfl⟩
  case round =>
    obtain ⟨k, hk, rfl, hall⟩ := hrel
    have HA := Lib.hid hall; clear hall
    by_cases hlt : k < s.size
    · have hb255 := s[k].toNat_lt
      by_cases g1 : 97 ≤ s[k].toNat
      · by_cases g2 : s[k].toNat ≤ 122
        · have h2 := Lib.hid (may_snoc hlt HA.out g1 g2)
          go_wp2
          go_round
          case rel => exact ⟨k + 1, by omega, by go_num, h2.out⟩
          case measure => simp [intOf]; omega
        · have h2 := Lib.hid (may_off hlt (.inr (by omega)))
          have g2' : 122 < s[k].toNat := by omega
          go_wp2
          go_ret
          exact ⟨ret_bool (by rw [← HR.out, h2.out]), rfl⟩
      · have h2 := Lib.hid (may_off hlt (.inl (by omega)))
        have g1' : s[k].toNat < 97 := by omega
        go_wp2
        go_ret
        exact ⟨ret_bool (by rw [← HR.out, h2.out]), rfl⟩
    · obtain rfl : k = s.size := by omega
      have h2 := Lib.hid (may_end HA.out)
      go_wp2
      go_ret
      exact ⟨ret_bool (by rw [← HR.out, h2.out, decide_eq_true z3, decide_eq_true z4]; rfl), rfl⟩

/-! The fields, each by its own cell. -/

theorem num_right (v : Int) (b o : Nat) (w : World) (hc : w.cell? ⟨b, o, none⟩ = some (.int .i64 v)) :
    Calls Tryd.prog 76 #[.pointer (some ⟨b, o, none⟩)] w fun e w' => e = .returned (.bool (plB v)) ∧ w = w' := by
  by_cases h0 : 0 ≤ v
  · by_cases h1 : v ≤ 4096
    · rw [plB_yes h0 h1]
      go_enter Tryd.func76, Tryd.ntmps76
      go_wp2
      go_ret
      exact ⟨rfl, rfl⟩
    · have h1' : 4096 < v := by omega
      rw [plB_no (.inr h1')]
      go_enter Tryd.func76, Tryd.ntmps76
      go_wp2
      go_ret
      exact ⟨rfl, rfl⟩
  · have h0' : v < 0 := by omega
    rw [plB_no (.inl h0')]
    go_enter Tryd.func76, Tryd.ntmps76
    go_wp2
    go_ret
    exact ⟨rfl, rfl⟩
theorem con_right (s : ByteArray) (hs : s.size ≤ maxLen) (b o : Nat) (w : World) (hc : w.cell? ⟨b, o, none⟩ = some (.string s)) :
    Calls Tryd.prog 78 #[.pointer (some ⟨b, o, none⟩)] w fun e w' => e = .returned (.bool (decide (s.size ≤ 512) && vldB s.data.toList)) ∧ Below w.heap.size w w' := by
  have hv := valid_any s hs
  obtain ⟨v, hv1⟩ : ∃ v, vldB s.data.toList = v := ⟨_, rfl⟩
  rw [hv1] at hv ⊢
  have HV := Lib.hid hv
  clear hv hv1
  unfold maxLen at hs
  by_cases h5 : s.size ≤ 512
  · rw [decide_eq_true h5]
    go_enter Tryd.func78, Tryd.ntmps78
    go_wp2_with (go_at_call 79; refine (HV.out _).mono ?_; rintro e w' ⟨rfl, hb⟩)
    go_ret
    exact ⟨rfl, hb⟩
  · have h5' : 512 < s.size := by omega
    rw [decide_eq_false h5]
    go_enter Tryd.func78, Tryd.ntmps78
    go_wp2
    go_ret
    exact ⟨rfl, Below.refl _ _⟩
theorem nam_right (s : ByteArray) (hs : s.size ≤ maxLen) (b o : Nat) (w : World) (hc : w.cell? ⟨b, o, none⟩ = some (.string s)) :
    Calls Tryd.prog 86 #[.pointer (some ⟨b, o, none⟩)] w fun e w' => e = .returned (.bool (markB s.data.toList)) ∧ w = w' := by
  have hv := omay_any s hs
  obtain ⟨v, hv1⟩ : ∃ v, markB s.data.toList = v := ⟨_, rfl⟩
  rw [hv1] at hv ⊢
  have HV := Lib.hid hv
  clear hv hv1
  go_enter Tryd.func86, Tryd.ntmps86
  go_wp2_with (go_at_call 9; refine (HV.out _).mono ?_; rintro e w' ⟨rfl, rfl⟩)
  go_ret
  exact ⟨rfl, rfl⟩
theorem num_clear (v : Value) (b o : Nat) (w : World) (hc : w.cell? ⟨b, o, none⟩ = some v) (hf : w.frozen? ⟨b, o, none⟩ = false) :
    Calls Tryd.prog 75 #[.pointer (some ⟨b, o, none⟩)] w fun e w' => e = .returned (.tuple #[]) ∧ w' = w.setCell ⟨b, o, none⟩ (.int .i64 0) := by
  go_enter Tryd.func75, Tryd.ntmps75
  go_wp2
  go_returns
  exact ⟨rfl, rfl⟩
theorem con_clear (v : Value) (b o : Nat) (w : World) (hc : w.cell? ⟨b, o, none⟩ = some v) (hf : w.frozen? ⟨b, o, none⟩ = false) :
    Calls Tryd.prog 77 #[.pointer (some ⟨b, o, none⟩)] w fun e w' => e = .returned (.tuple #[]) ∧ w' = w.setCell ⟨b, o, none⟩ (.string ⟨#[]⟩) := by
  go_enter Tryd.func77, Tryd.ntmps77
  go_wp2
  go_returns
  exact ⟨rfl, rfl⟩
theorem nam_clear (v : Value) (b o : Nat) (w : World) (hc : w.cell? ⟨b, o, none⟩ = some v) (hf : w.frozen? ⟨b, o, none⟩ = false) :
    Calls Tryd.prog 85 #[.pointer (some ⟨b, o, none⟩)] w fun e w' => e = .returned (.tuple #[]) ∧ w' = w.setCell ⟨b, o, none⟩ (.string ⟨#[]⟩) := by
  go_enter Tryd.func85, Tryd.ntmps85
  go_wp2
  go_returns
  exact ⟨rfl, rfl⟩
end Go.Proofs.YtlgdlkiekodocaaDoor
