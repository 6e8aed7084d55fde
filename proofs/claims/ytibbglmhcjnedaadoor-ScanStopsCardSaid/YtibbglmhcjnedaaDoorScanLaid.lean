/-
  The law's small and laid: frames laid one behind the other.
-/
import Derived.Test.YtibbglmhcjnedaaDoorScanLives
import Derived.Maps.AppendAt
namespace Go.Proofs.YtibbglmhcjnedaaDoor
open Go.RowKit
set_option linter.unusedVariables false

/-- What small answers: where it says yes, they are so. -/
def RetSmall (l : List Part) (ep sq : Int) (w : World) (e : Ending) (w' : World) : Prop :=
  ∃ b, e = .returned (.bool b) ∧ (b = true → l.length ≤ 12 ∧ (∀ p ∈ l, p.data.size ≤ 100) ∧ (0 ≤ ep ∧ ep ≤ 999999) ∧ 0 ≤ sq ∧ sq ≤ 1000000) ∧ w = w'
set_option maxRecDepth 100000 in
set_option maxHeartbeats 800000 in
theorem small_any (a : Option Addr) (c : Nat) (l : List Part) (hl : l.length ≤ maxLen) (ep sq : Int) (w : World) (hp : Parts w (· < w.heap.size) a l) :
    Calls Tryd.prog 18 #[.slice a l.length c, .int .i64 ep, .int .i64 sq] w (RetSmall l ep sq w) := by
  have HP := Lib.hid hp
  unfold maxLen at hl
  clear hp
  go_enter Tryd.func18, Tryd.ntmps18
  go_wp2
  go_loopw [7] (fun i wr => ∃ k : Nat, k ≤ l.length ∧ k ≤ 12 ∧ i = .int .i64 k ∧ wr = w ∧ Hid (∀ j (h : j < l.length), j < k → l[j].data.size ≤ 100)) (fun i _ => l.length - (intOf i).toNat)
  case atStart => exact ⟨0, Nat.zero_le _, by omega, rfl, rfl, fun j h hj => absurd hj (by omega)⟩
  case round =>
    obtain ⟨k, hk, hk12, rfl, rfl, HK⟩ := hrel
    by_cases h1 : k < l.length
    · by_cases h2 : k < 12
      · obtain ⟨ad, rfl, -, p0, p1⟩ := HP.out k h1
        obtain ⟨⟨d, fl⟩, hf⟩ : ∃ f, l[k] = f := ⟨_, rfl⟩
        rw [hf] at p0
        by_cases h3 : 100 < d.size
        · clear p1 hf
          go_wp2
          all_goals
            first
              | omega
              | (go_ret; exact ⟨false, rfl, fun h => (by cases h), rfl⟩)
        · have HF := Lib.hid hf
          clear p1 hf
          go_wp2
          all_goals
            first
              | omega
              | (go_roundw
                 case rel => exact ⟨k + 1, by omega, by omega, by go_num, trivial, fun j h hj => by
                  by_cases e : j = k
                  · subst e; rw [HF.out]; show d.size ≤ 100; omega
                  · exact HK.out j h (by omega)⟩
                 case measure => simp [intOf]; omega)
      · obtain rfl : k = 12 := by omega
        have g1 : ¬ (l.length : Int) ≤ 12 := by omega
        clear hk12
        go_wp2
        go_ret
        exact ⟨false, rfl, fun h => (by cases h), rfl⟩
    · obtain rfl : k = l.length := by omega
      have HA := Lib.hid (show ∀ p ∈ l, p.data.size ≤ 100 from fun p hp => by
        obtain ⟨i, hi, rfl⟩ := List.mem_iff_getElem.1 hp
        exact HK.out i hi hi)
      by_cases g2 : 0 ≤ ep
      · by_cases g3 : ep ≤ 999999
        · by_cases g4 : 0 ≤ sq
          · by_cases g5 : sq ≤ 1000000
            · go_wp2
              go_ret
              exact ⟨true, rfl, fun _ => ⟨by omega, HA.out, ⟨g2, g3⟩, g4, g5⟩, rfl⟩
            · go_wp2
              go_ret
              exact ⟨false, rfl, fun h => (by cases h), rfl⟩
          · go_wp2
            go_ret
            exact ⟨false, rfl, fun h => (by cases h), rfl⟩
        · go_wp2
          go_ret
          exact ⟨false, rfl, fun h => (by cases h), rfl⟩
      · go_wp2
        go_ret
        exact ⟨false, rfl, fun h => (by cases h), rfl⟩
end Go.Proofs.YtibbglmhcjnedaaDoor
