/-
  Contracts of the program's operations: what an operation has by its kind.
-/
import Derived.Test.YtlgdlkiekodocaaDoorOpDev
namespace Go.Proofs.YtlgdlkiekodocaaDoor
open Go.RowKit

/-- A row of fields that a call made. -/
def HasR (w : World) (fs : Array Value) (e : Ending) (w' : World) : Prop :=
  ∃ g, e = .returned (.slice (some ⟨g, 0, none⟩) fs.size fs.size) ∧ Blk w' g fs 38 ∧ w.heap.size ≤ g ∧ Below w.heap.size w w'

set_option maxRecDepth 100000 in
set_option maxHeartbeats 400000 in
theorem has_one (a n s : Value) (b : Nat) (w : World) (hB : Blk w b #[.int .i64 1, a, n, s] 23) :
    Calls Tryd.prog 13 #[.pointer (some ⟨b, 0, none⟩)] w (HasR w #[.iface 48 (.pointer (some ⟨b, 1, none⟩)), .iface 50 (.pointer (some ⟨b, 3, none⟩))]) := by
  obtain ⟨c0, -, -, -, -, -, -, -⟩ := hB.four
  clear hB
  go_enter Tryd.func13, Tryd.ntmps13
  go_wp2
  go_region
  go_wp2
  go_ret
  exact ⟨w.heap.size, rfl, Blk.new w _ _, Nat.le_refl _, ((Below.refl _ _).alloc (Nat.le_refl _) _).drew⟩
set_option maxRecDepth 100000 in
set_option maxHeartbeats 400000 in
theorem has_two (a n s : Value) (b : Nat) (w : World) (hB : Blk w b #[.int .i64 2, a, n, s] 23) :
    Calls Tryd.prog 13 #[.pointer (some ⟨b, 0, none⟩)] w (HasR w #[.iface 48 (.pointer (some ⟨b, 1, none⟩)), .iface 48 (.pointer (some ⟨b, 2, none⟩))]) := by
  obtain ⟨c0, -, -, -, -, -, -, -⟩ := hB.four
  clear hB
  go_enter Tryd.func13, Tryd.ntmps13
  go_wp2
  go_region
  go_wp2
  go_ret
  exact ⟨w.heap.size, rfl, Blk.new w _ _, Nat.le_refl _, ((Below.refl _ _).alloc (Nat.le_refl _) _).drew⟩
set_option maxRecDepth 100000 in
set_option maxHeartbeats 400000 in
theorem has_three (a n s : Value) (b : Nat) (w : World) (hB : Blk w b #[.int .i64 3, a, n, s] 23) :
    Calls Tryd.prog 13 #[.pointer (some ⟨b, 0, none⟩)] w (HasR w #[.iface 48 (.pointer (some ⟨b, 1, none⟩)), .iface 52 (.pointer (some ⟨b, 3, none⟩))]) := by
  obtain ⟨c0, -, -, -, -, -, -, -⟩ := hB.four
  clear hB
  go_enter Tryd.func13, Tryd.ntmps13
  go_wp2
  go_region
  go_wp2
  go_ret
  exact ⟨w.heap.size, rfl, Blk.new w _ _, Nat.le_refl _, ((Below.refl _ _).alloc (Nat.le_refl _) _).drew⟩
set_option maxRecDepth 100000 in
set_option maxHeartbeats 400000 in
theorem has_four (a n s : Value) (b : Nat) (w : World) (hB : Blk w b #[.int .i64 4, a, n, s] 23) :
    Calls Tryd.prog 13 #[.pointer (some ⟨b, 0, none⟩)] w (HasR w #[.iface 52 (.pointer (some ⟨b, 3, none⟩))]) := by
  obtain ⟨c0, -, -, -, -, -, -, -⟩ := hB.four
  clear hB
  go_enter Tryd.func13, Tryd.ntmps13
  go_wp2
  go_region
  go_wp2
  go_ret
  exact ⟨w.heap.size, rfl, Blk.new w _ _, Nat.le_refl _, ((Below.refl _ _).alloc (Nat.le_refl _) _).drew⟩
set_option maxRecDepth 100000 in
set_option maxHeartbeats 400000 in
theorem has_none (k : Int) (hk : k < 1 ∨ 4 < k) (a n s : Value) (b : Nat) (w : World) (hB : Blk w b #[.int .i64 k, a, n, s] 23) :
    Calls Tryd.prog 13 #[.pointer (some ⟨b, 0, none⟩)] w fun e w' => e = .returned (.slice none 0 0) ∧ w.drew = w' := by
  obtain ⟨c0, -, -, -, -, -, -, -⟩ := hB.four
  have k1 : k ≠ 1 := by omega
  have k2 : k ≠ 2 := by omega
  have k3 : k ≠ 3 := by omega
  have k4 : k ≠ 4 := by omega
  clear hB hk
  go_enter Tryd.func13, Tryd.ntmps13
  go_wp2
  go_region
  go_wp2
  go_ret
  exact ⟨rfl, rfl⟩
end Go.Proofs.YtlgdlkiekodocaaDoor
