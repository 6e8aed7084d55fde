/-
  The program's edits: fitted, Apply, Right, Inverse, Shift.
-/
import Derived.Test.YtimlfgjljnkbcaaEditMath
import Derived.Test.YtimlfgjljnkbcaaBlk
import Derived.Lib.MinMax
namespace Go.Proofs.Ytimlfgjljnkbcaa
open Go.RowKit
set_option linter.unusedVariables false
set_option linter.unusedSimpArgs false

/-- An edit as a value. -/
abbrev edV (p : Int) (o n : ByteArray) : Value := .agg #[.int .i64 p, .string o, .string n]

theorem fit_any (t : ByteArray) (k m : Nat) (hk : k ≤ t.size) : (t.extract k t.size).extract 0 (min (m : Int) ((t.size - k : Nat) : Int)).toNat = t.extract k (k + m) := by
  apply str_ext
  have hlen : t.data.toList.length = t.size := by simp
  simp only [extract_list, Nat.sub_zero, List.drop_zero, List.take_take]
  rcases Nat.le_total m (t.size - k) with h | h
  · congr 1
    omega
  · rw [List.take_of_length_le (by rw [List.length_drop]; omega), List.take_of_length_le (by rw [List.length_drop]; omega)]

/-- The box of an edit stands, and what was there ahead of it. -/
def Ed (w : World) (p : Int) (o n : ByteArray) (w1 : World) : Prop :=
  Below w.heap.size w w1 ∧ w.heap.size + 1 ≤ w1.heap.size ∧ w1.cell? ⟨w.heap.size, 0, none⟩ = some (.int .i64 p) ∧ w1.cell? ⟨w.heap.size, 1, none⟩ = some (.string o) ∧ w1.cell? ⟨w.heap.size, 2, none⟩ = some (.string n)
theorem Ed.new (w : World) (p : Int) (o n : ByteArray) : Ed w p o n (w.alloc (.cells #[.int .i64 p, .string o, .string n] 38)) :=
  have hb := Blk.new w #[.int .i64 p, .string o, .string n] 38
  ⟨(Below.refl _ _).alloc (Nat.le_refl _) _, by simp, hb.cell 0 _ rfl, hb.cell 1 _ rfl, hb.cell 2 _ rfl⟩
theorem Ed.drew {w w1 : World} {p : Int} {o n : ByteArray} (h : Ed w p o n w1) : Ed w p o n w1.drew := ⟨h.1.drew, h.2⟩
theorem Ed.on {w w1 w2 : World} {p : Int} {o n : ByteArray} (h : Ed w p o n w1) (hb : Below w1.heap.size w1 w2) : Ed w p o n w2 :=
  ⟨h.1.trans (hb.mono h.1.size), by have := hb.size; have := h.2.1; omega, (hb.cell (show (⟨w.heap.size, 0, none⟩ : Addr).block < _ from h.2.1)).trans h.2.2.1,
    (hb.cell (show (⟨w.heap.size, 1, none⟩ : Addr).block < _ from h.2.1)).trans h.2.2.2.1, (hb.cell (show (⟨w.heap.size, 2, none⟩ : Addr).block < _ from h.2.1)).trans h.2.2.2.2⟩
theorem box_on {w w1 : World} {o : Obj} (hb : Below (w.alloc o).heap.size (w.alloc o) w1) : Below w.heap.size w w1 := ((Below.refl _ _).alloc (Nat.le_refl _) _).trans (hb.mono (by simp))

/-- What Apply tells as a value. -/
abbrev appV (r : ByteArray × Int) : Value := .tuple #[.string r.1, .int .i64 r.2]

end Go.Proofs.Ytimlfgjljnkbcaa
