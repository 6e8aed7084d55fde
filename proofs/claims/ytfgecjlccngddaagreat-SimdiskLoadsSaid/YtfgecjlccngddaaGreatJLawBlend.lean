/-
  Joined: LawBlend.
-/
import Derived.Test.YtfgecjlccngddaaGreatJBlendDevB
import Derived.Deep.QuietTactic
import Derived.BigQuiet
namespace Go.Proofs.YtfgecjlccngddaaGreat
set_option linter.unusedSimpArgs false
set_option linter.unusedVariables false
open Go.RowKit

theorem mix_here : mixOf ByteArray.empty ⟨#[97, 98]⟩ ⟨#[2]⟩ = ⟨#[0, 0]⟩ ∧ mixUs ByteArray.empty ⟨#[97, 98]⟩ ⟨#[2]⟩ = 1 := by decide +kernel
theorem big_cases {a b c m n : Nat} (h : ¬ (a ≤ m ∧ b ≤ m ∧ c ≤ n)) : m < a ∨ (a ≤ m ∧ m < b) ∨ (a ≤ m ∧ b ≤ m ∧ n < c) := by omega

theorem mixOf_list (o n c : ByteArray) : (mixOf o n c).data.toList = (mixL o.data.toList n.data.toList c.data.toList).1 := rfl
theorem mixOf_old (o n c : ByteArray) (h : ∀ u, chN c.data.toList u = 0) : mixOf o n c = o := str_ext (by rw [mixOf_list, mixL_old _ _ _ h])
theorem mixOf_new (o n c : ByteArray) (h : ∀ u, u < mixM o.data.toList n.data.toList → chN c.data.toList u = 1) : mixOf o n c = n := str_ext (by rw [mixOf_list, mixL_new _ _ _ h])
theorem mixOf_same (n c : ByteArray) : mixOf n n c = n ∧ mixUs n n c = 0 := ⟨str_ext (by rw [mixOf_list, mixL_same]), by show (mixL n.data.toList n.data.toList c.data.toList).2 = 0; rw [mixL_same]⟩
theorem mixUs_eq (o n c : ByteArray) : mixUs o n c = (unlL o.data.toList n.data.toList).length := mixL_used _ _ _
theorem mixUs_zero (o n c : ByteArray) : mixUs o n c = 0 ↔ o = n := by
  rw [mixUs_eq, List.length_eq_zero_iff, unlL_nil]
  exact ⟨fun h => str_ext h, fun h => by rw [h]⟩
theorem chN_nil (u : Nat) : chN ByteArray.empty.data.toList u = 0 := if_pos (Nat.zero_le _)
/-- Forty bytes 1. -/
def onesS : ByteArray := ⟨(List.replicate 40 (1 : UInt8)).toArray⟩
theorem chN_ones (u : Nat) (h : u < 40) : chN onesS.data.toList u = 1 := by
  have : ∀ u, u < 40 → chN onesS.data.toList u = 1 := by decide +kernel
  exact this u h

theorem bcell6 {W w1 : World} (hb : Below W.heap.size W w1) : (∀ b o, b < W.heap.size → w1.cell? ⟨b, o, none⟩ = W.cell? ⟨b, o, none⟩) ∧ (∀ b o, b < W.heap.size → w1.frozen? ⟨b, o, none⟩ = W.frozen? ⟨b, o, none⟩) :=
  ⟨fun b o h => hb.cell (p := ⟨b, o, none⟩) h, fun b o h => hb.frozen (p := ⟨b, o, none⟩) h⟩
/-- A row of forty bytes whose first k are 1. -/
def onk (k : Nat) : Array Value := ((List.range 40).map fun i => Value.int .u8 (if i < k then 1 else 0)).toArray
theorem onk_zero : zs 40 = onk 0 := by
  refine Array.ext (by rw [zs_size]; simp [onk]) fun i h1 h2 => ?_
  rw [zs_size] at h1
  have := zs_get 40 i h1
  rw [Array.getElem?_eq_getElem (by rw [zs_size]; exact h1)] at this
  rw [Option.some.inj this]
  simp [onk]
theorem onk_set (k : Nat) : (onk k).setIfInBounds k (.int .u8 1) = onk (k + 1) := by
  refine Array.ext (by simp [onk]) fun i h1 h2 => ?_
  rw [Array.getElem_setIfInBounds]
  · simp only [onk, List.getElem_toArray, List.getElem_map, List.getElem_range]
    split
    · rename_i h; subst h; simp
    · rename_i h
      congr 1
      by_cases g : i < k
      · rw [if_pos g, if_pos (by omega)]
      · rw [if_neg g, if_neg (by omega)]
  · simpa [onk] using h2
theorem onk_cell (w : World) (t : TypeId) (k j : Nat) (h : j < 40) : (w.alloc (.cells (onk k) t)).cell? ⟨w.heap.size, j, none⟩ = some (.int .u8 (if j < k then 1 else 0)) := by
  rw [World.cell?_alloc_new]
  simp [onk, h]
theorem ones_conv (w : World) (g : Nat) (h : ∀ i, i < 40 → w.cell? ⟨g, i, none⟩ = some (.int .u8 1)) : (convert 183 9 (.slice (some ⟨g, 0, none⟩) 40 40)).run Tryz.prog w = .ok (.string onesS) w := by
  have e : strOfNums (List.replicate 40 1) = onesS := by decide +kernel
  rw [← e]
  refine run_convert_bytes_arg _ 183 5 Tryz.underlying183 Tryz.underlying5 _ 0 40 40 (List.replicate 40 1) (by simp) (fun i hi => ?_) 9 Tryz.underlying9
  rw [Nat.zero_add, h i hi, List.getD_eq_getElem?_getD, List.getElem?_replicate, if_pos hi]
  rfl

theorem mixOf_size (o n c : ByteArray) : (mixOf o n c).size ≤ max o.size n.size := by
  have := mixL_max o.data.toList n.data.toList c.data.toList
  rw [← mixOf_list] at this
  simpa using this
theorem mixOf_ok (o n c : ByteArray) (i : Nat) (h : i < (mixOf o n c).size) : okB o.data.toList n.data.toList i ((mixOf o n c)[i]'h).toNat := by
  have h' : i < (mixL o.data.toList n.data.toList c.data.toList).1.length := by rw [← mixOf_list]; simpa using h
  have := mixL_ok o.data.toList n.data.toList c.data.toList i h'
  rw [← mixOf_list, bt_get _ i h] at this
  exact this
/-- How a byte that is left stands: the four ways of the law's test. -/
theorem ok_ways (o n : ByteArray) (i b : Nat) (h : okB o.data.toList n.data.toList i b) :
    b = 0 ∨ (¬ b = 0 ∧ ∃ h : i < o.size, (o[i]'h).toNat = b) ∨ (¬ b = 0 ∧ o.size ≤ i ∧ ∃ h : i < n.size, (n[i]'h).toNat = b) ∨ (¬ b = 0 ∧ (∃ h : i < o.size, ¬ (o[i]'h).toNat = b) ∧ ∃ h : i < n.size, (n[i]'h).toNat = b) := by
  by_cases hb : b = 0
  · exact .inl hb
  rcases h with h | ⟨h1, h2⟩ | ⟨h1, h2⟩
  · exact .inl h
  · have h1' : i < o.size := by simpa using h1
    rw [bt_get o i h1'] at h2
    exact .inr (.inl ⟨hb, h1', h2⟩)
  · have h1' : i < n.size := by simpa using h1
    rw [bt_get n i h1'] at h2
    by_cases ho : i < o.size
    · by_cases he : (o[i]'ho).toNat = b
      · exact .inr (.inl ⟨hb, ho, he⟩)
      · exact .inr (.inr (.inr ⟨hb, ⟨ho, he⟩, h1', h2⟩))
    · exact .inr (.inr (.inl ⟨hb, by omega, h1', h2⟩))

end Go.Proofs.YtfgecjlccngddaaGreat
