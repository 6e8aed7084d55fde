/-
  A new row of bytes turned into a text.
-/
import Derived.Test.YthboipmlkgmofaaRows
import Derived.Test.YthboipmlkgmofaaCommon
namespace Go.Proofs.Ythboipmlkgmofaa
open Go.RowKit

theorem conv_row (xs : List Int) (n : Nat) (hn : xs.length = n) (w : World) :
    (convert 68 9 (.slice (some ⟨w.heap.size, 0, none⟩) n n)).run Try.prog (w.alloc (.cells (xs.map (Value.int .u8)).toArray 5)) = .ok (.string (strOfNums xs)) (w.alloc (.cells (xs.map (Value.int .u8)).toArray 5)) := by
  refine run_convert_bytes_arg _ 68 5 Try.underlying68 Try.underlying5 _ 0 n n xs hn (fun i hi => ?_) 9 Try.underlying9
  rw [Nat.zero_add, World.cell?_alloc_new]
  simp [List.getD_eq_getElem?_getD, List.getElem?_eq_getElem (show i < xs.length by omega)]

/-- A row of bytes of the call's own turned into a text. -/
theorem own_string {w : World} {base n : Nat} {v : Value} {l : List UInt8} (h : w.ownsRow base 5 1 v n (l.map fun b => Value.int .u8 (b.toNat : Nat))) :
    (convert 68 9 v).run Try.prog w = .ok (.string ⟨l.toArray⟩) w := by
  obtain ⟨hlen, h⟩ := h
  rw [List.length_map, Nat.mul_one] at hlen
  rcases h with ⟨rfl, rfl⟩ | ⟨g, cap, cur, rfl, _, hg, _, _, _, htake⟩
  · obtain rfl : l = [] := List.eq_nil_of_length_eq_zero hlen
    exact run_convert_bytes_nil w 68 5 Try.underlying68 Try.underlying5 0 0 9 Try.underlying9
  · subst hlen
    refine run_convert_bytes_back w 68 9 5 ⟨g, 0, none⟩ cap l Try.underlying68 Try.underlying5 Try.underlying9 fun j hj => ?_
    have hplain : (⟨g, 0, none⟩ : Addr).add j = ⟨g, 0 + j, none⟩ := by unfold Addr.add; split <;> simp_all
    rw [hplain, Nat.zero_add]
    have h2 : cur[j]? = some (.int .u8 ((l[j].toNat : Nat) : Int)) := by
      have h3 := congrArg (fun x => x[j]?) htake
      simp only [Nat.mul_one] at h3
      rw [List.getElem?_take_of_lt hj, List.getElem?_map, List.getElem?_eq_getElem hj] at h3
      simpa using h3
    show w.cell? ⟨g, j, none⟩ = _
    simp [World.cell?, hg, h2]
/-- Its block is one of the call's own. -/
theorem own_block {w : World} {base e size n : Nat} {v : Value} {xs : List Value} (h : w.ownsRow base e size v n xs) : ∀ k, v.ownBlock = some k → base ≤ k := by
  intro k hk
  rcases h.2 with ⟨rfl, _⟩ | ⟨g, cap, cur, rfl, hb, _⟩
  · simp [Value.ownBlock] at hk
  · simp [Value.ownBlock] at hk; omega
end Go.Proofs.Ythboipmlkgmofaa
