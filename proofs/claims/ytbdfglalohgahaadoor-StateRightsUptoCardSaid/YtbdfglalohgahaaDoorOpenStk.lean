/-
  Stacks of steps as they come in.
-/
import Derived.Test.YtbdfglalohgahaaDoorOpenStp
import Derived.Test.YtbdfglalohgahaaDoorJStkRow
namespace Go.Proofs.YtbdfglalohgahaaDoor
open Go.RowKit Go.ChangeShapes Go.WideShapes Go.Deep
set_option linter.unusedVariables false

section
variable {H : Type} {enc : TypeId × Value → H} {w : World} {base : Nat} {spare : Nat → Bool} {held : Bool}
set_option maxRecDepth 100000 in
theorem open_stk {r : Reach} {b0 : Nat} {v : Value} {d : DataW H} {p : List MemPlace} (hv : Value.okWide Tryd.prog w r b0 23 v) (h : DataW.Trod enc Tryd.prog w base spare held 23 v d p) (_ : ∀ x ∈ p, x.block < w.heap.size) :
    ∃ (a : Option Addr) (l : List EPc) (c : Nat), v = .slice a l.length c ∧ SPcs w ⟨a, l, c⟩ ∧ ∀ x ∈ l, (x.l.length ≤ x.c ∧ x.c ≤ maxLen) ∧ ∀ y ∈ x.l, y.fits := by
  rcases open_row Tryd.underlying23 hv h with rfl | ⟨a, len, cap, rfl, hlc, hcm, hx⟩
  · exact ⟨none, [], 0, rfl, SPcs.empty w, fun x hx => absurd hx (by simp)⟩
  · obtain ⟨V, hV⟩ := choose_lt (α := EPc) (p := fun i x => EPcs w x ∧ ((x.l.length ≤ x.c ∧ x.c ≤ maxLen) ∧ ∀ y ∈ x.l, y.fits) ∧ w.cells? base (a.add (i * Tryd.prog.cellsOf 38)) (Tryd.prog.cellsOf 38) = some [x.v]) (fun i hi => by
      obtain ⟨cs, n, x, h1, h2⟩ := hx i hi
      obtain ⟨a1, l1, c1, e, he, hl, hf⟩ := trod_stp h2
      exact ⟨⟨a1, l1, c1⟩, he, ⟨hl, hf⟩, by rw [h1, e]; rfl⟩)
    have hlen : ((List.range len).map V).length = len := by simp
    have hget : ∀ k, k < len → ((List.range len).map V)[k]! = V k := fun k hk => by rw [epget (by rw [hlen]; exact hk)]; simp
    refine ⟨some a, (List.range len).map V, cap, by rw [hlen], ⟨fun k hk => ?_, fun x hx => ?_, fun e => (by cases e), by rw [hlen]; exact hlc, hcm⟩, fun x hx => ?_⟩
    · have hk' : k < len := by
        have h : k < ((List.range len).map V).length := hk
        rwa [hlen] at h
      have h1 := (hV k hk').2.2
      rw [cells_stp, Nat.mul_one] at h1
      obtain ⟨_, hc⟩ := cells_get h1
      have q0 := hc 0 (by simp)
      refine ⟨a, rfl, ?_, ?_⟩
      · have := World.block_lt_of_cell? w _ q0
        rwa [stk_block, stk_block] at this
      · show w.cell? (a.add k) = some (((List.range len).map V)[k]!).v
        rw [hget k hk']
        simpa [Addr.add] using q0
    · obtain ⟨i, hi, rfl⟩ := List.mem_map.1 hx
      exact (hV i (List.mem_range.1 hi)).1
    · obtain ⟨i, hi, rfl⟩ := List.mem_map.1 hx
      exact (hV i (List.mem_range.1 hi)).2.1
end
end Go.Proofs.YtbdfglalohgahaaDoor
