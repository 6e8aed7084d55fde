/-
  Rows of texts that come in. (As XOpenStrs, over XStrs: do not import beside it.)
-/
import Derived.Test.YtmdcdkmokaejbaaStrs
import Derived.Test.YtmdcdkmokaejbaaOpen
import Derived.OpenShut
namespace Go.Proofs.Ytmdcdkmokaejbaa
open Go.RowKit Go.ChangeShapes Go.WideShapes Go.Deep
section
variable {H : Type} {enc : TypeId × Value → H} {w : World} {base : Nat} {spare : Nat → Bool} {held : Bool}
set_option maxRecDepth 100000 in
theorem open_strrow {r : Reach} {b0 : Nat} {v : Value} {d : DataW H} {p : List MemPlace} (hv : Value.okWide Try.prog w r b0 22 v) (h : DataW.Trod enc Try.prog w base spare held 22 v d p) (_ : ∀ x ∈ p, x.block < w.heap.size) :
    ∃ (a : Option Addr) (l : List ByteArray) (c : Nat), v = .slice a l.length c ∧ Strs w (· < w.heap.size) a l ∧ ∀ s ∈ l, s.size ≤ maxLen := by
  rcases open_row Try.underlying22 hv h with rfl | ⟨a, len, cap, rfl, hlc, hcm, hx⟩
  · exact ⟨none, [], 0, rfl, fun k hk => absurd hk (by simp), fun s hs => absurd hs (by simp)⟩
  · have c1 : Try.prog.cellsOf 9 = 1 := by kernel_rfl
    obtain ⟨V, hV⟩ := choose_lt (α := ByteArray) (p := fun i o => o.size ≤ maxLen ∧ w.cells? base (a.add (i * Try.prog.cellsOf 9)) (Try.prog.cellsOf 9) = some [.string o]) (fun i hi => by
      obtain ⟨cs, n, x, h1, h2⟩ := hx i hi
      obtain ⟨o, e, _, g⟩ := DataW.trod_string Try.underlying9 h2
      exact ⟨o, g, by rw [h1, e]⟩)
    have hlen : ((List.range len).map V).length = len := by simp
    refine ⟨some a, (List.range len).map V, cap, by rw [hlen], fun k hk => ?_, fun s hs => ?_⟩
    · have hk' : k < len := by rw [hlen] at hk; exact hk
      have h1 := (hV k hk').2
      rw [c1, Nat.mul_one] at h1
      obtain ⟨_, hc⟩ := cells_get h1
      have q0 := hc 0 (by simp)
      refine ⟨a, rfl, ?_, ?_⟩
      · have := World.block_lt_of_cell? w _ q0
        rwa [add_block, add_block] at this
      · simpa [Addr.add] using q0
    · obtain ⟨i, hi, rfl⟩ := List.mem_map.1 hs
      exact (hV i (by simpa using hi)).1
end
end Go.Proofs.Ytmdcdkmokaejbaa
