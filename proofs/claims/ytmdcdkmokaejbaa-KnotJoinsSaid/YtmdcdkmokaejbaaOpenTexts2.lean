/-
  Rows of rows of texts that come in.
-/
import Derived.Test.YtmdcdkmokaejbaaOpenTexts
namespace Go.Proofs.Ytmdcdkmokaejbaa
open Go.RowKit Go.ChangeShapes Go.WideShapes Go.Deep
set_option linter.unusedVariables false
/-- A slice that reads as these rows. -/
def Texts2 (w : World) (a : Option Addr) (l : List (List ByteArray)) : Prop :=
  ∀ (k : Nat) (h : k < l.length), ∃ (ad : Addr) (ai : Option Addr) (ci : Nat), a = some ad ∧ ad.block < w.heap.size ∧ w.cell? (ad.add k) = some (.slice ai l[k].length ci) ∧ StrsH w ai l[k]
theorem Texts2.on {w w' : World} {a : Option Addr} {l : List (List ByteArray)} (h : Texts2 w a l) (hb : Below w.heap.size w w') : Texts2 w' a l := fun k hk => by
  obtain ⟨ad, ai, ci, e, hl, hc, hs⟩ := h k hk
  exact ⟨ad, ai, ci, e, Nat.lt_of_lt_of_le hl hb.size, (hb.cell (p := ad.add k) (by rw [add_block]; exact hl)).trans hc, hs.on hb⟩
section
variable {H : Type} {enc : TypeId × Value → H} {w : World} {base : Nat} {spare : Nat → Bool} {held : Bool}
set_option maxRecDepth 100000 in
theorem open_inner {n : Nat} {cs : List Value} {x : DataW H × List MemPlace} (h : DataW.trod enc Try.prog w base spare held n 22 cs = some x) :
    ∃ (a : Option Addr) (l : List ByteArray) (c : Nat), cs = [.slice a l.length c] ∧ StrsH w a l ∧ ∀ s ∈ l, s.size ≤ maxLen := by
  rcases open_slice Try.underlying22 h with ⟨h0, _⟩ | ⟨a, len, cap, m, n', D, Pl, hcs, _, hl, hm, hmm, _, hx⟩
  · exact ⟨none, [], 0, by simpa [Value.cells] using h0, fun k hk => absurd hk (by simp), fun s hs => absurd hs (by simp)⟩
  · have c1 : Try.prog.cellsOf 9 = 1 := by kernel_rfl
    have hx' : ∀ i, i < len → ∃ o : ByteArray, o.size ≤ maxLen ∧ w.cells? base (a.add (i * Try.prog.cellsOf 9)) (Try.prog.cellsOf 9) = some [.string o] := fun i hi => by
      obtain ⟨cs, h1, h2⟩ := hx i (by rw [hmm]; split <;> omega)
      obtain ⟨o, e, _, g⟩ := DataW.trod_string Try.underlying9 h2
      exact ⟨o, g, by rw [h1, e]⟩
    obtain ⟨V, hV⟩ := choose_lt hx'
    have hlen : ((List.range len).map V).length = len := by simp
    refine ⟨some a, (List.range len).map V, cap, by rw [hlen]; simpa [Value.cells] using hcs, fun k hk => ?_, fun s hs => ?_⟩
    · have hk' : k < len := by rw [hlen] at hk; exact hk
      have h1 := (hV k hk').2
      rw [c1, Nat.mul_one] at h1
      obtain ⟨_, hc⟩ := cells_get h1
      have q0 := hc 0 (by simp)
      refine ⟨a, rfl, ?_, ?_⟩
      · have := World.block_lt_of_cell? w _ q0
        rwa [add_block, add_block] at this
      · simpa [Addr.add] using q0
    · obtain ⟨i, hi, rfl⟩ := List.mem_map.1 hs
      exact (hV i (by simpa using hi)).1
set_option maxRecDepth 100000 in
theorem open_strrow2 {r : Reach} {b0 : Nat} {v : Value} {d : DataW H} {p : List MemPlace} (hv : Value.okWide Try.prog w r b0 40 v) (h : DataW.Trod enc Try.prog w base spare held 40 v d p) (_ : ∀ x ∈ p, x.block < w.heap.size) :
    ∃ (a : Option Addr) (l : List (List ByteArray)) (c : Nat), v = .slice a l.length c ∧ Texts2 w a l ∧ ∀ q ∈ l, ∀ s ∈ q, s.size ≤ maxLen := by
  rcases open_row Try.underlying40 hv h with rfl | ⟨a, len, cap, rfl, hlc, hcm, hx⟩
  · exact ⟨none, [], 0, rfl, fun k hk => absurd hk (by simp), fun s hs => absurd hs (by simp)⟩
  · have c1 : Try.prog.cellsOf 22 = 1 := by kernel_rfl
    obtain ⟨V, hV⟩ := choose_lt (α := List ByteArray) (p := fun i o => ∃ ai ci, w.cells? base (a.add (i * Try.prog.cellsOf 22)) (Try.prog.cellsOf 22) = some [.slice ai o.length ci] ∧ StrsH w ai o ∧ ∀ s ∈ o, s.size ≤ maxLen) (fun i hi => by
      obtain ⟨cs, n, x, h1, h2⟩ := hx i hi
      obtain ⟨ai, o, ci, e, hs, hf⟩ := open_inner h2
      exact ⟨o, ai, ci, by rw [h1, e], hs, hf⟩)
    have hlen : ((List.range len).map V).length = len := by simp
    refine ⟨some a, (List.range len).map V, cap, by rw [hlen], fun k hk => ?_, fun q hq => ?_⟩
    · have hk' : k < len := by rw [hlen] at hk; exact hk
      obtain ⟨ai, ci, h1, hs, _⟩ := hV k hk'
      rw [c1, Nat.mul_one] at h1
      obtain ⟨_, hc⟩ := cells_get h1
      have q0 := hc 0 (by simp)
      refine ⟨a, ai, ci, rfl, ?_, ?_, ?_⟩
      · have := World.block_lt_of_cell? w _ q0
        rwa [add_block, add_block] at this
      · simpa [Addr.add] using q0
      · simpa using hs
    · obtain ⟨i, hi, rfl⟩ := List.mem_map.1 hq
      obtain ⟨ai, ci, h1, hs, hf⟩ := hV i (by simpa using hi)
      exact hf
end
end Go.Proofs.Ytmdcdkmokaejbaa
