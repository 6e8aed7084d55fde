/-
  Rows of ints that come in.
-/
import Derived.Test.YtlakebdldcnniaaStrs
import Derived.Test.YtlakebdldcnniaaOpen
import Derived.OpenShut
namespace Go.Proofs.Ytlakebdldcnniaa
open Go.RowKit Go.ChangeShapes Go.WideShapes Go.Deep
/-- A slice that reads as these numbers. -/
def Ints64 (w : World) (N : Nat) (a : Option Addr) (l : List Int) : Prop := ∀ (k : Nat) (h : k < l.length), ∃ ad, a = some ad ∧ ad.block < N ∧ w.cell? (ad.add k) = some (.int .i64 l[k])
theorem Ints64.on {w w' : World} {N : Nat} {a : Option Addr} {l : List Int} (h : Ints64 w N a l) (hb : Below N w w') : Ints64 w' N a l := fun k hk => by
  obtain ⟨ad, e, hn, q⟩ := h k hk
  exact ⟨ad, e, hn, (hb.cell (by rw [add_block]; exact hn)).trans q⟩
theorem wf_i64 {n : Int} (h : (Lit.int .i64 n).wf = true) : -9223372036854775808 ≤ n ∧ n ≤ 9223372036854775807 := by
  simp [Lit.wf, IntKind.min, IntKind.max, IntKind.bits, IntKind.signed] at h
  omega
section
variable {H : Type} {enc : TypeId × Value → H} {w : World} {base : Nat} {spare : Nat → Bool} {held : Bool}
set_option maxRecDepth 100000 in
theorem open_introw {r : Reach} {b0 : Nat} {v : Value} {d : DataW H} {p : List MemPlace} (hv : Value.okWide Try.prog w r b0 33 v) (h : DataW.Trod enc Try.prog w base spare held 33 v d p) (_ : ∀ x ∈ p, x.block < w.heap.size) :
    ∃ (a : Option Addr) (l : List Int) (c : Nat), v = .slice a l.length c ∧ Ints64 w w.heap.size a l ∧ ∀ x ∈ l, -9223372036854775808 ≤ x ∧ x ≤ 9223372036854775807 := by
  rcases open_row Try.underlying33 hv h with rfl | ⟨a, len, cap, rfl, hlc, hcm, hx⟩
  · exact ⟨none, [], 0, rfl, fun k hk => absurd hk (by simp), fun s hs => absurd hs (by simp)⟩
  · have c1 : Try.prog.cellsOf 3 = 1 := by kernel_rfl
    obtain ⟨V, hV⟩ := choose_lt (α := Int) (p := fun i o => (Lit.int .i64 o).wf = true ∧ w.cells? base (a.add (i * Try.prog.cellsOf 3)) (Try.prog.cellsOf 3) = some [.int .i64 o]) (fun i hi => by
      obtain ⟨cs, n, x, h1, h2⟩ := hx i hi
      obtain ⟨o, e, _, g⟩ := DataW.trod_int Try.underlying3 h2
      exact ⟨o, g, by rw [h1, e]⟩)
    have hlen : ((List.range len).map V).length = len := by simp
    refine ⟨some a, (List.range len).map V, cap, by rw [hlen], fun k hk => ?_, fun s hs => ?_⟩
    · have hk' : k < len := by rw [hlen] at hk; exact hk
      have h1 := (hV k hk').2
      rw [c1, Nat.mul_one] at h1
      obtain ⟨_, hc⟩ := cells_get h1
      have q0 := hc 0 (by simp)
      refine ⟨a, rfl, ?_, ?_⟩
      · have := World.block_lt_of_cell? w _ q0
        rwa [add_block, add_block] at this
      · simpa [Addr.add] using q0
    · obtain ⟨i, hi, rfl⟩ := List.mem_map.1 hs
      exact wf_i64 (hV i (by simpa using hi)).1
end
end Go.Proofs.Ytlakebdldcnniaa
