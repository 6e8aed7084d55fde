/-
  Arrays of two that come in: of texts, of numbers.
-/
import Derived.Test.YtncppnioaegjmaaOpen
import Derived.OpenShut
namespace Go.Proofs.Ytncppnioaegjmaa
open Go.RowKit Go.ChangeShapes Go.WideShapes Go.Deep

section
variable {H : Type} {enc : TypeId × Value → H} {P : Program} {w : World} {base : Nat} {spare : Nat → Bool} {held : Bool}
theorem okWide_array {t e : TypeId} {n : Nat} {r : Reach} {b0 : Nat} {v : Value} (ht : P.underlying t = some (.array n e)) (h : Value.okWide P w r b0 t v) : ∃ cs, v = .agg cs ∧ cs.size = P.cellsOf t := by
  simp only [Value.okWide, ht] at h
  obtain ⟨cs, h1, h2, _⟩ := h
  exact ⟨cs, h1, h2⟩
set_option maxRecDepth 100000 in
theorem open_two {t e : TypeId} {r : Reach} {b0 : Nat} {v : Value} {d : DataW H} {p : List MemPlace} (ht : P.underlying t = some (.array 2 e)) (hc : P.cellsOf t = 2) (he : P.cellsOf e = 1)
    (hv : Value.okWide P w r b0 t v) (h : DataW.Trod enc P w base spare held t v d p) :
    ∃ u0 u1 m y0 y1, v = .agg #[u0, u1] ∧ DataW.trod enc P w base spare held m e [u0] = some y0 ∧ DataW.trod enc P w base spare held m e [u1] = some y1 := by
  obtain ⟨cs, rfl, hz⟩ := okWide_array ht hv
  obtain ⟨n, hn⟩ := h
  rw [hc] at hz
  obtain ⟨u0, u1, rfl⟩ : ∃ u0 u1, cs = #[u0, u1] := by
    obtain ⟨l⟩ := cs
    match l, hz with
    | [u0, u1], _ => exact ⟨u0, u1, rfl⟩
  obtain ⟨xs, m, _, _, hl, hxl, hf⟩ := DataW.trod_array ht hn
  have hx0 := hf 0 (by omega)
  have hx1 := hf 1 (by omega)
  rw [List.getElem?_eq_getElem (by omega)] at hx0 hx1
  rw [he] at hx0 hx1
  exact ⟨u0, u1, m, xs[0], xs[1], rfl, by simpa [Value.cells] using hx0, by simpa [Value.cells] using hx1⟩
end
section
variable {H : Type} {enc : TypeId × Value → H} {w : World} {base : Nat} {spare : Nat → Bool} {held : Bool}
set_option maxRecDepth 100000 in
theorem open_int2 {r : Reach} {b0 : Nat} {v : Value} {d : DataW H} {p : List MemPlace} (hv : Value.okWide Try.prog w r b0 32 v) (h : DataW.Trod enc Try.prog w base spare held 32 v d p) (_ : ∀ x ∈ p, x.block < w.heap.size) :
    ∃ a b, v = .agg #[.int .i64 a, .int .i64 b] ∧ (-9223372036854775808 ≤ a ∧ a ≤ 9223372036854775807) ∧ (-9223372036854775808 ≤ b ∧ b ≤ 9223372036854775807) := by
  obtain ⟨u0, u1, m, y0, y1, rfl, h0, h1⟩ := open_two Try.underlying32 (by kernel_rfl) (by kernel_rfl) hv h
  obtain ⟨a, e0, _, w0⟩ := DataW.trod_int Try.underlying3 h0
  obtain ⟨b, e1, _, w1⟩ := DataW.trod_int Try.underlying3 h1
  have g0 : u0 = .int .i64 a := by simpa using e0
  have g1 : u1 = .int .i64 b := by simpa using e1
  subst g0 g1
  exact ⟨a, b, rfl, bounds_i64 w0, bounds_i64 w1⟩
end
end Go.Proofs.Ytncppnioaegjmaa
