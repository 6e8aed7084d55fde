/-
  Counts that come in, read: one by value, and a row of them.
-/
import Derived.Test.YtapkkbiodfeooaaOpen
import Derived.Test.YtapkkbiodfeooaaLawTallyAdd
namespace Go.Proofs.Ytapkkbiodfeooaa
open Go.RowKit Go.ChangeShapes Go.WideShapes Go.Deep

section
variable {H : Type} {enc : TypeId × Value → H} {w : World} {base : Nat} {spare : Nat → Bool} {held : Bool}

theorem cells_count : Try.prog.cellsOf 24 = 3 := by kernel_rfl
theorem trod_count {n : Nat} {cs : List Value} {x : DataW H × List MemPlace} (h : DataW.trod enc Try.prog w base spare held n 24 cs = some x) :
    ∃ c : Cnt, c.fits ∧ cs = [.int .i64 c.b, .int .i64 c.r, .int .i64 c.l] := by
  obtain ⟨hl, hf⟩ := open_fields Try.underlying24 (by kernel_rfl) h
  rw [cells_count] at hl
  obtain ⟨u0, u1, u2, rfl⟩ : ∃ u0 u1 u2, cs = [u0, u1, u2] := by
    match cs, hl with
    | [u0, u1, u2], _ => exact ⟨u0, u1, u2, rfl⟩
  obtain ⟨m0, y0, h0⟩ := hf 0 _ (by simp) rfl
  obtain ⟨m1, y1, h1⟩ := hf 1 _ (by simp) rfl
  obtain ⟨m2, y2, h2⟩ := hf 2 _ (by simp) rfl
  obtain ⟨b, e0, _, w0⟩ := DataW.trod_int Try.underlying3 h0
  obtain ⟨r, e1, _, w1⟩ := DataW.trod_int Try.underlying3 h1
  obtain ⟨l, e2, _, w2⟩ := DataW.trod_int Try.underlying3 h2
  have g0 : u0 = .int .i64 b := by simpa using e0
  have g1 : u1 = .int .i64 r := by simpa using e1
  have g2 : u2 = .int .i64 l := by simpa using e2
  subst g0 g1 g2
  exact ⟨⟨b, r, l⟩, ⟨bounds_i64 w0, bounds_i64 w1, bounds_i64 w2⟩, rfl⟩

theorem open_count {r : Reach} {b0 : Nat} {v : Value} {d : DataW H} {p : List MemPlace} (hv : Value.okWide Try.prog w r b0 24 v) (h : DataW.Trod enc Try.prog w base spare held 24 v d p) (_ : ∀ x ∈ p, x.block < w.heap.size) :
    ∃ c : Cnt, v = cntV c.b c.r c.l ∧ c.fits := by
  obtain ⟨cs, rfl, _⟩ := okWide_struct Try.underlying24 hv
  obtain ⟨n, hn⟩ := h
  obtain ⟨c, hc, he⟩ := trod_count hn
  refine ⟨c, ?_, hc⟩
  have : cs.toList = [.int .i64 c.b, .int .i64 c.r, .int .i64 c.l] := by simpa [Value.cells] using he
  show Value.agg cs = _
  rw [show cs = #[.int .i64 c.b, .int .i64 c.r, .int .i64 c.l] from Array.toList_inj.1 this]

theorem open_counts {r : Reach} {b0 : Nat} {v : Value} {d : DataW H} {p : List MemPlace} (hv : Value.okWide Try.prog w r b0 28 v) (h : DataW.Trod enc Try.prog w base spare held 28 v d p) (_ : ∀ x ∈ p, x.block < w.heap.size) :
    ∃ (a : Option Addr) (l : List Cnt) (c : Nat), v = .slice a l.length c ∧ Cnts w w.heap.size a l := by
  rcases open_row Try.underlying28 hv h with rfl | ⟨a, len, cap, rfl, _, _, hx⟩
  · exact ⟨none, [], 0, rfl, fun k hk => absurd hk (by simp)⟩
  · haveI : Inhabited Cnt := ⟨⟨0, 0, 0⟩⟩
    obtain ⟨V, hV⟩ := choose_lt (α := Cnt) (p := fun i c => w.cells? base (a.add (i * Try.prog.cellsOf 24)) (Try.prog.cellsOf 24) = some [.int .i64 c.b, .int .i64 c.r, .int .i64 c.l]) (fun i hi => by
      obtain ⟨cs, n, x, h1, h2⟩ := hx i hi
      obtain ⟨c, _, rfl⟩ := trod_count h2
      exact ⟨c, h1⟩)
    have hlen : ((List.range len).map V).length = len := by simp
    refine ⟨some a, (List.range len).map V, cap, by rw [hlen], fun k hk => ?_⟩
    have hk' : k < len := by rw [hlen] at hk; exact hk
    have h1 := hV k hk'
    rw [cells_count] at h1
    obtain ⟨_, hc⟩ := cells_get h1
    have q0 := hc 0 (by simp)
    have q1 := hc 1 (by simp)
    have q2 := hc 2 (by simp)
    have hb : (a.add (k * 3)).block = a.block := block_of_add _ _
    refine ⟨a, rfl, ?_, ?_, ?_, ?_⟩
    · have := World.block_lt_of_cell? w _ q0
      rwa [block_of_add, hb] at this
    · simpa [Addr.add] using q0
    · simpa [Addr.add] using q1
    · simpa [Addr.add] using q2
end
end Go.Proofs.Ytapkkbiodfeooaa
