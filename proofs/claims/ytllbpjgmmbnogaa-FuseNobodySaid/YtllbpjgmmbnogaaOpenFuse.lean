/-
  A script of calls of a fuse that comes in, read; a row of bools.
-/
import Derived.Test.YtllbpjgmmbnogaaOpen
import Derived.Test.YtllbpjgmmbnogaaLawFuse2
import Derived.Test.YtllbpjgmmbnogaaLawFuse3
namespace Go.Proofs.Ytllbpjgmmbnogaa
open Go.RowKit Go.ChangeShapes Go.WideShapes Go.Deep

section
variable {H : Type} {enc : TypeId × Value → H} {w : World} {base : Nat} {spare : Nat → Bool} {held : Bool}

theorem blk_add (a : Addr) (k : Nat) : (a.add k).block = a.block := by unfold Addr.add; split <;> rfl
theorem cells_fault : Try.prog.cellsOf 30 = 2 := by kernel_rfl
theorem cells_op10 : Try.prog.cellsOf 32 = 3 := by kernel_rfl
theorem trod_fault {n : Nat} {cs : List Value} {x : DataW H × List MemPlace} (h : DataW.trod enc Try.prog w base spare held n 30 cs = some x) :
    ∃ k i : Int, i ≤ 9223372036854775807 ∧ cs = [.int .i64 k, .int .i64 i] := by
  obtain ⟨hl, hf⟩ := open_fields Try.underlying30 (by kernel_rfl) h
  rw [cells_fault] at hl
  obtain ⟨u0, u1, rfl⟩ : ∃ u0 u1, cs = [u0, u1] := by
    match cs, hl with
    | [u0, u1], _ => exact ⟨u0, u1, rfl⟩
  obtain ⟨m0, y0, h0⟩ := hf 0 _ (by simp) rfl
  obtain ⟨m1, y1, h1⟩ := hf 1 _ (by simp) rfl
  obtain ⟨k, e0, _, w0⟩ := DataW.trod_int Try.underlying3 h0
  obtain ⟨i, e1, _, w1⟩ := DataW.trod_int Try.underlying3 h1
  have g0 : u0 = .int .i64 k := by simpa using e0
  have g1 : u1 = .int .i64 i := by simpa using e1
  subst g0 g1
  exact ⟨k, i, (bounds_i64 w1).2, rfl⟩

theorem trod_op10 {n : Nat} {cs : List Value} {x : DataW H × List MemPlace} (h : DataW.trod enc Try.prog w base spare held n 32 cs = some x) :
    ∃ o : Op10, o.fits ∧ cs = [.int .i64 o.k, .int .i64 o.fk, .int .i64 o.fn] := by
  obtain ⟨xs, m, _, _, hl, hxl, hf⟩ := DataW.trod_struct Try.underlying32 h
  rw [cells_op10] at hl
  obtain ⟨u0, u1, u2, rfl⟩ : ∃ u0 u1 u2, cs = [u0, u1, u2] := by
    match cs, hl with
    | [u0, u1, u2], _ => exact ⟨u0, u1, u2, rfl⟩
  have hx2 : xs.length = 2 := hxl
  have h0 := hf 0 _ rfl
  have h1 := hf 1 _ rfl
  rw [List.getElem?_eq_getElem (by omega)] at h0 h1
  have c1 : Try.prog.cellsOf 3 = 1 := by kernel_rfl
  have h0' : DataW.trod enc Try.prog w base spare held m 3 [u0] = some xs[0] := by simpa [c1] using h0
  have h1' : DataW.trod enc Try.prog w base spare held m 30 [u1, u2] = some xs[1] := by simpa [cells_fault] using h1
  obtain ⟨k, e0, _, w0⟩ := DataW.trod_int Try.underlying3 h0'
  obtain ⟨fk, fn, hb, e1⟩ := trod_fault h1'
  have g0 : u0 = .int .i64 k := by simpa using e0
  have g1 : u1 = .int .i64 fk ∧ u2 = .int .i64 fn := by simpa using e1
  obtain ⟨rfl, rfl⟩ := g1
  subst g0
  exact ⟨⟨k, fk, fn⟩, hb, rfl⟩

theorem open_ops10 {r : Reach} {b0 : Nat} {v : Value} {d : DataW H} {p : List MemPlace} (hv : Value.okWide Try.prog w r b0 22 v) (h : DataW.Trod enc Try.prog w base spare held 22 v d p) (_ : ∀ x ∈ p, x.block < w.heap.size) :
    ∃ (a : Option Addr) (l : List Op10) (c : Nat), v = .slice a l.length c ∧ Op10s w w.heap.size a l ∧ (∀ x ∈ l, x.fits) ∧ l.length ≤ maxLen := by
  rcases open_row Try.underlying22 hv h with rfl | ⟨a, len, cap, rfl, hlc, hcm, hx⟩
  · exact ⟨none, [], 0, rfl, fun k hk => absurd hk (by simp), by simp, by simp⟩
  · haveI : Inhabited Op10 := ⟨⟨0, 0, 0⟩⟩
    obtain ⟨V, hV⟩ := choose_lt (α := Op10) (p := fun i o => o.fits ∧ w.cells? base (a.add (i * Try.prog.cellsOf 32)) (Try.prog.cellsOf 32) = some [.int .i64 o.k, .int .i64 o.fk, .int .i64 o.fn]) (fun i hi => by
      obtain ⟨cs, n, x, h1, h2⟩ := hx i hi
      obtain ⟨o, hf, rfl⟩ := trod_op10 h2
      exact ⟨o, hf, h1⟩)
    have hlen : ((List.range len).map V).length = len := by simp
    refine ⟨some a, (List.range len).map V, cap, by rw [hlen], fun k hk => ?_, fun o ho => ?_, by rw [hlen]; omega⟩
    · have hk' : k < len := by rw [hlen] at hk; exact hk
      have h1 := (hV k hk').2
      rw [cells_op10] at h1
      obtain ⟨_, hc⟩ := cells_get h1
      have q0 := hc 0 (by simp)
      have q1 := hc 1 (by simp)
      have q2 := hc 2 (by simp)
      have hb : (a.add (k * 3)).block = a.block := blk_add _ _
      refine ⟨a, rfl, ?_, ?_, ?_, ?_⟩
      · have := World.block_lt_of_cell? w _ q0
        rwa [blk_add, hb] at this
      · simpa [Addr.add] using q0
      · simpa [Addr.add] using q1
      · simpa [Addr.add] using q2
    · obtain ⟨i, hi, rfl⟩ := List.mem_map.1 ho
      exact (hV i (by simpa using hi)).1

theorem open_boolrow {r : Reach} {b0 : Nat} {v : Value} {d : DataW H} {p : List MemPlace} (hv : Value.okWide Try.prog w r b0 39 v) (h : DataW.Trod enc Try.prog w base spare held 39 v d p) (_ : ∀ x ∈ p, x.block < w.heap.size) :
    ∃ (a : Option Addr) (l : List Bool) (c : Nat), v = .slice a l.length c ∧ Bools w w.heap.size a l := by
  rcases open_row Try.underlying39 hv h with rfl | ⟨a, len, cap, rfl, hlc, hcm, hx⟩
  · exact ⟨none, [], 0, rfl, fun k hk => absurd hk (by simp)⟩
  · have c1 : Try.prog.cellsOf 4 = 1 := by kernel_rfl
    obtain ⟨V, hV⟩ := choose_lt (α := Bool) (p := fun i o => w.cells? base (a.add (i * Try.prog.cellsOf 4)) (Try.prog.cellsOf 4) = some [.bool o]) (fun i hi => by
      obtain ⟨cs, n, x, h1, h2⟩ := hx i hi
      obtain ⟨o, e, _⟩ := DataW.trod_bool Try.underlying4 h2
      exact ⟨o, by rw [h1, e]⟩)
    have hlen : ((List.range len).map V).length = len := by simp
    refine ⟨some a, (List.range len).map V, cap, by rw [hlen], fun k hk => ?_⟩
    have hk' : k < len := by rw [hlen] at hk; exact hk
    have h1 := hV k hk'
    rw [c1, Nat.mul_one] at h1
    obtain ⟨_, hc⟩ := cells_get h1
    have q0 := hc 0 (by simp)
    refine ⟨a, rfl, ?_, ?_⟩
    · have := World.block_lt_of_cell? w _ q0
      rwa [blk_add, blk_add] at this
    · simpa [Addr.add] using q0
end
end Go.Proofs.Ytllbpjgmmbnogaa
