/-
  A step as it comes in: a struct of one row of edits.
-/
import Derived.Test.YtbdfglalohgahaaDoorOpen
import Derived.Test.YtbdfglalohgahaaDoorJMrk
namespace Go.Proofs.YtbdfglalohgahaaDoor
open Go.RowKit Go.ChangeShapes Go.WideShapes Go.Deep
set_option linter.unusedVariables false

section
variable {H : Type} {enc : TypeId × Value → H} {P : Program} {w : World} {base : Nat} {spare : Nat → Bool} {held : Bool}
/-- A cell that holds a slice: nil, or a row whose elements read as their type asks. -/
theorem open_row1 {t e : TypeId} {n : Nat} {u : Value} {x : DataW H × List MemPlace} (ht : P.underlying t = some (.slice e)) (h : DataW.trod enc P w base spare held n t [u] = some x) :
    u = .slice none 0 0 ∨
    ∃ (a : Addr) (len cap : Nat), u = .slice (some a) len cap ∧ len ≤ cap ∧ cap ≤ maxLen ∧
      ∀ i, i < len → ∃ (cs : List Value) (n : Nat) (x : DataW H × List MemPlace), w.cells? base (a.add (i * P.cellsOf e)) (P.cellsOf e) = some cs ∧ DataW.trod enc P w base spare held n e cs = some x := by
  rcases open_slice ht h with ⟨h0, _⟩ | ⟨a', len', cap', m, n', D, Pl, hcs, _, hl, hm, hmm, _, hx⟩
  · left
    simpa using h0
  · right
    have e1 : u = .slice (some a') len' cap' := by simpa using hcs
    refine ⟨a', len', cap', e1, hl, hm, fun i hi => ?_⟩
    obtain ⟨cs, h1, h2⟩ := hx i (by rw [hmm]; split <;> omega)
    exact ⟨cs, n', _, h1, h2⟩
end

section
variable {H : Type} {enc : TypeId × Value → H} {w : World} {base : Nat} {spare : Nat → Bool} {held : Bool}
set_option maxRecDepth 100000 in
/-- A row of edits that a cell holds. -/
theorem open_ecell {n : Nat} {u : Value} {x : DataW H × List MemPlace} (h : DataW.trod enc Tryd.prog w base spare held n 24 [u] = some x) :
    ∃ (a : Option Addr) (l : List Edt) (c : Nat), u = .slice a l.length c ∧ EPcs w ⟨a, l, c⟩ ∧ (l.length ≤ c ∧ c ≤ maxLen) ∧ ∀ x ∈ l, x.fits := by
  rcases open_row1 Tryd.underlying24 h with rfl | ⟨a, len, cap, rfl, hlc, hcm, hx⟩
  · exact ⟨none, [], 0, rfl, ⟨fun k hk => absurd hk (by simp), fun _ => rfl⟩, ⟨Nat.le_refl _, Nat.zero_le _⟩, fun x hx => absurd hx (by simp)⟩
  · obtain ⟨V, hV⟩ := choose_lt (α := Edt) (p := fun i x => x.fits ∧ w.cells? base (a.add (i * Tryd.prog.cellsOf 36)) (Tryd.prog.cellsOf 36) = some [.int .i64 x.p, .string x.o, .string x.n]) (fun i hi => by
      obtain ⟨cs, n, x, h1, h2⟩ := hx i hi
      obtain ⟨c, hf, rfl⟩ := trod_edt h2
      exact ⟨c, hf, h1⟩)
    have hlen : ((List.range len).map V).length = len := by simp
    refine ⟨some a, (List.range len).map V, cap, by rw [hlen], ⟨fun k hk => ?_, fun e => by cases e⟩, ⟨by rw [hlen]; exact hlc, hcm⟩, fun x hx => ?_⟩
    · have hk' : k < len := by rw [hlen] at hk; exact hk
      have h1 := (hV k hk').2
      rw [cells_edt] at h1
      obtain ⟨_, hc⟩ := cells_get h1
      have hbl : (a.add (k * 3)).block = a.block := by unfold Addr.add; split <;> rfl
      have q0 := hc 0 (by simp)
      have q1 := hc 1 (by simp)
      have q2 := hc 2 (by simp)
      refine ⟨a, rfl, ?_, ?_, ?_, ?_⟩
      · have := World.block_lt_of_cell? w _ q0
        rwa [show ((a.add (k * 3)).add 0).block = (a.add (k * 3)).block by unfold Addr.add; simp, hbl] at this
      · simpa [Addr.add] using q0
      · simpa [Addr.add] using q1
      · simpa [Addr.add] using q2
    · obtain ⟨i, hi, rfl⟩ := List.mem_map.1 hx
      exact (hV i (List.mem_range.1 hi)).1
theorem cells_stp : Tryd.prog.cellsOf 38 = 1 := by kernel_rfl
set_option maxRecDepth 100000 in
theorem trod_stp {n : Nat} {cs : List Value} {x : DataW H × List MemPlace} (h : DataW.trod enc Tryd.prog w base spare held n 38 cs = some x) :
    ∃ (a : Option Addr) (l : List Edt) (c : Nat), cs = [.slice a l.length c] ∧ EPcs w ⟨a, l, c⟩ ∧ (l.length ≤ c ∧ c ≤ maxLen) ∧ ∀ x ∈ l, x.fits := by
  obtain ⟨hl, hf⟩ := open_fields Tryd.underlying38 (by kernel_rfl) h
  rw [cells_stp] at hl
  obtain ⟨u0, rfl⟩ : ∃ u0, cs = [u0] := by
    match cs, hl with
    | [u0], _ => exact ⟨u0, rfl⟩
  obtain ⟨m0, y0, h0⟩ := hf 0 _ (by simp) rfl
  obtain ⟨a, l, c, e, h1⟩ := open_ecell h0
  have e : u0 = .slice a l.length c := by simpa using e
  subst e
  exact ⟨a, l, c, rfl, h1⟩
set_option maxRecDepth 100000 in
theorem open_stp {r : Reach} {b0 : Nat} {v : Value} {d : DataW H} {p : List MemPlace} (hv : Value.okWide Tryd.prog w r b0 38 v) (h : DataW.Trod enc Tryd.prog w base spare held 38 v d p) (_ : ∀ x ∈ p, x.block < w.heap.size) :
    ∃ (a : Option Addr) (l : List Edt) (c : Nat), v = .agg #[.slice a l.length c] ∧ EPcs w ⟨a, l, c⟩ ∧ (l.length ≤ c ∧ c ≤ maxLen) ∧ ∀ x ∈ l, x.fits := by
  obtain ⟨cs, rfl, _⟩ := okWide_struct Tryd.underlying38 hv
  obtain ⟨n, hn⟩ := h
  obtain ⟨a, l, c, he, h1⟩ := trod_stp hn
  refine ⟨a, l, c, ?_, h1⟩
  have : cs.toList = [.slice a l.length c] := by simpa [Value.cells] using he
  show Value.agg cs = _
  rw [show cs = #[.slice a l.length c] from Array.toList_inj.1 this]
end
end Go.Proofs.YtbdfglalohgahaaDoor
