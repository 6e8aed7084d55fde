/-
  A row of operations as it comes in, with its room.
-/
import Derived.Test.YtbagenpobcgjnaaGreatJOpRef
namespace Go.Proofs.YtbagenpobcgjnaaGreat
open Go.RowKit Go.ChangeShapes Go.WideShapes Go.Deep
set_option linter.unusedVariables false

section
variable {H : Type} {enc : TypeId × Value → H} {w : World} {base : Nat} {spare : Nat → Bool} {held : Bool}
set_option maxRecDepth 100000 in
theorem open_oprc {r : Reach} {b0 : Nat} {v : Value} {d : DataW H} {p : List MemPlace} (hv : Value.okWide Tryz.prog w r b0 27 v) (h : DataW.Trod enc Tryz.prog w base spare held 27 v d p) (_ : ∀ x ∈ p, x.block < w.heap.size) :
    ∃ (a : Option Addr) (l : List oo) (c : Nat), v = .slice a l.length c ∧ qk w (· < w.heap.size) a l ∧ (∀ x ∈ l, x.fits) ∧ l.length ≤ c ∧ c ≤ maxLen ∧ (a = none → c = 0) := by
  rcases open_row Tryz.underlying27 hv h with rfl | ⟨a, len, cap, rfl, hlc, hcm, hx⟩
  · exact ⟨none, [], 0, rfl, fun k hk => absurd hk (by simp), fun x hx => absurd hx (by simp), Nat.le_refl _, Nat.zero_le _, fun _ => rfl⟩
  · haveI : Inhabited oo := ⟨⟨0, 0, 0, ByteArray.empty⟩⟩
    obtain ⟨V, hV⟩ := choose_lt (α := oo) (p := fun i x => x.fits ∧ w.cells? base (a.add (i * Tryz.prog.cellsOf 50)) (Tryz.prog.cellsOf 50) = some [.int .i64 x.k, .int .i64 x.a, .int .i64 x.n, .string x.s]) (fun i hi => by
      obtain ⟨cs, n, x, h1, h2⟩ := hx i hi
      obtain ⟨c, hf, rfl⟩ := LL h2
      exact ⟨c, hf, h1⟩)
    have hlen : ((List.range len).map V).length = len := by simp
    refine ⟨some a, (List.range len).map V, cap, by rw [hlen], fun k hk => ?_, fun x hx => ?_, by rw [hlen]; exact hlc, hcm, fun e => by cases e⟩
    · have hk' : k < len := by rw [hlen] at hk; exact hk
      have h1 := (hV k hk').2
      rw [rH] at h1
      obtain ⟨_, hc⟩ := iH h1
      have hbl : (a.add (k * 4)).block = a.block := by unfold Addr.add; split <;> rfl
      have q0 := hc 0 (by simp)
      have q1 := hc 1 (by simp)
      have q2 := hc 2 (by simp)
      have q3 := hc 3 (by simp)
      refine ⟨a, rfl, ?_, ?_, ?_, ?_, ?_⟩
      · have := World.block_lt_of_cell? w _ q0
        rwa [show ((a.add (k * 4)).add 0).block = (a.add (k * 4)).block by unfold Addr.add; simp, hbl] at this
      · simpa [Addr.add] using q0
      · simpa [Addr.add] using q1
      · simpa [Addr.add] using q2
      · simpa [Addr.add] using q3
    · obtain ⟨i, hi, rfl⟩ := List.mem_map.1 hx
      exact (hV i (List.mem_range.1 hi)).1
end
end Go.Proofs.YtbagenpobcgjnaaGreat
