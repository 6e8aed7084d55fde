/-
  A struct of one-cell fields as it comes in, by value and in rows. (Written by gen_struct.py.)
-/
import Derived.Test.YtcoacbknhlnjmaaOpen
namespace Go.Proofs.Ytcoacbknhlnjmaa
open Go.RowKit Go.ChangeShapes Go.WideShapes Go.Deep
set_option linter.unusedVariables false

structure Op07 where
  k : Int
  m : Int
  s : ByteArray
def Op07.fits (x : Op07) : Prop := (-9223372036854775808 ≤ x.k ∧ x.k ≤ 9223372036854775807) ∧ (-9223372036854775808 ≤ x.m ∧ x.m ≤ 9223372036854775807) ∧ x.s.size ≤ maxLen
/-- Its value. -/
abbrev Op07.v (x : Op07) : Value := .agg #[.int .i64 x.k, .int .i64 x.m, .string x.s]
/-- A slice that reads as these; its row lies below B. -/
def Op07s (w : World) (B : Nat) (a : Option Addr) (l : List Op07) : Prop :=
  ∀ (k : Nat) (h : k < l.length), ∃ ad, a = some ad ∧ ad.block < B ∧ w.cell? (ad.add (k * 3)) = some (.int .i64 (l[k]).k) ∧ w.cell? ⟨(ad.add (k * 3)).block, (ad.add (k * 3)).off + 1, none⟩ = some (.int .i64 (l[k]).m) ∧ w.cell? ⟨(ad.add (k * 3)).block, (ad.add (k * 3)).off + 2, none⟩ = some (.string (l[k]).s)
theorem Op07s.keep {w w' : World} {B : Nat} {a : Option Addr} {l : List Op07} (h : Op07s w B a l) (hk : ∀ p : Addr, p.block < B → w'.cell? p = w.cell? p) : Op07s w' B a l := fun k hl => by
  obtain ⟨ad, e, hb, q0, q1, q2⟩ := h k hl
  exact ⟨ad, e, hb, (hk _ (by rw [show (ad.add (k * 3)).block = ad.block by unfold Addr.add; split <;> rfl]; exact hb)).trans q0, (hk _ (by show (ad.add (k * 3)).block < B; rw [show (ad.add (k * 3)).block = ad.block by unfold Addr.add; split <;> rfl]; exact hb)).trans q1, (hk _ (by show (ad.add (k * 3)).block < B; rw [show (ad.add (k * 3)).block = ad.block by unfold Addr.add; split <;> rfl]; exact hb)).trans q2⟩
theorem Op07s.below {w w' : World} {B : Nat} {a : Option Addr} {l : List Op07} (h : Op07s w B a l) (hb : Below B w w') : Op07s w' B a l := h.keep fun _ hp => hb.cell hp
theorem Op07s.more {w : World} {B B' : Nat} {a : Option Addr} {l : List Op07} (h : Op07s w B a l) (hB : B ≤ B') : Op07s w B' a l := fun k hl => by
  obtain ⟨ad, e, hb, h1⟩ := h k hl
  exact ⟨ad, e, by omega, h1⟩
theorem Op07s.mk {w : World} {B : Nat} {a : Addr} {l : List Op07} (hb : a.block < B) (h : ∀ k (hk : k < l.length) j (hj : j < 3), w.cell? ((a.add (k * 3)).add j) = #[.int .i64 (l[k]).k, .int .i64 (l[k]).m, .string (l[k]).s][j]?) : Op07s w B (some a) l := fun k hk => by
  have hbl : (a.add (k * 3)).block = a.block := by unfold Addr.add; split <;> rfl
  refine ⟨a, rfl, hb, ?_, ?_, ?_⟩
  · have := h k hk 0 (by omega)
    simpa [Addr.add] using this
  · have := h k hk 1 (by omega)
    simpa [Addr.add] using this
  · have := h k hk 2 (by omega)
    simpa [Addr.add] using this

section
variable {H : Type} {enc : TypeId × Value → H} {w : World} {base : Nat} {spare : Nat → Bool} {held : Bool}
theorem cells_op07 : Try.prog.cellsOf 29 = 3 := by kernel_rfl
theorem trod_op07 {n : Nat} {cs : List Value} {x : DataW H × List MemPlace} (h : DataW.trod enc Try.prog w base spare held n 29 cs = some x) :
    ∃ x : Op07, x.fits ∧ cs = [.int .i64 x.k, .int .i64 x.m, .string x.s] := by
  obtain ⟨hl, hf⟩ := open_fields Try.underlying29 (by kernel_rfl) h
  rw [cells_op07] at hl
  obtain ⟨u0, u1, u2, rfl⟩ : ∃ u0 u1 u2, cs = [u0, u1, u2] := by
    match cs, hl with
    | [u0, u1, u2], _ => exact ⟨u0, u1, u2, rfl⟩
  obtain ⟨m0, y0, h0⟩ := hf 0 _ (by simp) rfl
  obtain ⟨x0, e0, _, w0⟩ := DataW.trod_int Try.underlying3 h0
  have g0 : u0 = .int .i64 x0 := by simpa using e0
  obtain ⟨m1, y1, h1⟩ := hf 1 _ (by simp) rfl
  obtain ⟨x1, e1, _, w1⟩ := DataW.trod_int Try.underlying3 h1
  have g1 : u1 = .int .i64 x1 := by simpa using e1
  obtain ⟨m2, y2, h2⟩ := hf 2 _ (by simp) rfl
  obtain ⟨x2, e2, _, w2⟩ := DataW.trod_string Try.underlying9 h2
  have g2 : u2 = .string x2 := by simpa using e2
  subst g0 g1 g2
  exact ⟨⟨x0, x1, x2⟩, ⟨bounds_i64 w0, bounds_i64 w1, w2⟩, rfl⟩
theorem open_op07 {r : Reach} {b0 : Nat} {v : Value} {d : DataW H} {p : List MemPlace} (hv : Value.okWide Try.prog w r b0 29 v) (h : DataW.Trod enc Try.prog w base spare held 29 v d p) (_ : ∀ x ∈ p, x.block < w.heap.size) :
    ∃ x : Op07, v = x.v ∧ x.fits := by
  obtain ⟨cs, rfl, _⟩ := okWide_struct Try.underlying29 hv
  obtain ⟨n, hn⟩ := h
  obtain ⟨x, hc, he⟩ := trod_op07 hn
  refine ⟨x, ?_, hc⟩
  have : cs.toList = [.int .i64 x.k, .int .i64 x.m, .string x.s] := by simpa [Value.cells] using he
  show Value.agg cs = _
  rw [show cs = #[.int .i64 x.k, .int .i64 x.m, .string x.s] from Array.toList_inj.1 this]
theorem open_op07s {r : Reach} {b0 : Nat} {v : Value} {d : DataW H} {p : List MemPlace} (hv : Value.okWide Try.prog w r b0 22 v) (h : DataW.Trod enc Try.prog w base spare held 22 v d p) (_ : ∀ x ∈ p, x.block < w.heap.size) :
    ∃ (a : Option Addr) (l : List Op07) (c : Nat), v = .slice a l.length c ∧ Op07s w w.heap.size a l ∧ (∀ x ∈ l, x.fits) ∧ l.length ≤ maxLen := by
  rcases open_row Try.underlying22 hv h with rfl | ⟨a, len, cap, rfl, hlc, hcm, hx⟩
  · exact ⟨none, [], 0, rfl, fun k hk => absurd hk (by simp), fun x hx => absurd hx (by simp), Nat.zero_le _⟩
  · haveI : Inhabited Op07 := ⟨⟨0, 0, ByteArray.empty⟩⟩
    obtain ⟨V, hV⟩ := choose_lt (α := Op07) (p := fun i x => x.fits ∧ w.cells? base (a.add (i * Try.prog.cellsOf 29)) (Try.prog.cellsOf 29) = some [.int .i64 x.k, .int .i64 x.m, .string x.s]) (fun i hi => by
      obtain ⟨cs, n, x, h1, h2⟩ := hx i hi
      obtain ⟨c, hf, rfl⟩ := trod_op07 h2
      exact ⟨c, hf, h1⟩)
    have hlen : ((List.range len).map V).length = len := by simp
    refine ⟨some a, (List.range len).map V, cap, by rw [hlen], fun k hk => ?_, fun x hx => ?_, by rw [hlen]; omega⟩
    · have hk' : k < len := by rw [hlen] at hk; exact hk
      have h1 := (hV k hk').2
      rw [cells_op07] at h1
      obtain ⟨_, hc⟩ := cells_get h1
      have hbl : (a.add (k * 3)).block = a.block := by unfold Addr.add; split <;> rfl
      have q0 := hc 0 (by simp)
      have q1 := hc 1 (by simp)
      have q2 := hc 2 (by simp)
      refine ⟨a, rfl, ?_, ?_, ?_, ?_⟩
      · have := World.block_lt_of_cell? w _ q0
        rwa [show ((a.add (k * 3)).add 0).block = (a.add (k * 3)).block by unfold Addr.add; simp, hbl] at this
      · simpa [Addr.add] using q0
      · simpa [Addr.add] using q1
      · simpa [Addr.add] using q2
    · obtain ⟨i, hi, rfl⟩ := List.mem_map.1 hx
      exact (hV i (List.mem_range.1 hi)).1
end
end Go.Proofs.Ytcoacbknhlnjmaa
