/-
  A struct of one-cell fields as it comes in, by value and in rows. (Written by gen_struct.py.)
-/
import Derived.Test.YtibbglmhcjnedaaDoorOpen
namespace Go.Proofs.YtibbglmhcjnedaaDoor
open Go.RowKit Go.ChangeShapes Go.WideShapes Go.Deep
set_option linter.unusedVariables false

structure Fst where
  ep : Int
  sq : Int
def Fst.fits (x : Fst) : Prop := (-9223372036854775808 ≤ x.ep ∧ x.ep ≤ 9223372036854775807) ∧ (-9223372036854775808 ≤ x.sq ∧ x.sq ≤ 9223372036854775807)
/-- Its value. -/
abbrev Fst.v (x : Fst) : Value := .agg #[.int .i64 x.ep, .int .i64 x.sq]
/-- A slice that reads as these; its row's block is one of these. -/
def Fsts (w : World) (B : Nat → Prop) (a : Option Addr) (l : List Fst) : Prop :=
  ∀ (k : Nat) (h : k < l.length), ∃ ad, a = some ad ∧ B ad.block ∧ w.cell? (ad.add (k * 2)) = some (.int .i64 (l[k]).ep) ∧ w.cell? ⟨(ad.add (k * 2)).block, (ad.add (k * 2)).off + 1, none⟩ = some (.int .i64 (l[k]).sq)
theorem Fsts.keep {w w' : World} {B : Nat → Prop} {a : Option Addr} {l : List Fst} (h : Fsts w B a l) (hk : ∀ p : Addr, B p.block → w'.cell? p = w.cell? p) : Fsts w' B a l := fun k hl => by
  obtain ⟨ad, e, hb, q0, q1⟩ := h k hl
  exact ⟨ad, e, hb, (hk _ (by rw [show (ad.add (k * 2)).block = ad.block by unfold Addr.add; split <;> rfl]; exact hb)).trans q0, (hk _ (by show B (ad.add (k * 2)).block; rw [show (ad.add (k * 2)).block = ad.block by unfold Addr.add; split <;> rfl]; exact hb)).trans q1⟩
theorem Fsts.below {w w' : World} {B : Nat → Prop} {N : Nat} {a : Option Addr} {l : List Fst} (h : Fsts w B a l) (hN : ∀ b, B b → b < N) (hb : Below N w w') : Fsts w' B a l := h.keep fun _ hp => hb.cell (hN _ hp)
theorem Fsts.more {w : World} {B B' : Nat → Prop} {a : Option Addr} {l : List Fst} (h : Fsts w B a l) (hB : ∀ b, B b → B' b) : Fsts w B' a l := fun k hl => by
  obtain ⟨ad, e, hb, h1⟩ := h k hl
  exact ⟨ad, e, hB _ hb, h1⟩
theorem Fsts.set {w : World} {B : Nat → Prop} {a : Option Addr} {l : List Fst} (h : Fsts w B a l) {p : Addr} {x : Option Addr} {y z : Nat} (hc : w.cell? p = some (.slice x y z)) (u : Value) : Fsts (w.setCell p u) B a l := fun k hl => by
  obtain ⟨ad, e, hb, q0, q1⟩ := h k hl
  exact ⟨ad, e, hb, (World.cell?_setCell_other _ _ _ _ (fun e => by rw [e] at hc; rw [hc] at q0; cases q0)).trans q0, (World.cell?_setCell_other _ _ _ _ (fun e => by rw [e] at hc; rw [hc] at q1; cases q1)).trans q1⟩
theorem Fsts.mk {w : World} {B : Nat → Prop} {a : Addr} {l : List Fst} (hb : B a.block) (h : ∀ k (hk : k < l.length) j (hj : j < 2), w.cell? ((a.add (k * 2)).add j) = #[.int .i64 (l[k]).ep, .int .i64 (l[k]).sq][j]?) : Fsts w B (some a) l := fun k hk => by
  have hbl : (a.add (k * 2)).block = a.block := by unfold Addr.add; split <;> rfl
  refine ⟨a, rfl, hb, ?_, ?_⟩
  · have := h k hk 0 (by omega)
    simpa [Addr.add] using this
  · have := h k hk 1 (by omega)
    simpa [Addr.add] using this

section
variable {H : Type} {enc : TypeId × Value → H} {w : World} {base : Nat} {spare : Nat → Bool} {held : Bool}
set_option maxRecDepth 100000 in
theorem cells_fst : Tryd.prog.cellsOf 34 = 2 := by kernel_rfl
set_option maxRecDepth 100000 in
set_option maxRecDepth 100000 in
theorem trod_fst {n : Nat} {cs : List Value} {x : DataW H × List MemPlace} (h : DataW.trod enc Tryd.prog w base spare held n 34 cs = some x) :
    ∃ x : Fst, x.fits ∧ cs = [.int .i64 x.ep, .int .i64 x.sq] := by
  obtain ⟨hl, hf⟩ := open_fields Tryd.underlying34 (by kernel_rfl) h
  rw [cells_fst] at hl
  obtain ⟨u0, u1, rfl⟩ : ∃ u0 u1, cs = [u0, u1] := by
    match cs, hl with
    | [u0, u1], _ => exact ⟨u0, u1, rfl⟩
  obtain ⟨m0, y0, h0⟩ := hf 0 _ (by simp) rfl
  obtain ⟨x0, e0, _, w0⟩ := DataW.trod_int Tryd.underlying3 h0
  have g0 : u0 = .int .i64 x0 := by simpa using e0
  obtain ⟨m1, y1, h1⟩ := hf 1 _ (by simp) rfl
  obtain ⟨x1, e1, _, w1⟩ := DataW.trod_int Tryd.underlying3 h1
  have g1 : u1 = .int .i64 x1 := by simpa using e1
  subst g0 g1
  exact ⟨⟨x0, x1⟩, ⟨bounds_i64 w0, bounds_i64 w1⟩, rfl⟩
set_option maxRecDepth 100000 in
set_option maxRecDepth 100000 in
theorem open_fst {r : Reach} {b0 : Nat} {v : Value} {d : DataW H} {p : List MemPlace} (hv : Value.okWide Tryd.prog w r b0 34 v) (h : DataW.Trod enc Tryd.prog w base spare held 34 v d p) (_ : ∀ x ∈ p, x.block < w.heap.size) :
    ∃ x : Fst, v = x.v ∧ x.fits := by
  obtain ⟨cs, rfl, _⟩ := okWide_struct Tryd.underlying34 hv
  obtain ⟨n, hn⟩ := h
  obtain ⟨x, hc, he⟩ := trod_fst hn
  refine ⟨x, ?_, hc⟩
  have : cs.toList = [.int .i64 x.ep, .int .i64 x.sq] := by simpa [Value.cells] using he
  show Value.agg cs = _
  rw [show cs = #[.int .i64 x.ep, .int .i64 x.sq] from Array.toList_inj.1 this]
end
end Go.Proofs.YtibbglmhcjnedaaDoor
