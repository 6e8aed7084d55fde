/-
  A struct of one-cell fields as it comes in, by value and in rows. (Written by gen_struct.py.)
-/
import Derived.Test.YtibbglmhcjnedaaDoorOpen
namespace Go.Proofs.YtibbglmhcjnedaaDoor
open Go.RowKit Go.ChangeShapes Go.WideShapes Go.Deep
set_option linter.unusedVariables false

structure Chg3 where
  wh : Int
  at_ : Int
  by_ : Int
def Chg3.fits (x : Chg3) : Prop := (-9223372036854775808 ≤ x.wh ∧ x.wh ≤ 9223372036854775807) ∧ (-9223372036854775808 ≤ x.at_ ∧ x.at_ ≤ 9223372036854775807) ∧ (0 ≤ x.by_ ∧ x.by_ ≤ 255)
/-- Its value. -/
abbrev Chg3.v (x : Chg3) : Value := .agg #[.int .i64 x.wh, .int .i64 x.at_, .int .u8 x.by_]
/-- A slice that reads as these; its row's block is one of these. -/
def Chg3s (w : World) (B : Nat → Prop) (a : Option Addr) (l : List Chg3) : Prop :=
  ∀ (k : Nat) (h : k < l.length), ∃ ad, a = some ad ∧ B ad.block ∧ w.cell? (ad.add (k * 3)) = some (.int .i64 (l[k]).wh) ∧ w.cell? ⟨(ad.add (k * 3)).block, (ad.add (k * 3)).off + 1, none⟩ = some (.int .i64 (l[k]).at_) ∧ w.cell? ⟨(ad.add (k * 3)).block, (ad.add (k * 3)).off + 2, none⟩ = some (.int .u8 (l[k]).by_)
theorem Chg3s.keep {w w' : World} {B : Nat → Prop} {a : Option Addr} {l : List Chg3} (h : Chg3s w B a l) (hk : ∀ p : Addr, B p.block → w'.cell? p = w.cell? p) : Chg3s w' B a l := fun k hl => by
  obtain ⟨ad, e, hb, q0, q1, q2⟩ := h k hl
  exact ⟨ad, e, hb, (hk _ (by rw [show (ad.add (k * 3)).block = ad.block by unfold Addr.add; split <;> rfl]; exact hb)).trans q0, (hk _ (by show B (ad.add (k * 3)).block; rw [show (ad.add (k * 3)).block = ad.block by unfold Addr.add; split <;> rfl]; exact hb)).trans q1, (hk _ (by show B (ad.add (k * 3)).block; rw [show (ad.add (k * 3)).block = ad.block by unfold Addr.add; split <;> rfl]; exact hb)).trans q2⟩
theorem Chg3s.below {w w' : World} {B : Nat → Prop} {N : Nat} {a : Option Addr} {l : List Chg3} (h : Chg3s w B a l) (hN : ∀ b, B b → b < N) (hb : Below N w w') : Chg3s w' B a l := h.keep fun _ hp => hb.cell (hN _ hp)
theorem Chg3s.more {w : World} {B B' : Nat → Prop} {a : Option Addr} {l : List Chg3} (h : Chg3s w B a l) (hB : ∀ b, B b → B' b) : Chg3s w B' a l := fun k hl => by
  obtain ⟨ad, e, hb, h1⟩ := h k hl
  exact ⟨ad, e, hB _ hb, h1⟩
theorem Chg3s.set {w : World} {B : Nat → Prop} {a : Option Addr} {l : List Chg3} (h : Chg3s w B a l) {p : Addr} {x : Option Addr} {y z : Nat} (hc : w.cell? p = some (.slice x y z)) (u : Value) : Chg3s (w.setCell p u) B a l := fun k hl => by
  obtain ⟨ad, e, hb, q0, q1, q2⟩ := h k hl
  exact ⟨ad, e, hb, (World.cell?_setCell_other _ _ _ _ (fun e => by rw [e] at hc; rw [hc] at q0; cases q0)).trans q0, (World.cell?_setCell_other _ _ _ _ (fun e => by rw [e] at hc; rw [hc] at q1; cases q1)).trans q1, (World.cell?_setCell_other _ _ _ _ (fun e => by rw [e] at hc; rw [hc] at q2; cases q2)).trans q2⟩
theorem Chg3s.mk {w : World} {B : Nat → Prop} {a : Addr} {l : List Chg3} (hb : B a.block) (h : ∀ k (hk : k < l.length) j (hj : j < 3), w.cell? ((a.add (k * 3)).add j) = #[.int .i64 (l[k]).wh, .int .i64 (l[k]).at_, .int .u8 (l[k]).by_][j]?) : Chg3s w B (some a) l := fun k hk => by
  have hbl : (a.add (k * 3)).block = a.block := by unfold Addr.add; split <;> rfl
  refine ⟨a, rfl, hb, ?_, ?_, ?_⟩
  · have := h k hk 0 (by omega)
    simpa [Addr.add] using this
  · have := h k hk 1 (by omega)
    simpa [Addr.add] using this
  · have := h k hk 2 (by omega)
    simpa [Addr.add] using this

section
variable {H : Type} {enc : TypeId × Value → H} {w : World} {base : Nat} {spare : Nat → Bool} {held : Bool}
set_option maxRecDepth 100000 in
theorem cells_chg3 : Tryd.prog.cellsOf 45 = 3 := by kernel_rfl
set_option maxRecDepth 100000 in
set_option maxRecDepth 100000 in
theorem trod_chg3 {n : Nat} {cs : List Value} {x : DataW H × List MemPlace} (h : DataW.trod enc Tryd.prog w base spare held n 45 cs = some x) :
    ∃ x : Chg3, x.fits ∧ cs = [.int .i64 x.wh, .int .i64 x.at_, .int .u8 x.by_] := by
  obtain ⟨hl, hf⟩ := open_fields Tryd.underlying45 (by kernel_rfl) h
  rw [cells_chg3] at hl
  obtain ⟨u0, u1, u2, rfl⟩ : ∃ u0 u1 u2, cs = [u0, u1, u2] := by
    match cs, hl with
    | [u0, u1, u2], _ => exact ⟨u0, u1, u2, rfl⟩
  obtain ⟨m0, y0, h0⟩ := hf 0 _ (by simp) rfl
  obtain ⟨x0, e0, _, w0⟩ := DataW.trod_int Tryd.underlying3 h0
  have g0 : u0 = .int .i64 x0 := by simpa using e0
  obtain ⟨m1, y1, h1⟩ := hf 1 _ (by simp) rfl
  obtain ⟨x1, e1, _, w1⟩ := DataW.trod_int Tryd.underlying3 h1
  have g1 : u1 = .int .i64 x1 := by simpa using e1
  obtain ⟨m2, y2, h2⟩ := hf 2 _ (by simp) rfl
  obtain ⟨x2, e2, _, w2⟩ := DataW.trod_int Tryd.underlying5 h2
  have g2 : u2 = .int .u8 x2 := by simpa using e2
  subst g0 g1 g2
  exact ⟨⟨x0, x1, x2⟩, ⟨bounds_i64 w0, bounds_i64 w1, bounds_u8 w2⟩, rfl⟩
set_option maxRecDepth 100000 in
set_option maxRecDepth 100000 in
theorem open_chg3 {r : Reach} {b0 : Nat} {v : Value} {d : DataW H} {p : List MemPlace} (hv : Value.okWide Tryd.prog w r b0 45 v) (h : DataW.Trod enc Tryd.prog w base spare held 45 v d p) (_ : ∀ x ∈ p, x.block < w.heap.size) :
    ∃ x : Chg3, v = x.v ∧ x.fits := by
  obtain ⟨cs, rfl, _⟩ := okWide_struct Tryd.underlying45 hv
  obtain ⟨n, hn⟩ := h
  obtain ⟨x, hc, he⟩ := trod_chg3 hn
  refine ⟨x, ?_, hc⟩
  have : cs.toList = [.int .i64 x.wh, .int .i64 x.at_, .int .u8 x.by_] := by simpa [Value.cells] using he
  show Value.agg cs = _
  rw [show cs = #[.int .i64 x.wh, .int .i64 x.at_, .int .u8 x.by_] from Array.toList_inj.1 this]
end
end Go.Proofs.YtibbglmhcjnedaaDoor
