/-
  A struct of one-cell fields as it comes in, by value and in rows. (Written by gen_struct.py.)
-/
import Derived.Test.YtlgdlkiekodocaaDoorOpen
namespace Go.Proofs.YtlgdlkiekodocaaDoor
open Go.RowKit Go.ChangeShapes Go.WideShapes Go.Deep
set_option linter.unusedVariables false

structure Opr where
  k : Int
  a : Int
  n : Int
  s : ByteArray
def Opr.fits (x : Opr) : Prop := (-9223372036854775808 ≤ x.k ∧ x.k ≤ 9223372036854775807) ∧ (-9223372036854775808 ≤ x.a ∧ x.a ≤ 9223372036854775807) ∧ (-9223372036854775808 ≤ x.n ∧ x.n ≤ 9223372036854775807) ∧ x.s.size ≤ maxLen
/-- Its value. -/
abbrev Opr.v (x : Opr) : Value := .agg #[.int .i64 x.k, .int .i64 x.a, .int .i64 x.n, .string x.s]
/-- A slice that reads as these; its row's block is one of these. -/
def Oprs (w : World) (B : Nat → Prop) (a : Option Addr) (l : List Opr) : Prop :=
  ∀ (k : Nat) (h : k < l.length), ∃ ad, a = some ad ∧ B ad.block ∧ w.cell? (ad.add (k * 4)) = some (.int .i64 (l[k]).k) ∧ w.cell? ⟨(ad.add (k * 4)).block, (ad.add (k * 4)).off + 1, none⟩ = some (.int .i64 (l[k]).a) ∧ w.cell? ⟨(ad.add (k * 4)).block, (ad.add (k * 4)).off + 2, none⟩ = some (.int .i64 (l[k]).n) ∧ w.cell? ⟨(ad.add (k * 4)).block, (ad.add (k * 4)).off + 3, none⟩ = some (.string (l[k]).s)
theorem Oprs.keep {w w' : World} {B : Nat → Prop} {a : Option Addr} {l : List Opr} (h : Oprs w B a l) (hk : ∀ p : Addr, B p.block → w'.cell? p = w.cell? p) : Oprs w' B a l := fun k hl => by
  obtain ⟨ad, e, hb, q0, q1, q2, q3⟩ := h k hl
  exact ⟨ad, e, hb, (hk _ (by rw [show (ad.add (k * 4)).block = ad.block by unfold Addr.add; split <;> rfl]; exact hb)).trans q0, (hk _ (by show B (ad.add (k * 4)).block; rw [show (ad.add (k * 4)).block = ad.block by unfold Addr.add; split <;> rfl]; exact hb)).trans q1, (hk _ (by show B (ad.add (k * 4)).block; rw [show (ad.add (k * 4)).block = ad.block by unfold Addr.add; split <;> rfl]; exact hb)).trans q2, (hk _ (by show B (ad.add (k * 4)).block; rw [show (ad.add (k * 4)).block = ad.block by unfold Addr.add; split <;> rfl]; exact hb)).trans q3⟩
theorem Oprs.below {w w' : World} {B : Nat → Prop} {N : Nat} {a : Option Addr} {l : List Opr} (h : Oprs w B a l) (hN : ∀ b, B b → b < N) (hb : Below N w w') : Oprs w' B a l := h.keep fun _ hp => hb.cell (hN _ hp)
theorem Oprs.more {w : World} {B B' : Nat → Prop} {a : Option Addr} {l : List Opr} (h : Oprs w B a l) (hB : ∀ b, B b → B' b) : Oprs w B' a l := fun k hl => by
  obtain ⟨ad, e, hb, h1⟩ := h k hl
  exact ⟨ad, e, hB _ hb, h1⟩
theorem Oprs.set {w : World} {B : Nat → Prop} {a : Option Addr} {l : List Opr} (h : Oprs w B a l) {p : Addr} {x : Option Addr} {y z : Nat} (hc : w.cell? p = some (.slice x y z)) (u : Value) : Oprs (w.setCell p u) B a l := fun k hl => by
  obtain ⟨ad, e, hb, q0, q1, q2, q3⟩ := h k hl
  exact ⟨ad, e, hb, (World.cell?_setCell_other _ _ _ _ (fun e => by rw [e] at hc; rw [hc] at q0; cases q0)).trans q0, (World.cell?_setCell_other _ _ _ _ (fun e => by rw [e] at hc; rw [hc] at q1; cases q1)).trans q1, (World.cell?_setCell_other _ _ _ _ (fun e => by rw [e] at hc; rw [hc] at q2; cases q2)).trans q2, (World.cell?_setCell_other _ _ _ _ (fun e => by rw [e] at hc; rw [hc] at q3; cases q3)).trans q3⟩
theorem Oprs.mk {w : World} {B : Nat → Prop} {a : Addr} {l : List Opr} (hb : B a.block) (h : ∀ k (hk : k < l.length) j (hj : j < 4), w.cell? ((a.add (k * 4)).add j) = #[.int .i64 (l[k]).k, .int .i64 (l[k]).a, .int .i64 (l[k]).n, .string (l[k]).s][j]?) : Oprs w B (some a) l := fun k hk => by
  have hbl : (a.add (k * 4)).block = a.block := by unfold Addr.add; split <;> rfl
  refine ⟨a, rfl, hb, ?_, ?_, ?_, ?_⟩
  · have := h k hk 0 (by omega)
    simpa [Addr.add] using this
  · have := h k hk 1 (by omega)
    simpa [Addr.add] using this
  · have := h k hk 2 (by omega)
    simpa [Addr.add] using this
  · have := h k hk 3 (by omega)
    simpa [Addr.add] using this

section
variable {H : Type} {enc : TypeId × Value → H} {w : World} {base : Nat} {spare : Nat → Bool} {held : Bool}
set_option maxRecDepth 100000 in
theorem cells_opr : Tryd.prog.cellsOf 23 = 4 := by kernel_rfl
set_option maxRecDepth 100000 in
theorem trod_opr {n : Nat} {cs : List Value} {x : DataW H × List MemPlace} (h : DataW.trod enc Tryd.prog w base spare held n 23 cs = some x) :
    ∃ x : Opr, x.fits ∧ cs = [.int .i64 x.k, .int .i64 x.a, .int .i64 x.n, .string x.s] := by
  obtain ⟨hl, hf⟩ := open_fields Tryd.underlying23 (by kernel_rfl) h
  rw [cells_opr] at hl
  obtain ⟨u0, u1, u2, u3, rfl⟩ : ∃ u0 u1 u2 u3, cs = [u0, u1, u2, u3] := by
    match cs, hl with
    | [u0, u1, u2, u3], _ => exact ⟨u0, u1, u2, u3, rfl⟩
  obtain ⟨m0, y0, h0⟩ := hf 0 _ (by simp) rfl
  obtain ⟨x0, e0, _, w0⟩ := DataW.trod_int Tryd.underlying3 h0
  have g0 : u0 = .int .i64 x0 := by simpa using e0
  obtain ⟨m1, y1, h1⟩ := hf 1 _ (by simp) rfl
  obtain ⟨x1, e1, _, w1⟩ := DataW.trod_int Tryd.underlying3 h1
  have g1 : u1 = .int .i64 x1 := by simpa using e1
  obtain ⟨m2, y2, h2⟩ := hf 2 _ (by simp) rfl
  obtain ⟨x2, e2, _, w2⟩ := DataW.trod_int Tryd.underlying3 h2
  have g2 : u2 = .int .i64 x2 := by simpa using e2
  obtain ⟨m3, y3, h3⟩ := hf 3 _ (by simp) rfl
  obtain ⟨x3, e3, _, w3⟩ := DataW.trod_string Tryd.underlying9 h3
  have g3 : u3 = .string x3 := by simpa using e3
  subst g0 g1 g2 g3
  exact ⟨⟨x0, x1, x2, x3⟩, ⟨bounds_i64 w0, bounds_i64 w1, bounds_i64 w2, w3⟩, rfl⟩
set_option maxRecDepth 100000 in
theorem open_opr {r : Reach} {b0 : Nat} {v : Value} {d : DataW H} {p : List MemPlace} (hv : Value.okWide Tryd.prog w r b0 23 v) (h : DataW.Trod enc Tryd.prog w base spare held 23 v d p) (_ : ∀ x ∈ p, x.block < w.heap.size) :
    ∃ x : Opr, v = x.v ∧ x.fits := by
  obtain ⟨cs, rfl, _⟩ := okWide_struct Tryd.underlying23 hv
  obtain ⟨n, hn⟩ := h
  obtain ⟨x, hc, he⟩ := trod_opr hn
  refine ⟨x, ?_, hc⟩
  have : cs.toList = [.int .i64 x.k, .int .i64 x.a, .int .i64 x.n, .string x.s] := by simpa [Value.cells] using he
  show Value.agg cs = _
  rw [show cs = #[.int .i64 x.k, .int .i64 x.a, .int .i64 x.n, .string x.s] from Array.toList_inj.1 this]
end
end Go.Proofs.YtlgdlkiekodocaaDoor
