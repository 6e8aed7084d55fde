/-
  Contracts of the program's Run.
-/
import Derived.Test.YtibbglmhcjnedaaDoorScanIter
import Derived.Maps.AppendAt
import Derived.Scope
import Derived.WalkMore
import Derived.Laws.OwnMore
import Derived.OwnWalk
import Derived.StillTailTactics
import Derived.Deep.AppendLies
namespace Go.Proofs.YtibbglmhcjnedaaDoor
open Go.RowKit Go.Shelf
set_option linter.unusedVariables false
attribute [local go_sem] Oper.semAt_some

theorem row_on {W W' : World} {row : Option Nat} {base : Nat} {e : TypeId} {size : Nat} {v : Value} {n : Nat} {xs : List Value} {B : Nat} (hr : W.ownsRow base e size v n xs) (hg : W.grownBy W' row) (hrow : ∀ r, row = some r → B ≤ r ∧ ∃ o : Obj, W.heap[r]? = some o ∧ o.isCells = false) : W'.ownsRow base e size v n xs := by
  refine hr.kept hg ?_
  rcases hr.2 with ⟨rfl, _⟩ | ⟨g, cap, cur, rfl, _, hgb, _⟩
  · exact .inl rfl
  · refine .inr fun e' => ?_
    obtain ⟨_, o, ho, hc⟩ := hrow g (by simpa [Value.ownBlock] using e'.symm)
    rw [hgb] at ho; cases ho; cases hc
theorem box_on {W W' : World} {row : Option Nat} {B b : Nat} {t : TypeId} {v : Value} (h : Boxed W b t v) (hb : b < B) (hg : W.grownBy W' row) (hrow : ∀ r, row = some r → B ≤ r ∧ ∃ o : Obj, W.heap[r]? = some o ∧ o.isCells = false) : Boxed W' b t v :=
  h.kept hg (fun e => by have := (hrow b e.symm).1; omega)

/-- What Run holds while it goes over the places: its boxes, and the row of the frames that were found. -/
structure RunI (w : World) (s : ByteArray) (n0 : Nat) (ep : Int) (L : List Frm) (sq : Int) (v : Value) (en : Nat) (W : World) : Prop where
  b0 : Boxed W n0 3 (.int .i64 ep)
  b1 : Boxed W (n0 + 1) 3 (.int .i64 sq)
  b2 : Boxed W (n0 + 1 + 1) 23 v
  b3 : Boxed W (n0 + 1 + 1 + 1) 3 (.int .i64 (en : Nat))
  b4 : Boxed W (n0 + 1 + 1 + 1 + 1) 9 (.string s)
  b5 : Boxed W (n0 + 1 + 1 + 1 + 1 + 1) 55 (.func (.func 24) #[] #[])
  row : W.ownsRow n0 40 3 v L.length (Frm.flat L)
  bel : Below n0 w W
  size : n0 = w.heap.size
variable {w : World} {s : ByteArray} {n0 : Nat} {ep : Int} {L : List Frm} {sq : Int} {v : Value} {en : Nat} {W : World}
theorem RunI.kept {W' : World} {row : Option Nat} {B : Nat} (h : RunI w s n0 ep L sq v en W) (hB : n0 + 6 ≤ B) (hg : W.grownBy W' row) (hr : ∀ r, row = some r → B ≤ r ∧ ∃ o : Obj, W.heap[r]? = some o ∧ o.isCells = false) : RunI w s n0 ep L sq v en W' :=
  ⟨box_on h.b0 (by omega) hg hr, box_on h.b1 (by omega) hg hr, box_on h.b2 (by omega) hg hr, box_on h.b3 (by omega) hg hr, box_on h.b4 (by omega) hg hr, box_on h.b5 (by omega) hg hr, row_on h.row hg hr,
    h.bel.grown hg (by have := h.size; have := h.bel.size; omega) (fun k e => by have := (hr k e).1; omega), h.size⟩
theorem RunI.kp {w : World} {L' : List Frm} {sq' : Int} {v' : Value} {en' : Nat} {W W' : World} (h : RunI w s n0 ep L sq v en W) (h' : RunI w s n0 ep L' sq' v' en' W') (hb : Below n0 W W') : KpB n0 (n0 + 1 + 1 + 1 + 1) (n0 + 1 + 1 + 1 + 1 + 1) W W' :=
  ⟨hb, h'.b4.trans h.b4.symm, h'.b5.trans h.b5.symm⟩
theorem row_box {W : World} {b n0 : Nat} {t e : TypeId} {u v : Value} {n : Nat} {xs : List Value} {size : Nat} (hb : Boxed W b t u) (hte : t ≠ e) (hr : W.ownsRow n0 e size v n xs) (x : Value) : (W.setCell ⟨b, 0, none⟩ x).ownsRow n0 e size v n xs :=
  hr.kept (grownBy_setCell' W b x) (.inr (hb.not_row hte hr).symm)
theorem RunI.setEn (h : RunI w s n0 ep L sq v en W) (k : Nat) : RunI w s n0 ep L sq v k (W.setCell ⟨n0 + 1 + 1 + 1, 0, none⟩ (.int .i64 (k : Nat))) :=
  ⟨h.b0.other (by omega) _, h.b1.other (by omega) _, h.b2.other (by omega) _, h.b3.set _, h.b4.other (by omega) _, h.b5.other (by omega) _, row_box h.b3 (by decide) h.row _,
    h.bel.setCell (p := ⟨n0 + 1 + 1 + 1, 0, none⟩) (by show n0 ≤ n0 + 1 + 1 + 1; omega) _, h.size⟩
theorem RunI.setSq (h : RunI w s n0 ep L sq v en W) (q : Int) : RunI w s n0 ep L q v en (W.setCell ⟨n0 + 1, 0, none⟩ (.int .i64 q)) :=
  ⟨h.b0.other (by omega) _, h.b1.set _, h.b2.other (by omega) _, h.b3.other (by omega) _, h.b4.other (by omega) _, h.b5.other (by omega) _, row_box h.b1 (by decide) h.row _,
    h.bel.setCell (p := ⟨n0 + 1, 0, none⟩) (by show n0 ≤ n0 + 1; omega) _, h.size⟩
theorem Frm.flat_one (L : List Frm) (f : Frm) : Frm.flat (L ++ [f]) = Frm.flat L ++ [.int .i64 f.ep, .int .i64 f.sq, .string f.data] := by rw [Frm.flat_app]; simp [Frm.flat]
theorem RunI.appended {w1 : World} {v' : Value} {f : Frm} {tmp : Obj} (h : RunI w s n0 ep L sq v en W) (hown' : w1.ownsRow n0 40 3 v' (L.length + 1) (Frm.flat L ++ [.int .i64 f.ep, .int .i64 f.sq, .string f.data])) (hgrow : (W.alloc tmp).grownBy w1 v.ownBlock) :
    Boxed w1 (n0 + 1 + 1) 23 v ∧ RunI w s n0 ep (L ++ [f]) sq v' en (w1.setCell ⟨n0 + 1 + 1, 0, none⟩ v') ∧ KeepsOthers W (w1.setCell ⟨n0 + 1 + 1, 0, none⟩ v') ∧ Below n0 W (w1.setCell ⟨n0 + 1 + 1, 0, none⟩ v') := by
  have hsz : n0 ≤ W.heap.size := by have := h.size; have := h.bel.size; omega
  obtain ⟨a1, a2, a3, a4, a5⟩ := h.b2.appended (by decide) h.row hsz (by omega) hown' hgrow
  have on : ∀ {b t u}, Boxed W b t u → t ≠ 40 → b ≠ n0 + 1 + 1 → Boxed (w1.setCell ⟨n0 + 1 + 1, 0, none⟩ v') b t u := fun hb ht hne =>
    ((hb.alloc tmp).kept hgrow (hb.not_row ht h.row)).other hne _
  refine ⟨a1, ⟨on h.b0 (by decide) (by omega), on h.b1 (by decide) (by omega), a2, on h.b3 (by decide) (by omega), on h.b4 (by decide) (by omega), on h.b5 (by decide) (by omega), ?_, h.bel.trans a5, h.size⟩, a4, a5⟩
  rw [Frm.flat_one, List.length_append]
  exact a3
end Go.Proofs.YtibbglmhcjnedaaDoor
