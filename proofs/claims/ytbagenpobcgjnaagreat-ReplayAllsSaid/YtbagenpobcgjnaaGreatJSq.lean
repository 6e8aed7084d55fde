/-
  Joined: Sq, Sq2.
-/
import Derived.Deep.RegionHeld3
import Derived.WalkKit
import Derived.Lib.Hide
import Derived.Test.YtbagenpobcgjnaaGreatSq3
namespace Go.Proofs.YtbagenpobcgjnaaGreat
open Go.RowKit
theorem qz : (∀ (α : Type) (l : List α) (i : Nat), l.toArray[i]? = l[i]?) ∧ (∀ (α : Type) (l : List α) (x : α) (i : Nat), (x :: l)[i + 1]? = l[i]?) ∧ (∀ (α : Type) (l : List α) (x : α), (x :: l)[0]? = some x) :=
  ⟨fun _ _ _ => List.getElem?_toArray, fun _ _ _ _ => List.getElem?_cons_succ, fun _ _ _ => List.getElem?_cons_zero⟩
theorem mj : (∀ (α : Type) (l : List α) (i : Nat) (x : α), l.toArray.setIfInBounds i x = (l.set i x).toArray) ∧ (∀ (α : Type) (l : List α) (x y : α), (x :: l).set 0 y = y :: l) ∧ (∀ (α : Type) (l : List α) (x y : α) (i : Nat), (x :: l).set (i + 1) y = x :: l.set i y) :=
  ⟨fun _ _ _ _ => List.setIfInBounds_toArray .., fun _ _ _ _ => List.set_cons_zero, fun _ _ _ _ _ => List.set_cons_succ⟩
/-- An operation that is wanted, and yields where S holds: next. -/
theorem ly {P : Program} {ops : Array Oper} {Q : Exit → Act → World → Prop} {S : World → Prop} {n : Nat} {ls : Array Bool} {a b : Act} {w : World} {o : Oper} {v : Value} (i : Nat)
    (h : wpAnyH P .any ops Q S n (ls.setIfInBounds i true) b w)
    (ho : ops[i]? = some o := by (simp only [qz]; rfl)) (h1 : Region.noSelect ops = true := by kernel_rfl) (h2 : Region.free .any ops ls i = true := by kernel_rfl) (h3 : (Region.ready .any ops ls).contains i = true := by kernel_rfl)
    (hw : Region.wanted o (yielded ops a.tmps) = true := by rfl)
    (hv : ∀ w, S w → (execOp a.eval o).run P w = .ok (.value v) w := by (intro w hSw; (try dsimp only at hSw); go_simp; try with_reducible rfl))
    (hQ : ∀ c a w, Q (.panic c) (a.put o.dst v) w → Q (.panic c) a w := by exact fun _ _ _ h => h)
    (hS : S w := by assumption) (hb : a.put o.dst v = b := by first | (simp only [Act.put, mj]; rfl) | rfl) : wpAnyH P .any ops Q S (n + 1) ls a w := wpAnyH_take ho h1 h2 h3 hQ (.inl ⟨hw, hv⟩) hS (hb ▸ h)
theorem m8 {P : Program} {ops : Array Oper} {Q : Exit → Act → World → Prop} {S : World → Prop} {n : Nat} {ls : Array Bool} {a : Act} {w : World} {o : Oper} (i : Nat)
    (h : ∀ K' : Act → World → Prop, Shut (∀ a w, S w → (S w → wpAnyH P .any ops Q S n (ls.setIfInBounds i true) a w) → K' a w) → if Region.wanted o (yielded ops a.tmps) = true then Oper.wp P o a w K' Q else K' (a.put o.dst undef) w)
    (ho : ops[i]? = some o := by (simp only [qz]; rfl)) (hr : Region.ready .any ops ls = [i] := by kernel_rfl) : wpAnyH P .any ops Q S (n + 1) ls a w := wpAnyH_ready hr lh (AllReadyH.cons ho h AllReadyH.nil)
end Go.Proofs.YtbagenpobcgjnaaGreat
