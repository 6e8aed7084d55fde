/-
  Contracts of the document's Tight and Join (layer 15).
-/
import Derived.Test.YtephlcdanokolaaChunkRef
import Derived.Deep.RegionHeld3
namespace Go.Proofs.Ytephlcdanokolaa
open Go.RowKit
set_option linter.unusedVariables false
set_option linter.unusedSimpArgs false

/-- Whether a row is tight is answered. -/
def RetTight (w : World) (l : List ByteArray) (e : Ending) (w' : World) : Prop := ∃ b : Bool, e = .returned (.bool b) ∧ (b = true ↔ TightP l) ∧ Below w.heap.size w w'
/-- The first k are chunks, and tight. -/
def TightUp (l : List ByteArray) (k : Nat) : Prop := ∀ (i : Nat) (h : i < l.length), i < k → fitsP l[i] ∧ ∀ (h0 : 0 < i), 16 < (l[i - 1]'(by omega)).size + l[i].size
theorem tightUp_succ {l : List ByteArray} {k : Nat} (h : TightUp l k) (hk : k < l.length) (hf : fitsB l[k] = true) (h2 : ∀ h0 : 0 < k, 16 < (l[k - 1]'(by omega)).size + l[k].size) : TightUp l (k + 1) := by
  intro i hi hik
  rcases Nat.lt_or_ge i k with g | g
  · exact h i hi g
  · obtain rfl : i = k := by omega
    exact ⟨(fitsB_iff _).1 hf, h2⟩
theorem tightUp_all {l : List ByteArray} {k : Nat} (h : TightUp l k) (hk : l.length ≤ k) : TightP l := fun i hi => h i hi (by omega)
theorem not_tight_fit {l : List ByteArray} {k : Nat} (hk : k < l.length) (h : fitsB l[k] = false) : ¬ TightP l := fun g => by
  have := (fitsB_iff _).2 (g k hk).1
  rw [h] at this; cases this
theorem not_tight_pair {l : List ByteArray} {k : Nat} (hk : k < l.length) (h0 : 0 < k) (h : (l[k - 1]'(by omega)).size + l[k].size ≤ 16) : ¬ TightP l := fun g => by
  have := (g k hk).2 h0
  omega
theorem tight_step {l : List ByteArray} {j : Nat} {x y : ByteArray} (hT : TightUp l (j + 1)) (hj : j + 1 < l.length) (hx : l[j + 1]'hj = x) (hy : l[j]'(by omega) = y) :
    (fitsB x = true → 16 < y.size + x.size → TightUp l (j + 1 + 1)) ∧ (fitsB x = false → ¬ TightP l) ∧ (y.size + x.size ≤ 16 → ¬ TightP l) := by
  subst hx hy
  exact ⟨fun h1 h2 => tightUp_succ hT hj h1 fun _ => h2, fun h => not_tight_fit hj h, fun h => not_tight_pair hj (Nat.succ_pos j) h⟩
theorem tight_zero {l : List ByteArray} {x : ByteArray} (hj : 0 < l.length) (hx : l[0]'hj = x) :
    (fitsB x = true → TightUp l (0 + 1)) ∧ (fitsB x = false → ¬ TightP l) := by
  subst hx
  exact ⟨fun h1 => tightUp_succ (fun i _ h => absurd h (Nat.not_lt_zero i)) hj h1 fun h => absurd h (Nat.lt_irrefl 0), fun h => not_tight_fit hj h⟩
/-- Two cells beside what lay below. -/
structure C2 (w : World) (p q : Addr) (u v : Value) (w' : World) : Prop where
  B : Below w.heap.size w w'
  p : w'.cell? p = some u
  q : w'.cell? q = some v
theorem C2.on {w w1 w2 : World} {p q : Addr} {u v : Value} (h : C2 w p q u v w1) (hp : p.block < w1.heap.size) (hq : q.block < w1.heap.size) (hb : Below w1.heap.size w1 w2) : C2 w p q u v w2 :=
  ⟨h.B.trans (hb.mono h.B.size), (hb.cell hp).trans h.p, (hb.cell hq).trans h.q⟩
theorem C2.drew {w w1 : World} {p q : Addr} {u v : Value} (h : C2 w p q u v w1) : C2 w p q u v w1.drew := ⟨h.B.drew, h.p, h.q⟩

end Go.Proofs.Ytephlcdanokolaa
