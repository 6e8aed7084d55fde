/-
  Objects that a call writes to: of what was there only their blocks may turn.
-/
import Derived.Test.YtbdfglalohgahaaDoorJCommon
import Derived.Deep.Draws
namespace Go.Proofs.YtbdfglalohgahaaDoor
open Go.RowKit

/-- Of the blocks that were there those of S alone may have turned. -/
structure Apart (S : List Nat) (w w' : World) : Prop where
  os : w'.os = w.os
  tape : w'.tape = w.tape
  output : w'.output = w.output
  size : w.heap.size ≤ w'.heap.size
  block : ∀ k, k < w.heap.size → k ∉ S → w'.heap[k]? = w.heap[k]?
theorem Apart.refl (S : List Nat) (w : World) : Apart S w w := ⟨rfl, rfl, rfl, Nat.le_refl _, fun _ _ _ => rfl⟩
theorem Apart.trans {S S' : List Nat} {a b c : World} (h : Apart S a b) (k : Apart S' b c) (hs : ∀ x ∈ S', x ∈ S ∨ a.heap.size ≤ x) : Apart S a c :=
  ⟨k.os.trans h.os, k.tape.trans h.tape, k.output.trans h.output, Nat.le_trans h.size k.size, fun i hi hn => (k.block i (Nat.lt_of_lt_of_le hi h.size) (fun g => by
    rcases hs i g with g | g
    · exact hn g
    · omega)).trans (h.block i hi hn)⟩
theorem Apart.more {S S' : List Nat} {w w' : World} (h : Apart S w w') (hs : ∀ x ∈ S, x ∈ S') : Apart S' w w' := ⟨h.os, h.tape, h.output, h.size, fun i hi hn => h.block i hi (fun g => hn (hs i g))⟩
theorem Apart.of_below {S : List Nat} {w w' : World} (h : Below w.heap.size w w') : Apart S w w' := ⟨h.os, h.tape, h.output, h.size, fun i hi _ => h.block i hi⟩
theorem Apart.to_below {S : List Nat} {B : Nat} {w w' : World} (h : Apart S w w') (hs : ∀ x ∈ S, B ≤ x) (hB : B ≤ w.heap.size) : Below B w w' :=
  ⟨h.os, h.tape, h.output, h.size, fun i hi => h.block i (Nat.lt_of_lt_of_le hi hB) (fun g => by have := hs i g; omega)⟩
theorem Apart.cell {S : List Nat} {w w' : World} (h : Apart S w w') {p : Addr} (hp : p.block < w.heap.size) (hn : p.block ∉ S) : w'.cell? p = w.cell? p := World.cell?_of_block (w := w) (h.block p.block hp hn)
theorem Apart.frozen {S : List Nat} {w w' : World} (h : Apart S w w') {p : Addr} (hp : p.block < w.heap.size) (hn : p.block ∉ S) : w'.frozen? p = w.frozen? p := World.frozen?_of_block (w := w) (h.block p.block hp hn)
theorem Apart.alloc {S : List Nat} {a w : World} (h : Apart S a w) (o : Obj) : Apart S a (w.alloc o) :=
  h.trans (S' := []) (.of_below ((Below.refl _ _).alloc (Nat.le_refl _) o)) (by simp)
theorem Apart.drewN {S : List Nat} {a w : World} (h : Apart S a w) (n : Nat) : Apart S a (w.drewN n) := ⟨h.os, h.tape, h.output, h.size, h.block⟩
theorem Apart.setCell {S : List Nat} {a w : World} (h : Apart S a w) {p : Addr} (hp : p.block ∈ S ∨ a.heap.size ≤ p.block) (u : Value) : Apart S a (w.setCell p u) :=
  ⟨h.os, h.tape, h.output, by simpa [World.setCell] using h.size, fun i hi hn => (Below.heap_setCell w p u i (fun e => by
    rcases hp with g | g
    · exact hn (e ▸ g)
    · omega)).trans (h.block i hi hn)⟩
end Go.Proofs.YtbdfglalohgahaaDoor
