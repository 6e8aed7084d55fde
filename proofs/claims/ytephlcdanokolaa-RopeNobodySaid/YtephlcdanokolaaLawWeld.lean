/-
  Layer 17's laws: lives, good; WeldOfs, WeldConcats, WeldSplits.
-/
import Derived.Test.YtephlcdanokolaaWeldOf
import Derived.Test.YtephlcdanokolaaWeldCut
import Derived.Test.YtephlcdanokolaaWeldTight
import Derived.Test.YtephlcdanokolaaChunkRef2
import Derived.Test.YtephlcdanokolaaUtfBad
namespace Go.Proofs.Ytephlcdanokolaa
open Go.RowKit
set_option linter.unusedVariables false
set_option linter.unusedSimpArgs false

/-- A tight tree with that text, in whatever world comes later. -/
structure Text (w : World) (p : Option Addr) (L : List ByteArray) (s : ByteArray) : Prop where
  t : Tr w [] p L
  tight : TightP L
  txt : wholeL L = s
  small : s.size ≤ 5000
theorem Text.later {w w' : World} {p : Option Addr} {L : List ByteArray} {s : ByteArray} (h : Text w p L s) (hb : Below w.heap.size w w') : Text w' p L s := ⟨h.t.later hb, h.tight, h.txt, h.small⟩
theorem Text.len {w : World} {p : Option Addr} {L : List ByteArray} {s : ByteArray} (h : Text w p L s) : L.length ≤ 1000 := by
  have := tight_len h.tight
  have := h.small
  have := h.txt
  subst this
  omega
theorem Text.cases {w : World} {p : Option Addr} {L : List ByteArray} {s : ByteArray} (x : Text w p L s) : (p = none ∧ L = []) ∨ ∃ b h, p = some ⟨b, 0, none⟩ ∧ KnotH w h b L ∧ KnotW w (Off [] w) h b L ∧ h ≤ 12 := by
  rcases x.t with t | ⟨b, h, e, k⟩
  · exact .inl t
  · exact .inr ⟨b, h, e, k.weak fun i hi => hi.1, k, k.high (by rw [x.txt]; have := x.small; omega)⟩
theorem Text.text {w : World} {p : Option Addr} {L : List ByteArray} {s : ByteArray} (x : Text w p L s) : ∀ W, Below w.heap.size w W → Calls Try.prog 25 #[.pointer p] W fun e w' => e = .returned (.string s) ∧ Below W.heap.size W w' := fun W hW => by
  have hl := x.len
  have hs := x.small
  have ht := x.txt
  rcases x.cases with ⟨rfl, rfl⟩ | ⟨b, h, rfl, k, -, hh⟩
  · rw [← ht]; exact text_bare (.inl ⟨rfl, rfl⟩)
  · have := text_any (k.on hW) (by omega) (by omega) (by rw [ht]; omega)
    rwa [ht] at this
theorem Text.chunks {w : World} {p : Option Addr} {L : List ByteArray} {s : ByteArray} (x : Text w p L s) : ∀ W, Below w.heap.size w W → Calls Try.prog 41 #[.pointer p] W (RetStrs W L) := fun W hW => by
  have hl := x.len
  rcases x.cases with ⟨rfl, rfl⟩ | ⟨b, h, rfl, k, -, hh⟩
  · exact (chunks_bare (.inl ⟨rfl, rfl⟩)).mono fun e w' ⟨he, hb⟩ => ⟨none, 0, he, fun k hk => absurd hk (by simp), hb⟩
  · refine (chunks_any (k.on hW) (by omega) (by omega)).mono ?_
    rintro e w' ⟨v, rfl, ho, hb⟩
    exact ret_strs ho hb
theorem Text.right {w : World} {p : Option Addr} {L : List ByteArray} {s : ByteArray} (x : Text w p L s) : ∀ W, Below w.heap.size w W → Calls Try.prog 35 #[.pointer p] W fun e w' => e = .returned (.bool true) ∧ Below W.heap.size W w' := fun W hW => by
  rcases x.cases with ⟨rfl, rfl⟩ | ⟨b, h, rfl, k, -, hh⟩
  · exact right_nil W
  · exact right_any (k.on hW) (by omega) (by rw [x.txt]; have := x.small; omega)
theorem Text.wtight {w : World} {p : Option Addr} {L : List ByteArray} {s : ByteArray} (x : Text w p L s) : ∀ W, Below w.heap.size w W → Calls Try.prog 36 #[.pointer p] W fun e w' => e = .returned (.bool true) ∧ Below W.heap.size W w' := fun W hW => by
  rcases x.cases with ⟨rfl, rfl⟩ | ⟨b, h, rfl, -, k, hh⟩
  · exact wtight_nil W
  · exact wtight_any (k.later hW) (by omega) (by rw [x.txt]; have := x.small; omega) x.tight
theorem Text.height {w : World} {p : Option Addr} {L : List ByteArray} {s : ByteArray} (x : Text w p L s) : ∃ H : Int, H ≤ bitsN L.length ∧ ∀ W, Below w.heap.size w W → Calls Try.prog 26 #[.pointer p] W fun e w' => e = .returned (.int .i64 H) ∧ Below W.heap.size W w' := by
  rcases x.cases with ⟨rfl, rfl⟩ | ⟨b, h, rfl, -, k, hh⟩
  · exact ⟨-1, by omega, fun W _ => height_nil W⟩
  · refine ⟨h, ?_, fun W hW => ((k.later hW).hgt (by omega)).call⟩
    have := bitsN_ge h L.length k.chunks.2
    omega
/-- The example's texts. -/
def sAB : ByteArray := ⟨#[97, 98]⟩
theorem sAB_vld : vld sAB.data.toList := by unfold vld; decide +kernel
theorem sAB_back : backI sAB.data.toList 1 = 1 := by decide +kernel
theorem Text.of {w w' : World} {s : ByteArray} {p : Option Addr} {L : List ByteArray} (t : Tr w' [] p L) (hT : TightP L) (h : vld s.data.toList → wholeL L = s) (hv : vld s.data.toList) (hs : s.size ≤ 5000) : Text w' p L s := ⟨t, hT, h hv, hs⟩

end Go.Proofs.Ytephlcdanokolaa
