/-
  A row of bytes of the call's own: what it holds, a byte stored in it, the text of it.
-/
import Derived.Test.YtephlcdanokolaaZeros
import Derived.RegionTactic
import Derived.BigRegion
namespace Go.Proofs.Ytephlcdanokolaa
open Go.RowKit

/-- The block g begins with the bytes l, and they may be written. -/
def RowAt (W : World) (g : Nat) (l : List UInt8) : Prop :=
  ∀ i, i < l.length → W.cell? ⟨g, i, none⟩ = some (.int .u8 ((l.getD i 0).toNat : Nat)) ∧ W.frozen? ⟨g, i, none⟩ = false

theorem rowAt_zeros (w : World) (n : Nat) (e : TypeId) : RowAt (w.alloc (.cells (zs n) e)) w.heap.size (List.replicate n 0) := by
  intro i hi
  rw [List.length_replicate] at hi
  refine ⟨?_, ?_⟩
  · rw [World.cell?_alloc_new, zs_get n i hi]
    simp [List.getD_eq_getElem?_getD, hi]
  · simp [go_sem]
theorem rowAt_set {W : World} {g : Nat} {l : List UInt8} (h : RowAt W g l) (k : Nat) (hk : k < l.length) (b : UInt8) :
    RowAt ((W.setCell ⟨g, k, none⟩ (.int .u8 (b.toNat : Nat))).drew) g (l.set k b) := by
  intro i hi
  rw [List.length_set] at hi
  obtain ⟨h1, h2⟩ := h i hi
  refine ⟨?_, ?_⟩
  · rw [World.cell?_drew]
    by_cases e : i = k
    · subst e
      rw [World.cell?_setCell_same _ _ _ h1, List.getD_eq_getElem?_getD, List.getElem?_set_self hk]; rfl
    · rw [World.cell?_setCell_other _ _ _ _ (by intro h; simp only [Addr.mk.injEq] at h; omega), h1, List.getD_eq_getElem?_getD, List.getD_eq_getElem?_getD, List.getElem?_set_ne (by omega)]
  · show (W.setCell ⟨g, k, none⟩ (.int .u8 (b.toNat : Nat))).frozen? ⟨g, i, none⟩ = false
    rw [World.frozen?_setCell]; exact h2
theorem row_string {W : World} {g : Nat} {l : List UInt8} (h : RowAt W g l) (n cap : Nat) (hn : l.length = n) :
    (convert 41 9 (.slice (some ⟨g, 0, none⟩) n cap)).run Try.prog W = .ok (.string ⟨l.toArray⟩) W := by
  subst hn
  refine run_convert_bytes_back W 41 9 5 ⟨g, 0, none⟩ cap l Try.underlying41 Try.underlying5 Try.underlying9 fun j hj => ?_
  have hplain : (⟨g, 0, none⟩ : Addr).add j = ⟨g, 0 + j, none⟩ := by unfold Addr.add; split <;> simp_all
  rw [hplain, Nat.zero_add, (h j hj).1]
  simp [List.getD_eq_getElem?_getD, hj]
end Go.Proofs.Ytephlcdanokolaa
