/-
  Rows of texts: slices that read as these. (As in XDiskRef9: do not import beside it.)
-/
import Derived.Test.YtlmihooahmgmjaaProg
import Derived.Test.YtlmihooahmgmjaaJUtfLeaf
import Derived.Laws.OwnMore
import Derived.OwnWalk
import Derived.Deep.AppendLies
import Derived.Deep.Draws
namespace Go.Proofs.Ytlmihooahmgmjaa
open Go.RowKit

theorem add_block (a : Addr) (k : Nat) : (a.add k).block = a.block := by unfold Addr.add; split <;> rfl
theorem news_one (w : World) (v : Value) (t : TypeId) : ∀ j u, ([v] : List Value)[j]? = some u → (w.alloc (.cells #[v] t)).cell? ((⟨w.heap.size, 0, none⟩ : Addr).add j) = some u := by
  intro j u hj
  match j, hj with
  | 0, hj => simp at hj; subst hj; simp [Addr.add, World.cell?_alloc_new]
/-- A slice that reads as these texts. -/
def Strs (w : World) (B : Nat → Prop) (a : Option Addr) (l : List ByteArray) : Prop :=
  ∀ (k : Nat) (h : k < l.length), ∃ ad, a = some ad ∧ B ad.block ∧ w.cell? (ad.add k) = some (.string l[k])
theorem Strs.keep {w w' : World} {B : Nat → Prop} {a : Option Addr} {l : List ByteArray} (h : Strs w B a l) (hk : ∀ p : Addr, B p.block → w'.cell? p = w.cell? p) : Strs w' B a l := fun k hl => by
  obtain ⟨ad, e, hb, q⟩ := h k hl
  exact ⟨ad, e, hb, (hk _ (by rw [add_block]; exact hb)).trans q⟩
theorem Strs.below {w w' : World} {B : Nat → Prop} {N : Nat} {a : Option Addr} {l : List ByteArray} (h : Strs w B a l) (hN : ∀ b, B b → b < N) (hb : Below N w w') : Strs w' B a l := h.keep fun _ hp => hb.cell (hN _ hp)
theorem Strs.drewN {w : World} {B : Nat → Prop} {a : Option Addr} {l : List ByteArray} (h : Strs w B a l) (n : Nat) : Strs (w.drewN n) B a l := h
theorem Strs.weak {w : World} {B B' : Nat → Prop} {a : Option Addr} {l : List ByteArray} (h : Strs w B a l) (hB : ∀ b, B b → B' b) : Strs w B' a l := fun k hl => by
  obtain ⟨ad, e, hb, q⟩ := h k hl
  exact ⟨ad, e, hB _ hb, q⟩
/-- A row in the heap of the world it lies in. -/
abbrev StrsH (w : World) (a : Option Addr) (l : List ByteArray) : Prop := Strs w (· < w.heap.size) a l
theorem StrsH.on {w w' : World} {a : Option Addr} {l : List ByteArray} (h : StrsH w a l) (hb : Below w.heap.size w w') : StrsH w' a l := (h.below (fun _ h => h) hb).weak fun _ h => Nat.lt_of_lt_of_le h hb.size
def strVs (l : List ByteArray) : List Value := l.map Value.string
theorem strVs_one (l : List ByteArray) (x : ByteArray) : strVs (l ++ [x]) = strVs l ++ [.string x] := by simp [strVs]
theorem own_strs {w : World} {base : Nat} {t : TypeId} {v : Value} {l : List ByteArray} (h : w.ownsRow base t 1 v l.length (strVs l)) : ∃ a c, v = .slice a l.length c ∧ Strs w (fun b => base ≤ b ∧ b < w.heap.size) a l := by
  rcases h.2 with ⟨rfl, h0⟩ | ⟨g, cap, cur, rfl, hgb, hg, _⟩
  · exact ⟨none, 0, by rw [h0], fun k hk => absurd hk (by omega)⟩
  · exact ⟨_, _, rfl, fun k hk => ⟨_, rfl, ⟨hgb, (h.lt g rfl).2⟩, h.cells (g := g) rfl k _ (by unfold strVs; simp [hk])⟩⟩
/-- A row of texts is answered that the call has made. -/
def RetStrs (w : World) (l : List ByteArray) (e : Ending) (w' : World) : Prop := ∃ a c, e = .returned (.slice a l.length c) ∧ StrsH w' a l ∧ Below w.heap.size w w'
theorem string_info : (Try.prog.info? 9).map (fun i => (i.zero, i.size, i.bytes)) = some (some (.string ByteArray.empty), 1, 16) := by kernel_rfl
theorem own_on {w w' : World} {base : Nat} {e : TypeId} {size : Nat} {v : Value} {n : Nat} {xs : List Value} (h : w.ownsRow base e size v n xs) (hb : Below w.heap.size w w') : w'.ownsRow base e size v n xs := by
  refine ⟨h.1, ?_⟩
  rcases h.2 with h2 | ⟨g, cap, cur, hv, hg0, hg, hr⟩
  · exact .inl h2
  · exact .inr ⟨g, cap, cur, hv, hg0, (hb.block g (lt_of_block hg)).trans hg, hr⟩
/-- A row just made of one text, of two. -/
theorem strs_one {w w' : World} {x : ByteArray} {t : TypeId} (hb : Below (w.heap.size + 1) (w.alloc (.cells #[.string x] t)) w') : StrsH w' (some ⟨w.heap.size, 0, none⟩) [x] := by
  intro k hk
  obtain rfl : k = 0 := by simp at hk; omega
  refine ⟨_, rfl, ?_, ?_⟩
  · have := hb.size; simp at this; show w.heap.size < _; omega
  · exact (hb.cell (p := ⟨w.heap.size, 0, none⟩) (by simp)).trans (by simp [World.cell?_alloc_new])
theorem strs_two {w w' : World} {x y : ByteArray} {t : TypeId} (hb : Below (w.heap.size + 1) (w.alloc (.cells #[.string x, .string y] t)) w') : StrsH w' (some ⟨w.heap.size, 0, none⟩) [x, y] := by
  intro k hk
  have hz : w.heap.size < w'.heap.size := by have := hb.size; simp at this; omega
  match k, hk with
  | 0, _ => exact ⟨_, rfl, hz, (hb.cell (p := ⟨w.heap.size, 0, none⟩) (by simp)).trans (by simp [World.cell?_alloc_new])⟩
  | 1, _ => exact ⟨_, rfl, hz, (hb.cell (p := ⟨w.heap.size, 1, none⟩) (by simp)).trans (by simp [World.cell?_alloc_new])⟩
end Go.Proofs.Ytlmihooahmgmjaa
