/-
  Contracts of the document's Count, Slice, Unlike and Cut (layer 5).
-/
import Derived.Test.YtpcbfkcpefcnjaaPieceMath
import Derived.Test.YtpcbfkcpefcnjaaConv
import Derived.Laws.OwnMore
import Derived.Deep.AppendLies
import Derived.Deep.Draws
namespace Go.Proofs.Ytpcbfkcpefcnjaa
open Go.RowKit

/-- A slice that reads as these numbers; its row lies below B. -/
def Nums (w : World) (B : Nat) (a : Option Addr) (l : List Nat) : Prop :=
  ∀ (k : Nat) (h : k < l.length), ∃ ad, a = some ad ∧ ad.block < B ∧ w.cell? (ad.add k) = some (.int .i64 (l[k] : Nat))
theorem Nums.below {w w' : World} {B : Nat} {a : Option Addr} {l : List Nat} (h : Nums w B a l) (hb : Below B w w') : Nums w' B a l := fun k hl => by
  obtain ⟨ad, e, hlt, h1⟩ := h k hl
  exact ⟨ad, e, hlt, (hb.cell (by rw [show (ad.add k).block = ad.block by unfold Addr.add; split <;> rfl]; exact hlt)).trans h1⟩
theorem nums_own {w : World} {base : Nat} {t : TypeId} {v : Value} {l : List Nat} (h : w.ownsRow base t 1 v l.length (l.map fun x => Value.int .i64 (x : Nat))) : ∃ a c, v = .slice a l.length c ∧ Nums w w.heap.size a l := by
  rcases h.2 with ⟨rfl, h0⟩ | ⟨g, cap, cur, rfl, _, hg, _⟩
  · exact ⟨none, 0, by rw [h0], fun k hk => absurd hk (by omega)⟩
  · refine ⟨_, _, rfl, fun k hk => ⟨_, rfl, ?_, ?_⟩⟩
    · exact (h.lt g rfl).2
    · refine h.cells (g := g) rfl k _ ?_
      rw [List.getElem?_map, List.getElem?_eq_getElem hk]
      rfl
def RetNums (w : World) (l : List Nat) (e : Ending) (w' : World) : Prop := ∃ a c, e = .returned (.slice a l.length c) ∧ Nums w' w'.heap.size a l ∧ Below w.heap.size w w'

/-- One number laid in a block of its own, to be appended. -/
theorem news_int (w : World) (n : Int) (t : TypeId) : ∀ j u, [Value.int .i64 n][j]? = some u → (w.alloc (.cells #[.int .i64 n] t)).cell? ((⟨w.heap.size, 0, none⟩ : Addr).add j) = some u := by
  intro j u hj
  match j, hj with
  | 0, hj => simp at hj; subst hj; simp [Addr.add]
theorem one_int (n : Int) : ∀ u ∈ [Value.int .i64 n], u.oneCell' = true := by intro u hu; simp at hu; subst hu; rfl

theorem int_info : (Try.prog.info? 3).map (fun i => (i.zero, i.size, i.bytes)) = some (some (.int .i64 0), 1, 8) := by kernel_rfl

/-- A slice that reads as these pairs; its row lies below B. -/
def Prs (w : World) (B : Nat) (a : Option Addr) (l : List (Nat × Nat)) : Prop :=
  ∀ (k : Nat) (h : k < l.length), ∃ ad, a = some ad ∧ ad.block < B ∧ w.cell? (ad.add (k * 2)) = some (.int .i64 ((l[k]).1 : Nat)) ∧ w.cell? ⟨(ad.add (k * 2)).block, (ad.add (k * 2)).off + 1, none⟩ = some (.int .i64 ((l[k]).2 : Nat))
theorem Prs.below {w w' : World} {B : Nat} {a : Option Addr} {l : List (Nat × Nat)} (h : Prs w B a l) (hb : Below B w w') : Prs w' B a l := fun k hl => by
  obtain ⟨ad, e, hlt, h1, h2⟩ := h k hl
  have hbl : (ad.add (k * 2)).block = ad.block := by unfold Addr.add; split <;> rfl
  exact ⟨ad, e, hlt, (hb.cell (by rw [hbl]; exact hlt)).trans h1, (hb.cell (p := ⟨(ad.add (k * 2)).block, (ad.add (k * 2)).off + 1, none⟩) (by show (ad.add (k * 2)).block < B; rw [hbl]; exact hlt)).trans h2⟩
theorem prs_own {w : World} {base : Nat} {t : TypeId} {v : Value} {l : List (Nat × Nat)} (h : w.ownsRow base t 2 v l.length (prV l)) : ∃ a c, v = .slice a l.length c ∧ Prs w w.heap.size a l := by
  rcases h.2 with ⟨rfl, h0⟩ | ⟨g, cap, cur, rfl, _, hg, _⟩
  · exact ⟨none, 0, by rw [h0], fun k hk => absurd hk (by omega)⟩
  · refine ⟨_, _, rfl, fun k hk => ⟨_, rfl, ?_, ?_, ?_⟩⟩
    · exact (h.lt g rfl).2
    · exact h.cells (g := g) rfl (k * 2) _ (prV_get l k hk).1
    · have := h.cells (g := g) rfl (k * 2 + 1) _ (prV_get l k hk).2
      have e : (⟨((⟨g, 0, none⟩ : Addr).add (k * 2)).block, ((⟨g, 0, none⟩ : Addr).add (k * 2)).off + 1, none⟩ : Addr) = (⟨g, 0, none⟩ : Addr).add (k * 2 + 1) := by
        unfold Addr.add
        by_cases hk0 : k * 2 = 0 <;> simp [hk0]
      rw [e]; exact this
def RetPrs (w : World) (l : List (Nat × Nat)) (e : Ending) (w' : World) : Prop := ∃ a c, e = .returned (.slice a l.length c) ∧ Prs w' w'.heap.size a l ∧ Below w.heap.size w w'

/-- One pair laid in a block of its own, to be appended. -/
theorem news_pair (w : World) (x y : Int) (t : TypeId) : ∀ j u, [Value.int .i64 x, .int .i64 y][j]? = some u → (w.alloc (.cells #[.int .i64 x, .int .i64 y] t)).cell? ((⟨w.heap.size, 0, none⟩ : Addr).add j) = some u := by
  intro j u hj
  match j, hj with
  | 0, hj => simp at hj; subst hj; simp [Addr.add]
  | 1, hj => simp at hj; subst hj; simp [Addr.add, World.cell?_alloc_new]
theorem one_pair (x y : Int) : ∀ u ∈ [Value.int .i64 x, .int .i64 y], u.oneCell' = true := by
  intro u hu
  simp at hu
  rcases hu with rfl | rfl <;> rfl

/-- The last pair's second cell. -/
theorem last_cell {w : World} {base g cap : Nat} {t : TypeId} {L : List (Nat × Nat)} {x y : Nat} (h : w.ownsRow base t 2 (.slice (some ⟨g, 0, none⟩) (L.length + 1) cap) (L.length + 1) (prV (L ++ [(x, y)]))) :
    w.cell? ⟨g, L.length * 2 + 1, none⟩ = some (.int .i64 (y : Nat)) ∧ w.frozen? ⟨g, L.length * 2 + 1, none⟩ = false := by
  have h1 := h.cellAt (L.length * 2 + 1) (by omega)
  have h2 := (prV_get (L ++ [(x, y)]) L.length (by simp)).2
  rw [h2] at h1
  simp at h1
  exact ⟨h1, h.frozenAt _⟩
theorem last_set {w : World} {base g cap : Nat} {t : TypeId} {L : List (Nat × Nat)} {x y z : Nat} (h : w.ownsRow base t 2 (.slice (some ⟨g, 0, none⟩) (L.length + 1) cap) (L.length + 1) (prV (L ++ [(x, y)]))) :
    (w.setCell ⟨g, L.length * 2 + 1, none⟩ (.int .i64 (z : Nat))).ownsRow base t 2 (.slice (some ⟨g, 0, none⟩) (L.length + 1) cap) (L.length + 1) (prV (L ++ [(x, z)])) := by
  have := (h.stored (L.length * 2 + 1) (.int .i64 (z : Nat))).1
  rwa [prV_set] at this
theorem own_pairs {w : World} {base g cap : Nat} {t : TypeId} {L : List (Nat × Nat)} {x : Nat} (h : w.ownsRow base t 2 (.slice (some ⟨g, 0, none⟩) (L.length + 1) cap) (L.length + 1) (prV L ++ [.int .i64 (x : Nat), .int .i64 (x : Nat)])) :
    w.ownsRow base t 2 (.slice (some ⟨g, 0, none⟩) (L.length + 1) cap) (L.length + 1) (prV (L ++ [(x, x)])) := by rw [prV_app]; exact h

end Go.Proofs.Ytpcbfkcpefcnjaa
