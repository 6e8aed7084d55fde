/-
  The walk of FolderPlays (layer 9).
-/
import Derived.Test.YtpcbfkcpefcnjaaLawFold5
namespace Go.Proofs.Ytpcbfkcpefcnjaa
open Go.RowKit
set_option linter.unusedVariables false

/-- What holds at each round's head: the folder, and a variable with its lists, apart. -/
def Inv9 (w : World) (g : Nat) (f : Addr) (L : List (List Ent)) (M : Nat) (wr : World) : Prop :=
  ∃ S a c, IsFold wr S f L ∧ okL M L ∧ wr.cell? ⟨g, 0, none⟩ = some (.slice a L.length c) ∧ wr.frozen? ⟨g, 0, none⟩ = false ∧ LLs wr (fun b => b < wr.heap.size ∧ b ∉ S ∧ b ≠ g) a L ∧
    (∀ b ∈ S, w.heap.size ≤ b) ∧ g ∉ S ∧ w.heap.size ≤ g ∧ g < wr.heap.size ∧ Below w.heap.size w wr
theorem inv9_below {w wx wy : World} {g : Nat} {f : Addr} {L : List (List Ent)} {M : Nat} (h : Inv9 w g f L M wx) (hb : Below wx.heap.size wx wy) : Inv9 w g f L M wy := by
  obtain ⟨S, a, c, hF, hok, hq, hz, hl, hS, hgS, hg0, hg1, hw⟩ := h
  have z := hb.size
  exact ⟨S, a, c, hF.below hb, hok, (hb.cell (by dsimp only; omega)).trans hq, (hb.frozen (by dsimp only; omega)).trans hz, (hl.below (fun b hh => hh.1) hb).more (fun b hh => ⟨by omega, hh.2⟩), hS, hgS, hg0, by omega, hw.trans (hb.mono hw.size)⟩
theorem inv9_copy {w wr w3 w4 w5 : World} {g : Nat} {f f3 : Addr} {L : List (List Ent)} {M : Nat} {S S3 S4 : List Nat} {a : Option Addr} {c : Nat}
    (hF : IsFold wr S f L) (hok : okL M L) (hq : wr.cell? ⟨g, 0, none⟩ = some (.slice a L.length c)) (hz : wr.frozen? ⟨g, 0, none⟩ = false) (hl : LLs wr (fun b => b < wr.heap.size ∧ b ∉ S ∧ b ≠ g) a L)
    (hS : ∀ b ∈ S, w.heap.size ≤ b) (hgS : g ∉ S) (hg0 : w.heap.size ≤ g) (hg1 : g < wr.heap.size) (hw : Below w.heap.size w wr)
    (h3 : IsFold w3 S3 f3 L) (hS3 : ∀ b ∈ S3, wr.heap.size ≤ b) (hb3 : Below wr.heap.size wr w3) (a4 : Apart S w3 w4) (hS4 : ∀ b ∈ S4, b ∈ S ∨ w3.heap.size ≤ b) (a5 : Apart S4 w4 w5) :
    Inv9 w g f3 L M w5 := by
  have z3 := hb3.size
  have z4 := a4.size
  have z5 := a5.size
  have hlt := hF.lt
  have hlt3 := h3.lt
  have aa : Apart S w3 w5 := a4.trans a5 (fun x hx => hS4 x hx)
  refine ⟨S3, a, c, h3.kept aa (fun b hb hh => ?_), hok, ?_, ?_, ?_, fun b hb => ?_, fun hh => ?_, hg0, by omega, ?_⟩
  · have := hS3 _ hb; have := hlt _ hh; omega
  · exact (aa.cell (p := ⟨g, 0, none⟩) (by dsimp only; omega) hgS).trans ((hb3.cell (p := ⟨g, 0, none⟩) hg1).trans hq)
  · exact (aa.frozen (p := ⟨g, 0, none⟩) (by dsimp only; omega) hgS).trans ((hb3.frozen (p := ⟨g, 0, none⟩) hg1).trans hz)
  · refine (hl.keep (fun p hp => (aa.cell (by have := hp.1; omega) hp.2.1).trans (hb3.cell hp.1))).more (fun b hb => ⟨by have := hb.1; omega, fun hh => ?_, hb.2.2⟩)
    have := hS3 _ hh; have := hb.1; omega
  · have := hS3 _ hb; have := hw.size; omega
  · have := hS3 _ hh; omega
  · exact (hw.trans (hb3.mono hw.size)).trans (aa.to_below hS (Nat.le_trans hw.size z3))
/-- Behind a step. -/
def Aft9 (w : World) (g : Nat) (f : Addr) (L : List (List Ent)) (v9 v10 : Value) (wx : World) : Prop :=
  ∃ g7 S a c, v9 = .pointer (some ⟨g7, 0, none⟩) ∧ v10 = .bool true ∧ IsFold wx S f L ∧ wx.cell? ⟨g7, 0, none⟩ = some (.slice a L.length c) ∧ (∃ x y z, wx.cell? ⟨g, 0, none⟩ = some (.slice x y z)) ∧ wx.frozen? ⟨g, 0, none⟩ = false ∧
    LLs wx (fun b => b < wx.heap.size ∧ b ∉ S ∧ b ≠ g) a L ∧ (∀ b ∈ S, w.heap.size ≤ b) ∧ g ∉ S ∧ w.heap.size ≤ g ∧ g < wx.heap.size ∧ Below w.heap.size w wx
theorem aft9_A {w wr w4 : World} {g : Nat} {f : Addr} {L : List (List Ent)} {S S4 : List Nat} {a a4 : Option Addr} {n c c4 : Nat}
    (hq : wr.cell? ⟨g, 0, none⟩ = some (.slice a n c)) (hz : wr.frozen? ⟨g, 0, none⟩ = false) (hS : ∀ b ∈ S, w.heap.size ≤ b) (hlt : ∀ b ∈ S, b < wr.heap.size) (hgS : g ∉ S) (hg0 : w.heap.size ≤ g) (hg1 : g < wr.heap.size) (hw : Below w.heap.size w wr)
    (hF4 : IsFold w4 S4 f L) (ha : Apart S (wr.alloc (.cells #[.slice none 0 0] 28)).drew w4) (hS4 : ∀ b ∈ S4, b ∈ S ∨ (wr.alloc (.cells #[.slice none 0 0] 28)).drew.heap.size ≤ b)
    (hl : LLs w4 (fun b => ((b < wr.heap.size ∧ b ∉ S ∧ b ≠ g) ∨ (wr.alloc (.cells #[.slice none 0 0] 28)).drew.heap.size ≤ b) ∧ b < w4.heap.size ∧ b ∉ S4) a4 L) :
    Aft9 w g f L (.pointer (some ⟨wr.heap.size, 0, none⟩)) (.bool true) (w4.setCell ⟨wr.heap.size, 0, none⟩ (.slice a4 L.length c4)) := by
  have hbA := (Below.refl wr.heap.size wr).alloc (Nat.le_refl _) (.cells #[.slice none 0 0] 28)
  have e7 : (wr.alloc (.cells #[.slice none 0 0] 28)).cell? ⟨wr.heap.size, 0, none⟩ = some (.slice none 0 0) := by simp [World.cell?_alloc_at]
  obtain ⟨Y, hY⟩ : ∃ Y, wr.alloc (.cells #[.slice none 0 0] 28) = Y := ⟨_, rfl⟩
  have sY : Y.heap.size = wr.heap.size + 1 := by rw [← hY]; simp
  rw [hY] at hbA ha hS4 hl e7
  have sYd : Y.drew.heap.size = wr.heap.size + 1 := sY
  rw [sYd] at hS4 hl
  have z4 : wr.heap.size + 1 ≤ w4.heap.size := by have := ha.size; rw [sYd] at this; exact this
  have n7 : wr.heap.size ∉ S := fun hh => by have := hlt _ hh; omega
  have c7 : w4.cell? ⟨wr.heap.size, 0, none⟩ = some (.slice none 0 0) := (ha.cell (p := ⟨wr.heap.size, 0, none⟩) (by show _ < Y.heap.size; dsimp only; omega) n7).trans e7
  have cg : w4.cell? ⟨g, 0, none⟩ = some (.slice a n c) := (ha.cell (p := ⟨g, 0, none⟩) (by show _ < Y.heap.size; dsimp only; omega) hgS).trans ((hbA.cell (p := ⟨g, 0, none⟩) hg1).trans hq)
  have fg : w4.frozen? ⟨g, 0, none⟩ = false := (ha.frozen (p := ⟨g, 0, none⟩) (by show _ < Y.heap.size; dsimp only; omega) hgS).trans ((hbA.frozen (p := ⟨g, 0, none⟩) hg1).trans hz)
  have k7 : Apart [wr.heap.size] w4 (w4.setCell ⟨wr.heap.size, 0, none⟩ (.slice a4 L.length c4)) := (Apart.refl [wr.heap.size] w4).setCell (p := ⟨wr.heap.size, 0, none⟩) (.inl (List.mem_singleton.2 rfl)) _
  have hsz : (w4.setCell ⟨wr.heap.size, 0, none⟩ (.slice a4 L.length c4)).heap.size = w4.heap.size := by simp
  have hzw := hw.size
  refine ⟨wr.heap.size, S4, a4, c4, rfl, rfl, hF4.kept k7 (fun b hb hh => ?_), ?_, ⟨a, n, c, ?_⟩, ?_, ?_, fun b hb => ?_, fun hh => ?_, hg0, by rw [hsz]; omega, ?_⟩
  · have e : b = wr.heap.size := by simpa using hh
    rcases hS4 _ hb with h | h
    · exact n7 (e ▸ h)
    · omega
  · exact World.cell?_setCell_same' _ _ _ (by rw [c7]; rfl)
  · exact (cell_other (p := ⟨g, 0, none⟩) (by dsimp only; omega) _).trans cg
  · rw [World.frozen?_setCell]; exact fg
  · refine (hl.keep (fun p hp => cell_other ?_ _)).more (fun b hb => ⟨by rw [hsz]; exact hb.2.1, hb.2.2, ?_⟩)
    · rcases hp.1 with h | h
      · dsimp only; omega
      · dsimp only; omega
    · rcases hb.1 with h | h
      · exact h.2.2
      · omega
  · rcases hS4 _ hb with h | h
    · exact hS _ h
    · omega
  · rcases hS4 _ hh with h | h
    · exact hgS h
    · omega
  · have hA : Below w.heap.size Y.drew w4 := ha.to_below hS (by rw [sYd]; omega)
    have hk : ∀ b ∈ [wr.heap.size], w.heap.size ≤ b := fun b hb => by
      have e : b = wr.heap.size := by simpa using hb
      omega
    exact ((hw.trans (hbA.mono hzw)).drew.trans hA).trans (k7.to_below hk (by omega))
theorem aft9_B {w wr w4 : World} {g : Nat} {f : Addr} {L : List (List Ent)} {S S4 : List Nat} {a a4 : Option Addr} {n c c4 : Nat}
    (hq : wr.cell? ⟨g, 0, none⟩ = some (.slice a n c)) (hz : wr.frozen? ⟨g, 0, none⟩ = false) (hS : ∀ b ∈ S, w.heap.size ≤ b) (hgS : g ∉ S) (hg0 : w.heap.size ≤ g) (hg1 : g < wr.heap.size) (hw : Below w.heap.size w wr)
    (hF4 : IsFold w4 S4 f L) (ha : Apart S wr.drew w4) (hS4 : ∀ b ∈ S4, b ∈ S ∨ wr.drew.heap.size ≤ b)
    (hl : LLs w4 (fun b => ((b < wr.heap.size ∧ b ∉ S ∧ b ≠ g) ∨ wr.drew.heap.size ≤ b) ∧ b < w4.heap.size ∧ b ∉ S4) a4 L) :
    Aft9 w g f L (.pointer (some ⟨w4.heap.size, 0, none⟩)) (.bool true) (w4.alloc (.cells #[.slice a4 L.length c4] 28)) := by
  have hbA := (Below.refl w4.heap.size w4).alloc (Nat.le_refl _) (.cells #[.slice a4 L.length c4] 28)
  have sD : wr.drew.heap.size = wr.heap.size := rfl
  rw [sD] at hS4 hl
  have z4 : wr.heap.size ≤ w4.heap.size := ha.size
  have cg : w4.cell? ⟨g, 0, none⟩ = some (.slice a n c) := (ha.cell (p := ⟨g, 0, none⟩) hg1 hgS).trans hq
  have fg : w4.frozen? ⟨g, 0, none⟩ = false := (ha.frozen (p := ⟨g, 0, none⟩) hg1 hgS).trans hz
  have hlt4 := hF4.lt
  have hzw := hw.size
  have hs : (w4.alloc (.cells #[.slice a4 L.length c4] 28)).heap.size = w4.heap.size + 1 := by simp
  refine ⟨w4.heap.size, S4, a4, c4, rfl, rfl, hF4.below hbA, by simp [World.cell?_alloc_at], ⟨a, n, c, (hbA.cell (p := ⟨g, 0, none⟩) (by dsimp only; omega)).trans cg⟩, (hbA.frozen (p := ⟨g, 0, none⟩) (by dsimp only; omega)).trans fg, ?_, fun b hb => ?_, fun hh => ?_, hg0, by rw [hs]; omega, ?_⟩
  · refine (hl.below (fun b hb => hb.2.1) hbA).more (fun b hb => ⟨by rw [hs]; have := hb.2.1; omega, hb.2.2, ?_⟩)
    rcases hb.1 with h | h
    · exact h.2.2
    · omega
  · rcases hS4 _ hb with h | h
    · exact hS _ h
    · omega
  · rcases hS4 _ hh with h | h
    · exact hgS h
    · omega
  · have hA : Below w.heap.size wr.drew w4 := ha.to_below hS (by rw [sD]; omega)
    exact (hw.drew.trans hA).trans (hbA.mono (by omega))
theorem aft9_inv {w wx : World} {g : Nat} {f : Addr} {L : List (List Ent)} {M : Nat} {S : List Nat} {a : Option Addr} {c : Nat} {x : Option Addr} {y z : Nat}
    (hok : okL M L) (hF : IsFold wx S f L) (hg : wx.cell? ⟨g, 0, none⟩ = some (.slice x y z)) (hz : wx.frozen? ⟨g, 0, none⟩ = false) (hl : LLs wx (fun b => b < wx.heap.size ∧ b ∉ S ∧ b ≠ g) a L) (hS : ∀ b ∈ S, w.heap.size ≤ b) (hgS : g ∉ S) (hg0 : w.heap.size ≤ g) (hg1 : g < wx.heap.size) (hw : Below w.heap.size w wx) :
    Inv9 w g f L M (wx.setCell ⟨g, 0, none⟩ (.slice a L.length c)) := by
  have k := (Apart.refl [g] wx).setCell (p := ⟨g, 0, none⟩) (.inl (List.mem_singleton.2 rfl)) (.slice a L.length c)
  have hsz : (wx.setCell ⟨g, 0, none⟩ (.slice a L.length c)).heap.size = wx.heap.size := by simp
  refine ⟨S, a, c, hF.kept k (fun b hb hh => ?_), hok, World.cell?_setCell_same' _ _ _ (by rw [hg]; rfl), by rw [World.frozen?_setCell]; exact hz, ?_, hS, hgS, hg0, by rw [hsz]; exact hg1, hw.setCell hg0 _⟩
  · have e : b = g := by simpa using hh
    exact hgS (e ▸ hb)
  · exact (hl.keep (fun p hp => cell_other hp.2.2 _)).more (fun b hb => ⟨by rw [hsz]; exact hb.1, hb.2⟩)
end Go.Proofs.Ytpcbfkcpefcnjaa
