/-
  Contracts of Of, Sub and Head of layer 4, the program's and the document's.
-/
import Derived.Test.YtephlcdanokolaaUtfCount
namespace Go.Proofs.Ytephlcdanokolaa
open Go.RowKit

/-- A count as a value. -/
abbrev cntV (b r l : Int) : Value := .agg #[.int .i64 b, .int .i64 r, .int .i64 l]

theorem bcell {W w1 : World} (hb : Below W.heap.size W w1) : (∀ b o, b < W.heap.size → w1.cell? ⟨b, o, none⟩ = W.cell? ⟨b, o, none⟩) ∧ (∀ b o, b < W.heap.size → w1.frozen? ⟨b, o, none⟩ = W.frozen? ⟨b, o, none⟩) :=
  ⟨fun b o h => hb.cell (p := ⟨b, o, none⟩) h, fun b o h => hb.frozen (p := ⟨b, o, none⟩) h⟩

/-- Behind a call: a result's three cells written. -/
theorem below_set3 {w w2 : World} {o : Obj} (hb : Below (w.alloc o).heap.size (w.alloc o) w2) (u0 u1 u2 : Value) :
    Below w.heap.size w (((w2.setCell ⟨w.heap.size, 0, none⟩ u0).setCell ⟨w.heap.size, 1, none⟩ u1).setCell ⟨w.heap.size, 2, none⟩ u2) :=
  ((((((Below.refl _ _).alloc (Nat.le_refl _) _).trans (hb.mono (by simp))).setCell (p := ⟨w.heap.size, 0, none⟩) (Nat.le_refl _) _).setCell (p := ⟨w.heap.size, 1, none⟩) (Nat.le_refl _) _)).setCell (p := ⟨w.heap.size, 2, none⟩) (Nat.le_refl _) _

set_option maxRecDepth 100000 in
set_option maxHeartbeats 400000 in
theorem tof_any (s : ByteArray) (hs : s.size ≤ maxLen) (w : World) :
    Calls Try.prog 84 #[.string s] w fun e w' => e = .returned (cntV s.size (runes s.data.toList) (lines s.data.toList)) ∧ Below w.heap.size w w' := by
  have c1 := runes_any s hs
  have c2 := lines_any s hs
  obtain ⟨x, hx⟩ : ∃ x, runes s.data.toList = x := ⟨_, rfl⟩
  obtain ⟨y, hy⟩ : ∃ y, lines s.data.toList = y := ⟨_, rfl⟩
  rw [hx] at c1 ⊢
  rw [hy] at c2 ⊢
  have C1 := Lib.hid c1; have C2 := Lib.hid c2
  clear c1 c2 hx hy
  unfold maxLen at hs
  go_enter Try.func84, Try.ntmps84
  go_wp2_with fail
  refine (C1.out _).mono ?_
  rintro e w1 ⟨rfl, hb1⟩
  go_wp2_with fail
  refine (onward hb1 (C2.out _)).mono ?_
  rintro e w2 ⟨rfl, hb2⟩
  obtain ⟨hc, hf⟩ := bcell hb2
  go_wp2
  refine bodyPost_ret (v := cntV s.size x y) (by simp [results, Try.results84, hc, go_sem]) rfl ⟨rfl, ?_⟩
  exact below_set3 hb2 _ _ _

set_option maxRecDepth 100000 in
set_option maxHeartbeats 400000 in
theorem rtof_any (s : ByteArray) (hs : s.size ≤ maxLen) (w : World) :
    Calls Try.prog 24 #[.string s] w fun e w' => e = .returned (cntV s.size (runes s.data.toList) (lines s.data.toList)) ∧ Below w.heap.size w w' := by
  have c1 := rrunes_any s hs
  have c2 := rlines_any s hs
  obtain ⟨x, hx⟩ : ∃ x, runes s.data.toList = x := ⟨_, rfl⟩
  obtain ⟨y, hy⟩ : ∃ y, lines s.data.toList = y := ⟨_, rfl⟩
  rw [hx] at c1 ⊢
  rw [hy] at c2 ⊢
  have C1 := Lib.hid c1; have C2 := Lib.hid c2
  clear c1 c2 hx hy
  unfold maxLen at hs
  go_enter Try.func24, Try.ntmps24
  go_wp2_with fail
  refine (C1.out _).mono ?_
  rintro e w1 ⟨rfl, rfl⟩
  go_wp2_with fail
  refine (C2.out _).mono ?_
  rintro e w2 ⟨rfl, rfl⟩
  go_wp2
  refine bodyPost_ret (v := cntV s.size x y) (by simp [results, Try.results24, go_sem]) rfl ⟨rfl, ?_⟩
  exact (Below.refl _ _).alloc (Nat.le_refl _) _

/-- The first so many bytes, as far as there are. -/
def headS (s : ByteArray) (p : Int) : ByteArray := s.extract 0 (min (max p 0) s.size).toNat
theorem headS_size (s : ByteArray) (p : Int) : (headS s p).size = (min (max p 0) s.size).toNat := by unfold headS; rw [ByteArray.size_extract]; omega
theorem headS_0 (s : ByteArray) (p : Int) (h : p < 0) : headS s p = ByteArray.empty := by unfold headS; rw [show (min (max p 0) (s.size : Int)).toNat = 0 by omega]; simp
theorem headS_00 (s : ByteArray) (p : Int) (h : p ≤ 0) : headS s p = ByteArray.empty := by unfold headS; rw [show (min (max p 0) (s.size : Int)).toNat = 0 by omega]; simp
theorem headS_1 (s : ByteArray) (k : Nat) (h : k ≤ s.size) : headS s k = s.extract 0 k := by unfold headS; rw [show (min (max (k : Int) 0) (s.size : Int)).toNat = k by omega]
theorem headS_2 (s : ByteArray) (p : Int) (h : s.size ≤ p) : headS s p = s := by unfold headS; rw [show (min (max p 0) (s.size : Int)).toNat = s.size by omega]; simp

end Go.Proofs.Ytephlcdanokolaa
