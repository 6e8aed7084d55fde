/-
  Contracts of Of, Sub and Head of layer 4, the program's and the document's.
-/
import Derived.Test.YtapkkbiodfeooaaUtfCount
namespace Go.Proofs.Ytapkkbiodfeooaa
open Go.RowKit

/-- A count as a value. -/
abbrev cntV (b r l : Int) : Value := .agg #[.int .i64 b, .int .i64 r, .int .i64 l]

theorem bcell {W w1 : World} (hb : Below W.heap.size W w1) : (∀ b o, b < W.heap.size → w1.cell? ⟨b, o, none⟩ = W.cell? ⟨b, o, none⟩) ∧ (∀ b o, b < W.heap.size → w1.frozen? ⟨b, o, none⟩ = W.frozen? ⟨b, o, none⟩) :=
  ⟨fun b o h => hb.cell (p := ⟨b, o, none⟩) h, fun b o h => hb.frozen (p := ⟨b, o, none⟩) h⟩

/-- Behind a call: a result's three cells written. -/
theorem below_set3 {w w2 : World} {o : Obj} (hb : Below (w.alloc o).heap.size (w.alloc o) w2) (u0 u1 u2 : Value) :
    Below w.heap.size w (((w2.setCell ⟨w.heap.size, 0, none⟩ u0).setCell ⟨w.heap.size, 1, none⟩ u1).setCell ⟨w.heap.size, 2, none⟩ u2) :=
  ((((((Below.refl _ _).alloc (Nat.le_refl _) _).trans (hb.mono (by simp))).setCell (p := ⟨w.heap.size, 0, none⟩) (Nat.le_refl _) _).setCell (p := ⟨w.heap.size, 1, none⟩) (Nat.le_refl _) _)).setCell (p := ⟨w.heap.size, 2, none⟩) (Nat.le_refl _) _

set_option maxRecDepth 100000 in
set_option maxHeartbeats 400000 in
theorem tof_any (s : ByteArray) (hs : s.size ≤ maxLen) (w : World) :
    Calls Try.prog 7 #[.string s] w fun e w' => e = .returned (cntV s.size (runes s.data.toList) (lines s.data.toList)) ∧ Below w.heap.size w w' := by
  have c1 := runes_any s hs
  have c2 := lines_any s hs
  obtain ⟨x, hx⟩ : ∃ x, runes s.data.toList = x := ⟨_, rfl⟩
  obtain ⟨y, hy⟩ : ∃ y, lines s.data.toList = y := ⟨_, rfl⟩
  rw [hx] at c1 ⊢
  rw [hy] at c2 ⊢
  have C1 := Lib.hid c1; have C2 := Lib.hid c2
  clear c1 c2 hx hy
  unfold maxLen at hs
  go_enter Try.func7, Try.ntmps7
  go_wp2_with fail
  refine (C1.out _).mono ?_
  rintro e w1 ⟨rfl, hb1⟩
  go_wp2_with fail
  refine (onward hb1 (C2.out _)).mono ?_
  rintro e w2 ⟨rfl, hb2⟩
  obtain ⟨hc, hf⟩ := bcell hb2
  go_wp2
  refine bodyPost_ret (v := cntV s.size x y) (by simp [results, Try.results7, hc, go_sem]) rfl ⟨rfl, ?_⟩
  exact below_set3 hb2 _ _ _

set_option maxRecDepth 100000 in
set_option maxHeartbeats 400000 in
theorem rtof_any (s : ByteArray) (hs : s.size ≤ maxLen) (w : World) :
    Calls Try.prog 8 #[.string s] w fun e w' => e = .returned (cntV s.size (runes s.data.toList) (lines s.data.toList)) ∧ Below w.heap.size w w' := by
  have c1 := rrunes_any s hs
  have c2 := rlines_any s hs
  obtain ⟨x, hx⟩ : ∃ x, runes s.data.toList = x := ⟨_, rfl⟩
  obtain ⟨y, hy⟩ : ∃ y, lines s.data.toList = y := ⟨_, rfl⟩
  rw [hx] at c1 ⊢
  rw [hy] at c2 ⊢
  have C1 := Lib.hid c1; have C2 := Lib.hid c2
  clear c1 c2 hx hy
  unfold maxLen at hs
  go_enter Try.func8, Try.ntmps8
  go_wp2_with fail
  refine (C1.out _).mono ?_
  rintro e w1 ⟨rfl, rfl⟩
  go_wp2_with fail
  refine (C2.out _).mono ?_
  rintro e w2 ⟨rfl, rfl⟩
  go_wp2
  refine bodyPost_ret (v := cntV s.size x y) (by simp [results, Try.results8, go_sem]) rfl ⟨rfl, ?_⟩
  exact (Below.refl _ _).alloc (Nat.le_refl _) _

set_option maxRecDepth 100000 in
set_option maxHeartbeats 400000 in
theorem tsub_same (a b c : Int) (w : World) :
    Calls Try.prog 13 #[cntV a b c, cntV a b c] w fun e w' => e = .returned (cntV 0 0 0) ∧ Below w.heap.size w w' := by
  go_enter Try.func13, Try.ntmps13
  go_wp2
  refine bodyPost_ret (v := cntV 0 0 0) (by simp [results, Try.results13, go_sem]) rfl ⟨rfl, ?_⟩
  exact (((Below.refl _ _).alloc (Nat.le_refl _) _).alloc (by simp) _).alloc (by simp; omega) _

set_option maxRecDepth 100000 in
set_option maxHeartbeats 400000 in
theorem tsub_any (a b c x y z : Int) (w : World) :
    Calls Try.prog 13 #[cntV a b c, cntV x y z] w fun e w' => e = .returned (cntV (wrap64 (a - x)) (wrap64 (b - y)) (wrap64 (c - z))) ∧ Below w.heap.size w w' := by
  by_cases he : a = x ∧ b = y ∧ c = z
  · obtain ⟨rfl, rfl, rfl⟩ := he
    rw [Int.sub_self, Int.sub_self, Int.sub_self, show wrap64 0 = 0 by unfold wrap64; omega]
    exact tsub_same _ _ _ _
  · go_enter Try.func13, Try.ntmps13
    go_wp2
    all_goals first
      | (exfalso; omega)
      | (refine bodyPost_ret (v := cntV (wrap64 (a - x)) (wrap64 (b - y)) (wrap64 (c - z))) (by simp [results, Try.results13, go_sem] <;> simp_all [wrap64]) rfl ⟨rfl, ?_⟩
         exact (((Below.refl _ _).alloc (Nat.le_refl _) _).alloc (by simp) _).alloc (by simp; omega) _)

set_option maxRecDepth 100000 in
set_option maxHeartbeats 400000 in
theorem rtsub_any (a b c x y z : Int) (w : World) :
    Calls Try.prog 14 #[cntV a b c, cntV x y z] w fun e w' => e = .returned (cntV (wrap64 (a - x)) (wrap64 (b - y)) (wrap64 (c - z))) ∧ Below w.heap.size w w' := by
  go_enter Try.func14, Try.ntmps14
  go_wp2
  refine bodyPost_ret (v := cntV (wrap64 (a - x)) (wrap64 (b - y)) (wrap64 (c - z))) (by simp [results, Try.results14, go_sem]) rfl ⟨rfl, ?_⟩
  exact (((Below.refl _ _).alloc (Nat.le_refl _) _).alloc (by simp) _).alloc (by simp; omega) _

/-- The first so many bytes, as far as there are. -/
def headS (s : ByteArray) (p : Int) : ByteArray := s.extract 0 (min (max p 0) s.size).toNat
theorem headS_size (s : ByteArray) (p : Int) : (headS s p).size = (min (max p 0) s.size).toNat := by unfold headS; rw [ByteArray.size_extract]; omega
theorem headS_0 (s : ByteArray) (p : Int) (h : p < 0) : headS s p = ByteArray.empty := by unfold headS; rw [show (min (max p 0) (s.size : Int)).toNat = 0 by omega]; simp
theorem headS_00 (s : ByteArray) (p : Int) (h : p ≤ 0) : headS s p = ByteArray.empty := by unfold headS; rw [show (min (max p 0) (s.size : Int)).toNat = 0 by omega]; simp
theorem headS_1 (s : ByteArray) (k : Nat) (h : k ≤ s.size) : headS s k = s.extract 0 k := by unfold headS; rw [show (min (max (k : Int) 0) (s.size : Int)).toNat = k by omega]
theorem headS_2 (s : ByteArray) (p : Int) (h : s.size ≤ p) : headS s p = s := by unfold headS; rw [show (min (max p 0) (s.size : Int)).toNat = s.size by omega]; simp

set_option maxRecDepth 100000 in
set_option maxHeartbeats 400000 in
theorem thead_any (s : ByteArray) (hs : s.size ≤ maxLen) (p : Int) (w : World) :
    Calls Try.prog 9 #[.string s, .int .i64 p] w fun e w' => e = .returned (cntV (headS s p).size (runes (headS s p).data.toList) (lines (headS s p).data.toList)) ∧ Below w.heap.size w w' := by
  have hle : (headS s p).size ≤ maxLen := by rw [headS_size]; omega
  have c1 := tof_any (headS s p) hle
  clear hle
  unfold maxLen at hs
  obtain ⟨b, hb⟩ : ∃ b : Int, ((headS s p).size : Int) = b := ⟨_, rfl⟩
  obtain ⟨x, hx⟩ : ∃ x, runes (headS s p).data.toList = x := ⟨_, rfl⟩
  obtain ⟨y, hy⟩ : ∃ y, lines (headS s p).data.toList = y := ⟨_, rfl⟩
  rw [hb, hx, hy] at c1 ⊢
  clear hb hx hy
  by_cases h0 : p ≤ 0
  · rw [headS_00 s p h0] at c1
    have C1 := Lib.hid c1; clear c1
    go_enter Try.func9, Try.ntmps9
    go_wp2_with fail
    refine (C1.out _).mono ?_
    rintro e w1 ⟨rfl, hb1⟩
    obtain ⟨hc, hf⟩ := bcell hb1
    go_wp2
    refine bodyPost_ret (v := cntV b x y) (by simp [results, Try.results9, hc, go_sem]) rfl ⟨rfl, ?_⟩
    exact below_set3 hb1 _ _ _
  by_cases h1 : p < s.size
  · obtain ⟨k, rfl⟩ := Int.eq_ofNat_of_zero_le (show 0 ≤ p by omega)
    rw [headS_1 s k (by omega)] at c1
    have h2 : k < s.size := by omega
    have h3 : 0 < k := by omega
    clear h0 h1
    have C1 := Lib.hid c1; clear c1
    go_enter Try.func9, Try.ntmps9
    go_wp2_with fail
    refine (C1.out _).mono ?_
    rintro e w1 ⟨rfl, hb1⟩
    obtain ⟨hc, hf⟩ := bcell hb1
    go_wp2
    refine bodyPost_ret (v := cntV b x y) (by simp [results, Try.results9, hc, go_sem]) rfl ⟨rfl, ?_⟩
    exact below_set3 hb1 _ _ _
  by_cases h3 : p = s.size
  · subst h3
    rw [headS_2 s s.size (Int.le_refl _)] at c1
    have h4 : 0 < s.size := by omega
    clear h0 h1
    have C1 := Lib.hid c1; clear c1
    go_enter Try.func9, Try.ntmps9
    go_wp2_with fail
    refine (C1.out _).mono ?_
    rintro e w1 ⟨rfl, hb1⟩
    obtain ⟨hc, hf⟩ := bcell hb1
    go_wp2
    refine bodyPost_ret (v := cntV b x y) (by simp [results, Try.results9, hc, go_sem]) rfl ⟨rfl, ?_⟩
    exact below_set3 hb1 _ _ _
  have h2 : (s.size : Int) < p := by omega
  rw [headS_2 s p (by omega)] at c1
  clear h1 h3
  by_cases h4 : s.size = 0
  · obtain rfl : s = ByteArray.empty := by
      apply ByteArray.ext; apply Array.eq_empty_of_size_eq_zero; exact h4
    have h5 : 0 < p := by omega
    clear h0 h2 h4
    have C1 := Lib.hid c1; clear c1
    go_enter Try.func9, Try.ntmps9
    go_wp2_with fail
    refine (C1.out _).mono ?_
    rintro e w1 ⟨rfl, hb1⟩
    obtain ⟨hc, hf⟩ := bcell hb1
    go_wp2
    refine bodyPost_ret (v := cntV b x y) (by simp [results, Try.results9, hc, go_sem]) rfl ⟨rfl, ?_⟩
    exact below_set3 hb1 _ _ _
  · have h5 : 0 < s.size := by omega
    clear h0 h4
    have C1 := Lib.hid c1; clear c1
    go_enter Try.func9, Try.ntmps9
    go_wp2_with fail
    refine (C1.out _).mono ?_
    rintro e w1 ⟨rfl, hb1⟩
    obtain ⟨hc, hf⟩ := bcell hb1
    go_wp2
    refine bodyPost_ret (v := cntV b x y) (by simp [results, Try.results9, hc, go_sem]) rfl ⟨rfl, ?_⟩
    exact below_set3 hb1 _ _ _

set_option maxRecDepth 100000 in
set_option maxHeartbeats 400000 in
theorem rthead_any (s : ByteArray) (hs : s.size ≤ maxLen) (p : Int) (w : World) :
    Calls Try.prog 10 #[.string s, .int .i64 p] w fun e w' => e = .returned (cntV (headS s p).size (runes (headS s p).data.toList) (lines (headS s p).data.toList)) ∧ Below w.heap.size w w' := by
  have hle : (headS s p).size ≤ maxLen := by rw [headS_size]; omega
  have c1 := rtof_any (headS s p) hle
  clear hle
  unfold maxLen at hs
  obtain ⟨b, hb⟩ : ∃ b : Int, ((headS s p).size : Int) = b := ⟨_, rfl⟩
  obtain ⟨x, hx⟩ : ∃ x, runes (headS s p).data.toList = x := ⟨_, rfl⟩
  obtain ⟨y, hy⟩ : ∃ y, lines (headS s p).data.toList = y := ⟨_, rfl⟩
  rw [hb, hx, hy] at c1 ⊢
  clear hb hx hy
  by_cases h0 : p < 0
  · rw [headS_0 s p h0] at c1
    have C1 := Lib.hid c1; clear c1
    go_enter Try.func10, Try.ntmps10
    go_wp2_with fail
    refine (C1.out _).mono ?_
    rintro e w1 ⟨rfl, hb1⟩
    obtain ⟨hc, hf⟩ := bcell hb1
    go_wp2
    refine bodyPost_ret (v := cntV b x y) (by simp [results, Try.results10, hc, go_sem]) rfl ⟨rfl, ?_⟩
    exact below_set3 hb1 _ _ _
  by_cases h1 : p < s.size
  · obtain ⟨k, rfl⟩ := Int.eq_ofNat_of_zero_le (show 0 ≤ p by omega)
    rw [headS_1 s k (by omega)] at c1
    have C1 := Lib.hid c1; clear c1
    have h2 : k < s.size := by omega
    clear h0 h1
    go_enter Try.func10, Try.ntmps10
    go_wp2_with fail
    refine (C1.out _).mono ?_
    rintro e w1 ⟨rfl, hb1⟩
    obtain ⟨hc, hf⟩ := bcell hb1
    go_wp2
    refine bodyPost_ret (v := cntV b x y) (by simp [results, Try.results10, hc, go_sem]) rfl ⟨rfl, ?_⟩
    exact below_set3 hb1 _ _ _
  by_cases h3 : p = s.size
  · subst h3
    rw [headS_2 s s.size (Int.le_refl _)] at c1
    have C1 := Lib.hid c1; clear c1
    clear h0 h1
    go_enter Try.func10, Try.ntmps10
    go_wp2_with fail
    refine (C1.out _).mono ?_
    rintro e w1 ⟨rfl, hb1⟩
    obtain ⟨hc, hf⟩ := bcell hb1
    go_wp2
    refine bodyPost_ret (v := cntV b x y) (by simp [results, Try.results10, hc, go_sem]) rfl ⟨rfl, ?_⟩
    exact below_set3 hb1 _ _ _
  · have h2 : (s.size : Int) < p := by omega
    rw [headS_2 s p (by omega)] at c1
    have C1 := Lib.hid c1; clear c1
    clear h0 h1 h3
    go_enter Try.func10, Try.ntmps10
    go_wp2_with fail
    refine (C1.out _).mono ?_
    rintro e w1 ⟨rfl, hb1⟩
    obtain ⟨hc, hf⟩ := bcell hb1
    go_wp2
    refine bodyPost_ret (v := cntV b x y) (by simp [results, Try.results10, hc, go_sem]) rfl ⟨rfl, ?_⟩
    exact below_set3 hb1 _ _ _

end Go.Proofs.Ytapkkbiodfeooaa
