/-
  Contracts of the program's frames: whole, Lay.
-/
import Derived.Test.YtibbglmhcjnedaaDoorFrameDev2
namespace Go.Proofs.YtibbglmhcjnedaaDoor
open Go.RowKit
set_option linter.unusedVariables false

theorem ret_ii {a b c d : Int} (h1 : a = c) (h2 : b = d) : Ending.returned (.tuple #[.int .i64 a, .int .i64 b]) = .returned (.tuple #[.int .i64 c, .int .i64 d]) := by rw [h1, h2]
theorem Blk.three {w : World} {b : Nat} {x0 x1 x2 : Value} {t : TypeId} (h : Blk w b #[x0, x1, x2] t) :
    w.cell? ⟨b, 0, none⟩ = some x0 ∧ w.cell? ⟨b, 1, none⟩ = some x1 ∧ w.cell? ⟨b, 2, none⟩ = some x2 ∧ w.frozen? ⟨b, 0, none⟩ = false ∧ w.frozen? ⟨b, 1, none⟩ = false ∧ w.frozen? ⟨b, 2, none⟩ = false :=
  ⟨h.cell 0 _ rfl, h.cell 1 _ rfl, h.cell 2 _ rfl, h.free 0, h.free 1, h.free 2⟩

set_option maxRecDepth 100000 in
set_option maxHeartbeats 400000 in
theorem fwhole_form (s : ByteArray) (h : begB s.data.toList = false) (w : World) (hF : First w) :
    Calls Tryd.prog 37 #[.string s] w fun e w' => e = .returned (.tuple #[.int .i64 0, .int .i64 5]) ∧ Below w.heap.size w w' := by
  have c1 := fbegun_any s w hF
  rw [h] at c1
  have C1 := Lib.hid c1; clear c1 h hF
  go_enter Tryd.func37, Tryd.ntmps37
  go_wp2_with fail
  refine C1.out.mono ?_; rintro e w1 ⟨rfl, hb1⟩
  go_wp2
  go_ret2
  exact ⟨rfl, hb1⟩

set_option maxRecDepth 100000 in
set_option maxHeartbeats 400000 in
theorem fwhole_less (s : ByteArray) (h : begB s.data.toList = true) (h16 : s.size < 16) (w : World) (hF : First w) :
    Calls Tryd.prog 37 #[.string s] w fun e w' => e = .returned (.tuple #[.int .i64 0, .int .i64 18]) ∧ Below w.heap.size w w' := by
  have c1 := fbegun_any s w hF
  rw [h] at c1
  have C1 := Lib.hid c1; clear c1 h hF
  go_enter Tryd.func37, Tryd.ntmps37
  go_wp2_with fail
  refine C1.out.mono ?_; rintro e w1 ⟨rfl, hb1⟩
  go_wp2
  go_ret2
  exact ⟨rfl, hb1⟩

set_option maxRecDepth 100000 in
set_option maxHeartbeats 400000 in
theorem fwhole_long (s : ByteArray) (hs : s.size ≤ maxLen) (h : begB s.data.toList = true) (h16 : 16 ≤ s.size) (n : Nat) (hn : leN s.data.toList 2 2 = n) (hln : 1024 < n) (w : World) (hF : First w) :
    Calls Tryd.prog 37 #[.string s] w fun e w' => e = .returned (.tuple #[.int .i64 0, .int .i64 6]) ∧ Below w.heap.size w w' := by
  have hl : s.data.toList.length = s.size := by simp
  have c1 := fbegun_any s w hF
  have c2 := nget16_b s hs 2
  rw [show getI s.data.toList 2 2 = (leN s.data.toList 2 2, true) from getI_in _ 2 2 (by omega), hn] at c2
  have bn : n < 65536 := by rw [← hn]; exact leN_lt _ 2 2
  have c3 := fsize_any n (by omega) (by omega)
  rw [show sizI n = 16 + (n : Int) from if_neg (by omega)] at c3
  rw [h] at c1
  have C1 := Lib.hid c1; have C2 := Lib.hid c2; have C3 := Lib.hid c3; clear c1 c2 c3 h hF hn hl
  unfold maxLen at hs
  go_enter Tryd.func37, Tryd.ntmps37
  go_wp2_with fail
  refine C1.out.mono ?_; rintro e w1 ⟨rfl, hb1⟩
  go_wp2_with fail
  refine (onward (w0 := w) hb1 (C2.out _)).mono ?_; rintro e w2 ⟨rfl, hb2⟩
  go_wp2
  go_ret2
  exact ⟨by first | rfl | exact ret_ii (by omega) rfl, hb2⟩

set_option maxRecDepth 100000 in
set_option maxHeartbeats 400000 in
theorem fwhole_lack (s : ByteArray) (hs : s.size ≤ maxLen) (h : begB s.data.toList = true) (h16 : 16 ≤ s.size) (n : Nat) (hn : leN s.data.toList 2 2 = n) (hln : n ≤ 1024) (hla : s.size < 16 + n) (w : World) (hF : First w) :
    Calls Tryd.prog 37 #[.string s] w fun e w' => e = .returned (.tuple #[.int .i64 0, .int .i64 18]) ∧ Below w.heap.size w w' := by
  have hl : s.data.toList.length = s.size := by simp
  have c1 := fbegun_any s w hF
  have c2 := nget16_b s hs 2
  rw [show getI s.data.toList 2 2 = (leN s.data.toList 2 2, true) from getI_in _ 2 2 (by omega), hn] at c2
  have bn : n < 65536 := by rw [← hn]; exact leN_lt _ 2 2
  have c3 := fsize_any n (by omega) (by omega)
  rw [show sizI n = 16 + (n : Int) from if_neg (by omega)] at c3
  rw [h] at c1
  have C1 := Lib.hid c1; have C2 := Lib.hid c2; have C3 := Lib.hid c3; clear c1 c2 c3 h hF hn hl
  unfold maxLen at hs
  go_enter Tryd.func37, Tryd.ntmps37
  go_wp2_with fail
  refine C1.out.mono ?_; rintro e w1 ⟨rfl, hb1⟩
  go_wp2_with fail
  refine (onward (w0 := w) hb1 (C2.out _)).mono ?_; rintro e w2 ⟨rfl, hb2⟩
  go_wp2_with fail
  refine (C3.out _).mono ?_; rintro e w' ⟨rfl, rfl⟩
  go_wp2
  go_ret2
  exact ⟨by first | rfl | exact ret_ii (by omega) rfl, hb2⟩

set_option maxRecDepth 100000 in
set_option maxHeartbeats 400000 in
theorem fwhole_ok (s : ByteArray) (hs : s.size ≤ maxLen) (h : begB s.data.toList = true) (h16 : 16 ≤ s.size) (n : Nat) (hn : leN s.data.toList 2 2 = n) (hln : n ≤ 1024) (hla : 16 + n ≤ s.size) (w : World) (hF : First w) :
    Calls Tryd.prog 37 #[.string s] w fun e w' => e = .returned (.tuple #[.int .i64 ((16 + n : Nat) : Int), .int .i64 0]) ∧ Below w.heap.size w w' := by
  have hl : s.data.toList.length = s.size := by simp
  have c1 := fbegun_any s w hF
  have c2 := nget16_b s hs 2
  rw [show getI s.data.toList 2 2 = (leN s.data.toList 2 2, true) from getI_in _ 2 2 (by omega), hn] at c2
  have bn : n < 65536 := by rw [← hn]; exact leN_lt _ 2 2
  have c3 := fsize_any n (by omega) (by omega)
  rw [show sizI n = 16 + (n : Int) from if_neg (by omega)] at c3
  rw [h] at c1
  have C1 := Lib.hid c1; have C2 := Lib.hid c2; have C3 := Lib.hid c3; clear c1 c2 c3 h hF hn hl
  unfold maxLen at hs
  go_enter Tryd.func37, Tryd.ntmps37
  go_wp2_with fail
  refine C1.out.mono ?_; rintro e w1 ⟨rfl, hb1⟩
  go_wp2_with fail
  refine (onward (w0 := w) hb1 (C2.out _)).mono ?_; rintro e w2 ⟨rfl, hb2⟩
  go_wp2_with fail
  refine (C3.out _).mono ?_; rintro e w' ⟨rfl, rfl⟩
  go_wp2
  go_ret2
  exact ⟨by first | rfl | exact ret_ii (by omega) rfl, hb2⟩

end Go.Proofs.YtibbglmhcjnedaaDoor
