/-
  FuseNobody: a fuse that no call made tells that no call made it; the opener of a fault. (Written by gen_nob10.py.)
-/
import Derived.Test.YtllbpjgmmbnogaaOpenFuse
namespace Go.Proofs.Ytllbpjgmmbnogaa
open Go.RowKit Go.ChangeShapes Go.WideShapes Go.Deep
set_option linter.unusedVariables false
section
variable {H : Type} {enc : TypeId × Value → H} {w : World} {base : Nat} {spare : Nat → Bool} {held : Bool}
theorem open_fault {r : Reach} {b0 : Nat} {v : Value} {d : DataW H} {p : List MemPlace} (hv : Value.okWide Try.prog w r b0 30 v) (h : DataW.Trod enc Try.prog w base spare held 30 v d p) (_ : ∀ x ∈ p, x.block < w.heap.size) :
    ∃ k i : Int, v = .agg #[.int .i64 k, .int .i64 i] ∧ i ≤ 9223372036854775807 := by
  obtain ⟨cs, rfl, _⟩ := okWide_struct Try.underlying30 hv
  obtain ⟨n, hn⟩ := h
  obtain ⟨k, i, hb, he⟩ := trod_fault hn
  refine ⟨k, i, ?_, hb⟩
  have : cs.toList = [.int .i64 k, .int .i64 i] := by simpa [Value.cells] using he
  show Value.agg cs = _
  rw [show cs = #[.int .i64 k, .int .i64 i] from Array.toList_inj.1 this]
end
theorem NobZ.below {w w' : World} {v : Value} (h : NobZ w v) (hb : Below w.heap.size w w') : NobZ w' v := by
  rcases h with rfl | ⟨b, rfl, h⟩
  · exact .inl rfl
  · exact .inr ⟨b, rfl, Blk.onto h hb⟩
set_option maxRecDepth 100000 in
set_option maxHeartbeats 3200000 in
theorem fuseNobody_walk (k n : Int) (w : World) (hn : n ≤ 9223372036854775807) :
    Calls Try.prog 5 #[.agg #[.int .i64 k, .int .i64 n]] w fun e w' => e = .returned (.bool true) ∧ Below w.heap.size w w' := by
  have nn : ∀ X : World, NobZ X (.pointer none) := fun X => .inl rfl
  have NN := Lib.hid nn
  clear nn hn
  go_enter Try.func5, Try.ntmps5
  go_wp2_with fail
  obtain ⟨V, hV⟩ : ∃ V, w.alloc (.cells #[.int .i64 k, .int .i64 n] 30) = V := ⟨_, rfl⟩
  have hs : w.heap.size + 1 = V.heap.size := by rw [← hV]; simp
  have x0 : Blk V w.heap.size #[.int .i64 k, .int .i64 n] 30 := by rw [← hV]; exact Blk.new w _ _
  have hbV : Below w.heap.size w V := by rw [← hV]; exact (Below.refl _ _).alloc (Nat.le_refl _) _
  rw [hV, hs]
  have t0 : FzB (V.alloc (.cells #[.int .i64 0, .bool false, .int .i64 0, .bool false, .int .i64 0, .bool false, .int .i64 0, .bool false, .int .i64 0] 45)) V.heap.size 0 false 0 false 0 false 0 false 0 := Blk.new V _ _
  have hb0 := hbV.alloc (by omega) (.cells #[.int .i64 0, .bool false, .int .i64 0, .bool false, .int .i64 0, .bool false, .int .i64 0, .bool false, .int .i64 0] 45)
  have x1 := Blk.alloc x0 (.cells #[.int .i64 0, .bool false, .int .i64 0, .bool false, .int .i64 0, .bool false, .int .i64 0, .bool false, .int .i64 0] 45)
  obtain ⟨W0, hW⟩ : ∃ W, V.alloc (.cells #[.int .i64 0, .bool false, .int .i64 0, .bool false, .int .i64 0, .bool false, .int .i64 0, .bool false, .int .i64 0] 45) = W := ⟨_, rfl⟩
  rw [hW] at t0 hb0 x1 ⊢
  have z0 : NobZ W0 (.pointer (some ⟨V.heap.size, 0, none⟩)) := .inr ⟨_, rfl, t0⟩
  have Z0 := Lib.hid z0; have HB0 := Lib.hid hb0; have X0 := Lib.hid x1
  clear z0 hb0 hW t0 hV hs hbV x0 x1
  refine (freset_nob (NN.out _)).mono ?_
  rintro e w1 ⟨rfl, hb1⟩
  have z1 := Z0.out.below hb1
  have x1 := X0.out.onto hb1
  have c1 := x1.cell 0 _ rfl
  have d1 := x1.cell 1 _ rfl
  have hB1 := HB0.out.trans (hb1.mono HB0.out.size)
  have Z1 := Lib.hid z1; have HB1 := Lib.hid hB1; have X1 := Lib.hid x1; clear z1 hb1 hB1 x1
  go_wp2_with fail
  refine (freset_nob Z1.out).mono ?_
  rintro e w2 ⟨rfl, hb2⟩
  have z2 := Z1.out.below hb2
  have x2 := X1.out.onto hb2
  have c2 := x2.cell 0 _ rfl
  have d2 := x2.cell 1 _ rfl
  have hB2 := HB1.out.trans (hb2.mono HB1.out.size)
  have Z2 := Lib.hid z2; have HB2 := Lib.hid hB2; have X2 := Lib.hid x2; clear z2 hb2 hB2 x2
  go_wp2_with fail
  refine (farm_nob (NN.out _) k n).mono ?_
  rintro e w3 ⟨rfl, hb3⟩
  have z3 := Z2.out.below hb3
  have x3 := X2.out.onto hb3
  have c3 := x3.cell 0 _ rfl
  have d3 := x3.cell 1 _ rfl
  have hB3 := HB2.out.trans (hb3.mono HB2.out.size)
  have Z3 := Lib.hid z3; have HB3 := Lib.hid hB3; have X3 := Lib.hid x3; clear z3 hb3 hB3 x3
  go_wp2_with fail
  refine (farm_nob Z3.out k n).mono ?_
  rintro e w4 ⟨rfl, hb4⟩
  have z4 := Z3.out.below hb4
  have x4 := X3.out.onto hb4
  have c4 := x4.cell 0 _ rfl
  have d4 := x4.cell 1 _ rfl
  have hB4 := HB3.out.trans (hb4.mono HB3.out.size)
  have Z4 := Lib.hid z4; have HB4 := Lib.hid hB4; have X4 := Lib.hid x4; clear z4 hb4 hB4 x4
  go_wp2_with fail
  refine (fput_nob (NN.out _)).mono ?_
  rintro e w5 ⟨rfl, hb5⟩
  have z5 := Z4.out.below hb5
  have x5 := X4.out.onto hb5
  have c5 := x5.cell 0 _ rfl
  have d5 := x5.cell 1 _ rfl
  have hB5 := HB4.out.trans (hb5.mono HB4.out.size)
  have Z5 := Lib.hid z5; have HB5 := Lib.hid hB5; have X5 := Lib.hid x5; clear z5 hb5 hB5 x5
  go_wp2_with fail
  refine (fsync_nob Z5.out).mono ?_
  rintro e w6 ⟨rfl, hb6⟩
  have z6 := Z5.out.below hb6
  have x6 := X5.out.onto hb6
  have c6 := x6.cell 0 _ rfl
  have d6 := x6.cell 1 _ rfl
  have hB6 := HB5.out.trans (hb6.mono HB5.out.size)
  have Z6 := Lib.hid z6; have HB6 := Lib.hid hB6; have X6 := Lib.hid x6; clear z6 hb6 hB6 x6
  go_wp2_with fail
  refine (fup_nob (NN.out _)).mono ?_
  rintro e w7 ⟨rfl, hb7⟩
  have z7 := Z6.out.below hb7
  have x7 := X6.out.onto hb7
  have c7 := x7.cell 0 _ rfl
  have d7 := x7.cell 1 _ rfl
  have hB7 := HB6.out.trans (hb7.mono HB6.out.size)
  have Z7 := Lib.hid z7; have HB7 := Lib.hid hB7; have X7 := Lib.hid x7; clear z7 hb7 hB7 x7
  go_wp2_with fail
  refine (fup_nob Z7.out).mono ?_
  rintro e w8 ⟨rfl, hb8⟩
  have z8 := Z7.out.below hb8
  have x8 := X7.out.onto hb8
  have c8 := x8.cell 0 _ rfl
  have d8 := x8.cell 1 _ rfl
  have hB8 := HB7.out.trans (hb8.mono HB7.out.size)
  have Z8 := Lib.hid z8; have HB8 := Lib.hid hB8; have X8 := Lib.hid x8; clear z8 hb8 hB8 x8
  go_wp2_with fail
  refine (fcopy_nob (NN.out _)).mono ?_
  rintro e w9 ⟨rfl, hb9⟩
  have z9 := Z8.out.below hb9
  have x9 := X8.out.onto hb9
  have c9 := x9.cell 0 _ rfl
  have d9 := x9.cell 1 _ rfl
  have hB9 := HB8.out.trans (hb9.mono HB8.out.size)
  have Z9 := Lib.hid z9; have HB9 := Lib.hid hB9; have X9 := Lib.hid x9; clear z9 hb9 hB9 x9
  go_wp2_with fail
  refine (fcopy_nob Z9.out).mono ?_
  rintro e w10 ⟨rfl, hb10⟩
  have z10 := Z9.out.below hb10
  have x10 := X9.out.onto hb10
  have c10 := x10.cell 0 _ rfl
  have d10 := x10.cell 1 _ rfl
  have hB10 := HB9.out.trans (hb10.mono HB9.out.size)
  have Z10 := Lib.hid z10; have HB10 := Lib.hid hB10; have X10 := Lib.hid x10; clear z10 hb10 hB10 x10
  go_wp2_with fail
  refine (lives10_any _).mono ?_
  rintro e w11 ⟨rfl, hb11⟩
  go_wp2
  go_ret
  exact ⟨by simp, HB10.out.trans (hb11.mono HB10.out.size)⟩
end Go.Proofs.Ytllbpjgmmbnogaa
