/-
  Joined: LawDisk10.
-/
import Derived.Test.YtfgecjlccngddaaGreatJDkNob
import Derived.Test.YtfgecjlccngddaaGreatJLives11
namespace Go.Proofs.YtfgecjlccngddaaGreat
set_option linter.unusedSimpArgs false
set_option linter.unusedVariables false
open Go.RowKit
set_option linter.unusedVariables false
set_option maxRecDepth 100000 in
set_option maxHeartbeats 3200000 in
theorem simdiskNobody_walk (s : ByteArray) (n : Int) (w0 : s.size ≤ maxLen) (w1 : (Lit.int .i64 n).wf = true) (w : World) :
    Calls Tryz.prog 6 #[.string s, .int .i64 n] w fun e w' => e = .returned (.bool true) ∧ Below w.heap.size w w' := by
  have nn : ∀ X : World, NobK X (.pointer none) := fun X => .inl rfl
  have NN := Lib.hid nn
  clear nn w0 w1
  go_enter Tryz.func6, Tryz.ntmps6
  go_wp2_with fail
  have t0 : Blk (w.alloc (.cells #[.int .i64 0, .map none, .pointer none, .pointer none, .int .i64 0, .int .i64 0] 67)) w.heap.size #[.int .i64 0, .map none, .pointer none, .pointer none, .int .i64 0, .int .i64 0] 67 := Blk.new w _ _
  have hb0 := (Below.refl w.heap.size w).alloc (Nat.le_refl _) (.cells #[.int .i64 0, .map none, .pointer none, .pointer none, .int .i64 0, .int .i64 0] 67)
  obtain ⟨W0, hW⟩ : ∃ W, w.alloc (.cells #[.int .i64 0, .map none, .pointer none, .pointer none, .int .i64 0, .int .i64 0] 67) = W := ⟨_, rfl⟩
  rw [hW] at t0 hb0 ⊢
  have z0 : NobK W0 (.pointer (some ⟨w.heap.size, 0, none⟩)) := .inr ⟨_, rfl, t0⟩
  have Z0 := Lib.hid z0; have HB0 := Lib.hid hb0
  clear z0 hb0 hW t0
  refine (dkread_nob (NN.out _) s).mono ?_
  rintro e w1 ⟨rfl, hb1⟩
  have z1 := Z0.out.below hb1
  have hB1 := HB0.out.trans (hb1.mono HB0.out.size)
  have Z1 := Lib.hid z1; have HB1 := Lib.hid hB1; clear z1 hb1 hB1
  go_wp2_with fail
  refine (dklist_nob Z1.out).mono ?_
  rintro e w2 ⟨rfl, hb2⟩
  have z2 := Z1.out.below hb2
  have hB2 := HB1.out.trans (hb2.mono HB1.out.size)
  have Z2 := Lib.hid z2; have HB2 := Lib.hid hB2; clear z2 hb2 hB2
  go_wp2_with fail
  refine (dkcreate_nob (NN.out _) s).mono ?_
  rintro e w3 ⟨rfl, hb3⟩
  have z3 := Z2.out.below hb3
  have hB3 := HB2.out.trans (hb3.mono HB2.out.size)
  have Z3 := Lib.hid z3; have HB3 := Lib.hid hB3; clear z3 hb3 hB3
  go_wp2_with fail
  refine (dkappend_nob Z3.out s s).mono ?_
  rintro e w4 ⟨rfl, hb4⟩
  have z4 := Z3.out.below hb4
  have hB4 := HB3.out.trans (hb4.mono HB3.out.size)
  have Z4 := Lib.hid z4; have HB4 := Lib.hid hB4; clear z4 hb4 hB4
  go_wp2_with fail
  refine (dkcut_nob (NN.out _) s n).mono ?_
  rintro e w5 ⟨rfl, hb5⟩
  have z5 := Z4.out.below hb5
  have hB5 := HB4.out.trans (hb5.mono HB4.out.size)
  have Z5 := Lib.hid z5; have HB5 := Lib.hid hB5; clear z5 hb5 hB5
  go_wp2_with fail
  refine (dksync_nob Z5.out s).mono ?_
  rintro e w6 ⟨rfl, hb6⟩
  have z6 := Z5.out.below hb6
  have hB6 := HB5.out.trans (hb6.mono HB5.out.size)
  have Z6 := Lib.hid z6; have HB6 := Lib.hid hB6; clear z6 hb6 hB6
  go_wp2_with fail
  refine (dkrename_nob (NN.out _) s s).mono ?_
  rintro e w7 ⟨rfl, hb7⟩
  have z7 := Z6.out.below hb7
  have hB7 := HB6.out.trans (hb7.mono HB6.out.size)
  have Z7 := Lib.hid z7; have HB7 := Lib.hid hB7; clear z7 hb7 hB7
  go_wp2_with fail
  refine (dkremove_nob Z7.out s).mono ?_
  rintro e w8 ⟨rfl, hb8⟩
  have z8 := Z7.out.below hb8
  have hB8 := HB7.out.trans (hb8.mono HB7.out.size)
  have Z8 := Lib.hid z8; have HB8 := Lib.hid hB8; clear z8 hb8 hB8
  go_wp2_with fail
  refine (dksyncall_nob (NN.out _)).mono ?_
  rintro e w9 ⟨rfl, hb9⟩
  have z9 := Z8.out.below hb9
  have hB9 := HB8.out.trans (hb9.mono HB8.out.size)
  have Z9 := Lib.hid z9; have HB9 := Lib.hid hB9; clear z9 hb9 hB9
  go_wp2_with fail
  refine (dkfault_nob Z9.out 0 0).mono ?_
  rintro e w10 ⟨rfl, hb10⟩
  have z10 := Z9.out.below hb10
  have hB10 := HB9.out.trans (hb10.mono HB9.out.size)
  have Z10 := Lib.hid z10; have HB10 := Lib.hid hB10; clear z10 hb10 hB10
  go_wp2_with fail
  refine (dkfiles_nob (NN.out _)).mono ?_
  rintro e w11 ⟨rfl, hb11⟩
  have z11 := Z10.out.below hb11
  have hB11 := HB10.out.trans (hb11.mono HB10.out.size)
  have Z11 := Lib.hid z11; have HB11 := Lib.hid hB11; clear z11 hb11 hB11
  go_wp2_with fail
  refine (dkfree_nob (NN.out _)).mono ?_
  rintro e w12 ⟨rfl, hb12⟩
  have z12 := Z11.out.below hb12
  have hB12 := HB11.out.trans (hb12.mono HB11.out.size)
  have Z12 := Lib.hid z12; have HB12 := Lib.hid hB12; clear z12 hb12 hB12
  go_wp2_with fail
  refine (dkcalls_nob Z12.out).mono ?_
  rintro e w13 ⟨rfl, hb13⟩
  have z13 := Z12.out.below hb13
  have hB13 := HB12.out.trans (hb13.mono HB12.out.size)
  have Z13 := Lib.hid z13; have HB13 := Lib.hid hB13; clear z13 hb13 hB13
  go_wp2_with fail
  refine (dkcrash_nob Z13.out s).mono ?_
  rintro e w14 ⟨rfl, hb14⟩
  have z14 := Z13.out.below hb14
  have hB14 := HB13.out.trans (hb14.mono HB13.out.size)
  have Z14 := Lib.hid z14; have HB14 := Lib.hid hB14; clear z14 hb14 hB14
  go_wp2_with fail
  refine (dkup_nob (NN.out _)).mono ?_
  rintro e w15 ⟨rfl, hb15⟩
  have z15 := Z14.out.below hb15
  have hB15 := HB14.out.trans (hb15.mono HB14.out.size)
  have Z15 := Lib.hid z15; have HB15 := Lib.hid hB15; clear z15 hb15 hB15
  go_wp2_with fail
  refine (dkup_nob Z15.out).mono ?_
  rintro e w16 ⟨rfl, hb16⟩
  have z16 := Z15.out.below hb16
  have hB16 := HB15.out.trans (hb16.mono HB15.out.size)
  have Z16 := Lib.hid z16; have HB16 := Lib.hid hB16; clear z16 hb16 hB16
  go_wp2_with fail
  refine (dkcopy_nob (NN.out _)).mono ?_
  rintro e w17 ⟨rfl, hb17⟩
  have z17 := Z16.out.below hb17
  have hB17 := HB16.out.trans (hb17.mono HB16.out.size)
  have Z17 := Lib.hid z17; have HB17 := Lib.hid hB17; clear z17 hb17 hB17
  go_wp2_with fail
  refine (lives11_any _).mono ?_
  rintro e w18 ⟨rfl, hb18⟩
  go_wp2
  go_ret
  exact ⟨by simp, HB17.out.trans (hb18.mono HB17.out.size)⟩
end Go.Proofs.YtfgecjlccngddaaGreat
