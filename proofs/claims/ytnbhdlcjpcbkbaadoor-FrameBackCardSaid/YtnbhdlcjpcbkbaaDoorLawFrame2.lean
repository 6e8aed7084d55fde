/-
  The law FrameBack.
-/
import Derived.Test.YtnbhdlcjpcbkbaaDoorLawFrame
namespace Go.Proofs.YtnbhdlcjpcbkbaaDoor
open Go.RowKit
set_option linter.unusedVariables false

/-- What is one is laid as the same bytes. -/
theorem one_again {s : ByteArray} (h : frmE s.data.toList = 0) : layE (oneEp s) (oneSq s) (oneD s).size = 0 ∧ layS (oneEp s) (oneSq s) (oneD s) = s.extract 0 (oneN s) ∧ oneN s ≤ s.size ∧ (oneD s).size ≤ 1024 := by
  obtain ⟨_, h1, h2, _, h4, h5⟩ := frmE_zero h
  have hl : s.data.toList.length = s.size := by simp
  have e1 : oneEp s = leN s.data.toList 4 4 := if_pos h
  have e2 : oneSq s = leN s.data.toList 8 4 := if_pos h
  have e3 : oneD s = s.extract 16 (16 + leN s.data.toList 2 2) := if_pos h
  have e4 : oneN s = 16 + leN s.data.toList 2 2 := if_pos h
  have e5 : (oneD s).data.toList = datL s.data.toList := by
    rw [e3, extract_list, show 16 + leN s.data.toList 2 2 - 16 = leN s.data.toList 2 2 by omega]; rfl
  have e6 : (oneD s).size = leN s.data.toList 2 2 := by
    have := congrArg List.length e5
    rw [datL_length h1] at this
    simpa using this
  have hm : (0 : Int) ≤ (oneEp s : Int) ∧ (oneEp s : Int) ≤ 999999 ∧ (0 : Int) ≤ (oneSq s : Int) ∧ (oneSq s : Int) ≤ 2147483647 := by rw [e1, e2]; omega
  have hE := layS_ok (oneD s).data.toList hm (by rw [e5, datL_length h1]; exact h2)
  refine ⟨?_, ?_, by rw [e4]; omega, by omega⟩
  · have := hE.1
    rwa [e5, datL_length h1, ← e6] at this
  · refine str_ext ?_
    show (layL (oneEp s) (oneSq s) (oneD s).data.toList).toArray.toList = _
    rw [hE.2, extract_list, List.drop_zero, Nat.sub_zero, e4, ← frm_whole h, e5, e1, e2]
    rfl

set_option maxRecDepth 100000 in
set_option maxHeartbeats 1600000 in
theorem frameBack_aa (ep sq : Int) (d behind s : ByteArray) (h1 : d.size ≤ 1100) (h2 : behind.size ≤ 100) (h3 : s.size ≤ 1200) (hE : layE ep sq d.size ≠ 0) (hS : frmE s.data.toList ≠ 0) (w : World) (hF : First w) :
    Calls Tryd.prog 5 #[.agg #[.int .i64 ep, .int .i64 sq, .string d], .string behind, .string s] w fun e w' => e = .returned (.bool true) ∧ Below w.heap.size w w' := by
  have hb0 := box_below w (.cells #[.int .i64 ep, .int .i64 sq, .string d] 23)
  have HB := Lib.hid (Blk.new w #[.int .i64 ep, .int .i64 sq, .string d] 23)
  have hF1 := hF.onto hb0
  have c1 := flay_any ep sq d (by unfold maxLen; omega) _ hF1
  have HF := Lib.hid hF1
  have c7 := fone_any s (by unfold maxLen; omega)
  clear hb0 hF hF1
  obtain ⟨v, hv⟩ : ∃ v, layE ep sq d.size = v := ⟨_, rfl⟩
  obtain ⟨y, hy⟩ : ∃ y, layS ep sq d = y := ⟨_, rfl⟩
  rw [hv, hy] at c1
  rw [hv] at hE
  have q1 : ((v : Int) == 0) = false := by simp; omega
  have q2 : ((v : Int) != 0) = true := by simp; omega
  have C1 := Lib.hid c1
  clear c1 hv hy hE
  obtain ⟨g1, g2, g3, g4⟩ := one_no rfl hS
  rw [g1, g2, g3, g4] at c7
  obtain ⟨v7, hv7⟩ : ∃ v, frmE s.data.toList = v := ⟨_, rfl⟩
  rw [hv7] at c7 hS
  have p1 : ((v7 : Int) == 0) = false := by simp; omega
  have p2 : ((v7 : Int) != 0) = true := by simp; omega
  have C7 := Lib.hid c7
  clear c7 hv7 hS g1 g2 g3 g4
  go_enter Tryd.func5, Tryd.ntmps5
  go_wp2_with fail
  refine C1.out.mono ?_; rintro e w1 ⟨rfl, hb1⟩
  have BB := Lib.hid (HB.out.onto hb1)
  have HW1 := Lib.hid (below_one (Below.refl _ _) hb1)
  have HF1 := Lib.hid (HF.out.onto hb1)
  clear hb1 HF HB
  obtain ⟨k0, k1, k2, -, -, -⟩ := BB.out.three
  go_wp2_with fail
  clear k0 k1 k2
  refine (C7.out _ HF1.out).mono ?_; rintro e w5 ⟨rfl, hb5⟩
  have HW5 := Lib.hid ((HW1.out.trans (hb5.mono HW1.out.size)).alloc (HW1.out.trans (hb5.mono HW1.out.size)).size (.cells #[.int .i64 0, .int .i64 0, .string ⟨#[]⟩] 23))
  have C5 := Lib.hid (lives12_any _ (HF1.out.onto (hb5.alloc hb5.size (.cells #[.int .i64 0, .int .i64 0, .string ⟨#[]⟩] 23))))
  clear hb5 HF1 HW1
  go_wp2_with fail
  refine C5.out.mono ?_; rintro e w6 ⟨rfl, hb6⟩
  go_wp2
  go_ret
  exact ⟨by simp, HW5.out.trans (hb6.mono HW5.out.size)⟩

set_option maxRecDepth 100000 in
set_option maxHeartbeats 1600000 in
theorem frameBack_ab (ep sq : Int) (d behind s : ByteArray) (h1 : d.size ≤ 1100) (h2 : behind.size ≤ 100) (h3 : s.size ≤ 1200) (hE : layE ep sq d.size ≠ 0) (hS : frmE s.data.toList = 0) (w : World) (hF : First w) :
    Calls Tryd.prog 5 #[.agg #[.int .i64 ep, .int .i64 sq, .string d], .string behind, .string s] w fun e w' => e = .returned (.bool true) ∧ Below w.heap.size w w' := by
  have hb0 := box_below w (.cells #[.int .i64 ep, .int .i64 sq, .string d] 23)
  have HB := Lib.hid (Blk.new w #[.int .i64 ep, .int .i64 sq, .string d] 23)
  have hF1 := hF.onto hb0
  have c1 := flay_any ep sq d (by unfold maxLen; omega) _ hF1
  have HF := Lib.hid hF1
  have c7 := fone_any s (by unfold maxLen; omega)
  clear hb0 hF hF1
  obtain ⟨v, hv⟩ : ∃ v, layE ep sq d.size = v := ⟨_, rfl⟩
  obtain ⟨y, hy⟩ : ∃ y, layS ep sq d = y := ⟨_, rfl⟩
  rw [hv, hy] at c1
  rw [hv] at hE
  have q1 : ((v : Int) == 0) = false := by simp; omega
  have q2 : ((v : Int) != 0) = true := by simp; omega
  have C1 := Lib.hid c1
  clear c1 hv hy hE
  obtain ⟨g1, g2, g3, g4⟩ := one_again hS
  have c8 := flay_any (oneEp s) (oneSq s) (oneD s) (by unfold maxLen; omega)
  rw [g1, g2] at c8
  rw [hS] at c7
  obtain ⟨y1, hy1⟩ : ∃ y, oneEp s = y := ⟨_, rfl⟩
  obtain ⟨y2, hy2⟩ : ∃ y, oneSq s = y := ⟨_, rfl⟩
  obtain ⟨y3, hy3⟩ : ∃ y, oneD s = y := ⟨_, rfl⟩
  obtain ⟨y4, hy4⟩ : ∃ y, oneN s = y := ⟨_, rfl⟩
  rw [hy1, hy2, hy3, hy4] at c7
  rw [hy1, hy2, hy3, hy4] at c8
  rw [hy4] at g3
  have g3' : (y4 : Int) ≤ (s.size : Int) := by omega
  have C7 := Lib.hid c7; have C8 := Lib.hid c8
  clear c7 c8 hy1 hy2 hy3 hy4 hS g1 g2 g4
  go_enter Tryd.func5, Tryd.ntmps5
  go_wp2_with fail
  refine C1.out.mono ?_; rintro e w1 ⟨rfl, hb1⟩
  have BB := Lib.hid (HB.out.onto hb1)
  have HW1 := Lib.hid (below_one (Below.refl _ _) hb1)
  have HF1 := Lib.hid (HF.out.onto hb1)
  clear hb1 HF HB
  obtain ⟨k0, k1, k2, -, -, -⟩ := BB.out.three
  go_wp2_with fail
  clear k0 k1 k2
  refine (C7.out _ HF1.out).mono ?_; rintro e w5 ⟨rfl, hb5⟩
  have HB5 := Lib.hid (Blk.new w5 #[.int .i64 y1, .int .i64 y2, .string y3] 23)
  have HW5 := Lib.hid ((HW1.out.trans (hb5.mono HW1.out.size)).alloc (HW1.out.trans (hb5.mono HW1.out.size)).size (.cells #[.int .i64 y1, .int .i64 y2, .string y3] 23))
  have HF5 := Lib.hid (HF1.out.onto (hb5.alloc hb5.size (.cells #[.int .i64 y1, .int .i64 y2, .string y3] 23)))
  clear hb5 HF1 HW1
  go_wp2_with fail
  refine (C8.out _ HF5.out).mono ?_; rintro e w6 ⟨rfl, hb6⟩
  have HW6 := Lib.hid (HW5.out.trans (hb6.mono HW5.out.size))
  have C5 := Lib.hid (lives12_any _ (HF5.out.onto hb6))
  clear hb6 HF5 HW5
  go_wp2_with fail
  refine C5.out.mono ?_; rintro e w7 ⟨rfl, hb7⟩
  go_wp2
  go_ret
  exact ⟨by simp, HW6.out.trans (hb7.mono HW6.out.size)⟩

set_option maxRecDepth 100000 in
set_option maxHeartbeats 1600000 in
theorem frameBack_ba (ep sq : Int) (d behind s : ByteArray) (h1 : d.size ≤ 1100) (h2 : behind.size ≤ 100) (h3 : s.size ≤ 1200) (hE : layE ep sq d.size = 0) (hS : frmE s.data.toList ≠ 0) (w : World) (hF : First w) :
    Calls Tryd.prog 5 #[.agg #[.int .i64 ep, .int .i64 sq, .string d], .string behind, .string s] w fun e w' => e = .returned (.bool true) ∧ Below w.heap.size w w' := by
  have hb0 := box_below w (.cells #[.int .i64 ep, .int .i64 sq, .string d] 23)
  have HB := Lib.hid (Blk.new w #[.int .i64 ep, .int .i64 sq, .string d] 23)
  have hF1 := hF.onto hb0
  have c1 := flay_any ep sq d (by unfold maxLen; omega) _ hF1
  have HF := Lib.hid hF1
  have c7 := fone_any s (by unfold maxLen; omega)
  clear hb0 hF hF1
  obtain ⟨l1, ⟨l2, l3, l4, l5⟩, l6⟩ := layS_list hE
  have lz := layS_size hE
  rw [hE] at c1
  obtain ⟨y, hy⟩ : ∃ y, layS ep sq d = y := ⟨_, rfl⟩
  rw [hy] at c1 l1 lz
  obtain ⟨o0, o1, o2, o3, o4⟩ := one_laid (s := y ++ behind) (d := d) (ep := ep.toNat) (sq := sq.toNat) (t := behind.data.toList) (by rw [app_list, l1]) (by omega) (by omega) l6
  have c2 := fone_any (y ++ behind) (by unfold maxLen; rw [ByteArray.size_append]; omega)
  rw [o0, o1, o2, o3, o4, ← lz] at c2
  unfold oneV at c2
  rw [show ((ep.toNat : Nat) : Int) = ep by omega, show ((sq.toNat : Nat) : Int) = sq by omega] at c2
  have c3 := fsize_any d.size (by omega) (by omega)
  rw [show sizI d.size = (y.size : Int) by unfold sizI; rw [if_neg (by omega)]; omega] at c3
  have ly : y.size ≤ 1116 := by omega
  have C1 := Lib.hid c1; have C2 := Lib.hid c2; have C3 := Lib.hid c3
  clear c1 c2 c3 l1 lz o0 o1 o2 o3 o4 hy hE
  obtain ⟨g1, g2, g3, g4⟩ := one_no rfl hS
  rw [g1, g2, g3, g4] at c7
  obtain ⟨v7, hv7⟩ : ∃ v, frmE s.data.toList = v := ⟨_, rfl⟩
  rw [hv7] at c7 hS
  have p1 : ((v7 : Int) == 0) = false := by simp; omega
  have p2 : ((v7 : Int) != 0) = true := by simp; omega
  have C7 := Lib.hid c7
  clear c7 hv7 hS g1 g2 g3 g4
  go_enter Tryd.func5, Tryd.ntmps5
  go_wp2_with fail
  refine C1.out.mono ?_; rintro e w1 ⟨rfl, hb1⟩
  have BB := Lib.hid (HB.out.onto hb1)
  have HW1 := Lib.hid (below_one (Below.refl _ _) hb1)
  have HF1 := Lib.hid (HF.out.onto hb1)
  clear hb1 HF HB
  go_wp2_with fail
  refine (C2.out _ HF1.out).mono ?_; rintro e w2 ⟨rfl, hb2⟩
  have BB2 := Lib.hid ((BB.out.onto hb2).alloc (.cells #[.int .i64 ep, .int .i64 sq, .string d] 23))
  have HW2 := Lib.hid ((HW1.out.trans (hb2.mono HW1.out.size)).alloc (HW1.out.trans (hb2.mono HW1.out.size)).size (.cells #[.int .i64 ep, .int .i64 sq, .string d] 23))
  have HF2 := Lib.hid (HF1.out.onto ((hb2.alloc hb2.size (.cells #[.int .i64 ep, .int .i64 sq, .string d] 23))))
  clear hb2 HF1 HW1 BB
  obtain ⟨k0, k1, k2, -, -, -⟩ := BB2.out.three
  go_wp2_with fail
  refine (C3.out _).mono ?_; rintro e w' ⟨rfl, rfl⟩
  go_wp2_with fail
  clear k0 k1 k2
  have HF1 := HF2; have HW1 := HW2; have BB := BB2
  refine (C7.out _ HF1.out).mono ?_; rintro e w5 ⟨rfl, hb5⟩
  have HW5 := Lib.hid ((HW1.out.trans (hb5.mono HW1.out.size)).alloc (HW1.out.trans (hb5.mono HW1.out.size)).size (.cells #[.int .i64 0, .int .i64 0, .string ⟨#[]⟩] 23))
  have C5 := Lib.hid (lives12_any _ (HF1.out.onto (hb5.alloc hb5.size (.cells #[.int .i64 0, .int .i64 0, .string ⟨#[]⟩] 23))))
  clear hb5 HF1 HW1
  go_wp2_with fail
  refine C5.out.mono ?_; rintro e w6 ⟨rfl, hb6⟩
  go_wp2
  go_ret
  exact ⟨by simp, HW5.out.trans (hb6.mono HW5.out.size)⟩

set_option maxRecDepth 100000 in
set_option maxHeartbeats 1600000 in
theorem frameBack_bb (ep sq : Int) (d behind s : ByteArray) (h1 : d.size ≤ 1100) (h2 : behind.size ≤ 100) (h3 : s.size ≤ 1200) (hE : layE ep sq d.size = 0) (hS : frmE s.data.toList = 0) (w : World) (hF : First w) :
    Calls Tryd.prog 5 #[.agg #[.int .i64 ep, .int .i64 sq, .string d], .string behind, .string s] w fun e w' => e = .returned (.bool true) ∧ Below w.heap.size w w' := by
  have hb0 := box_below w (.cells #[.int .i64 ep, .int .i64 sq, .string d] 23)
  have HB := Lib.hid (Blk.new w #[.int .i64 ep, .int .i64 sq, .string d] 23)
  have hF1 := hF.onto hb0
  have c1 := flay_any ep sq d (by unfold maxLen; omega) _ hF1
  have HF := Lib.hid hF1
  have c7 := fone_any s (by unfold maxLen; omega)
  clear hb0 hF hF1
  obtain ⟨l1, ⟨l2, l3, l4, l5⟩, l6⟩ := layS_list hE
  have lz := layS_size hE
  rw [hE] at c1
  obtain ⟨y, hy⟩ : ∃ y, layS ep sq d = y := ⟨_, rfl⟩
  rw [hy] at c1 l1 lz
  obtain ⟨o0, o1, o2, o3, o4⟩ := one_laid (s := y ++ behind) (d := d) (ep := ep.toNat) (sq := sq.toNat) (t := behind.data.toList) (by rw [app_list, l1]) (by omega) (by omega) l6
  have c2 := fone_any (y ++ behind) (by unfold maxLen; rw [ByteArray.size_append]; omega)
  rw [o0, o1, o2, o3, o4, ← lz] at c2
  unfold oneV at c2
  rw [show ((ep.toNat : Nat) : Int) = ep by omega, show ((sq.toNat : Nat) : Int) = sq by omega] at c2
  have c3 := fsize_any d.size (by omega) (by omega)
  rw [show sizI d.size = (y.size : Int) by unfold sizI; rw [if_neg (by omega)]; omega] at c3
  have ly : y.size ≤ 1116 := by omega
  have C1 := Lib.hid c1; have C2 := Lib.hid c2; have C3 := Lib.hid c3
  clear c1 c2 c3 l1 lz o0 o1 o2 o3 o4 hy hE
  obtain ⟨g1, g2, g3, g4⟩ := one_again hS
  have c8 := flay_any (oneEp s) (oneSq s) (oneD s) (by unfold maxLen; omega)
  rw [g1, g2] at c8
  rw [hS] at c7
  obtain ⟨y1, hy1⟩ : ∃ y, oneEp s = y := ⟨_, rfl⟩
  obtain ⟨y2, hy2⟩ : ∃ y, oneSq s = y := ⟨_, rfl⟩
  obtain ⟨y3, hy3⟩ : ∃ y, oneD s = y := ⟨_, rfl⟩
  obtain ⟨y4, hy4⟩ : ∃ y, oneN s = y := ⟨_, rfl⟩
  rw [hy1, hy2, hy3, hy4] at c7
  rw [hy1, hy2, hy3, hy4] at c8
  rw [hy4] at g3
  have g3' : (y4 : Int) ≤ (s.size : Int) := by omega
  have C7 := Lib.hid c7; have C8 := Lib.hid c8
  clear c7 c8 hy1 hy2 hy3 hy4 hS g1 g2 g4
  go_enter Tryd.func5, Tryd.ntmps5
  go_wp2_with fail
  refine C1.out.mono ?_; rintro e w1 ⟨rfl, hb1⟩
  have BB := Lib.hid (HB.out.onto hb1)
  have HW1 := Lib.hid (below_one (Below.refl _ _) hb1)
  have HF1 := Lib.hid (HF.out.onto hb1)
  clear hb1 HF HB
  go_wp2_with fail
  refine (C2.out _ HF1.out).mono ?_; rintro e w2 ⟨rfl, hb2⟩
  have BB2 := Lib.hid ((BB.out.onto hb2).alloc (.cells #[.int .i64 ep, .int .i64 sq, .string d] 23))
  have HW2 := Lib.hid ((HW1.out.trans (hb2.mono HW1.out.size)).alloc (HW1.out.trans (hb2.mono HW1.out.size)).size (.cells #[.int .i64 ep, .int .i64 sq, .string d] 23))
  have HF2 := Lib.hid (HF1.out.onto ((hb2.alloc hb2.size (.cells #[.int .i64 ep, .int .i64 sq, .string d] 23))))
  clear hb2 HF1 HW1 BB
  obtain ⟨k0, k1, k2, -, -, -⟩ := BB2.out.three
  go_wp2_with fail
  refine (C3.out _).mono ?_; rintro e w' ⟨rfl, rfl⟩
  go_wp2_with fail
  clear k0 k1 k2
  have HF1 := HF2; have HW1 := HW2; have BB := BB2
  refine (C7.out _ HF1.out).mono ?_; rintro e w5 ⟨rfl, hb5⟩
  have HB5 := Lib.hid (Blk.new w5 #[.int .i64 y1, .int .i64 y2, .string y3] 23)
  have HW5 := Lib.hid ((HW1.out.trans (hb5.mono HW1.out.size)).alloc (HW1.out.trans (hb5.mono HW1.out.size)).size (.cells #[.int .i64 y1, .int .i64 y2, .string y3] 23))
  have HF5 := Lib.hid (HF1.out.onto (hb5.alloc hb5.size (.cells #[.int .i64 y1, .int .i64 y2, .string y3] 23)))
  clear hb5 HF1 HW1
  go_wp2_with fail
  refine (C8.out _ HF5.out).mono ?_; rintro e w6 ⟨rfl, hb6⟩
  have HW6 := Lib.hid (HW5.out.trans (hb6.mono HW5.out.size))
  have C5 := Lib.hid (lives12_any _ (HF5.out.onto hb6))
  clear hb6 HF5 HW5
  go_wp2_with fail
  refine C5.out.mono ?_; rintro e w7 ⟨rfl, hb7⟩
  go_wp2
  go_ret
  exact ⟨by simp, HW6.out.trans (hb7.mono HW6.out.size)⟩

set_option maxRecDepth 100000 in
set_option maxHeartbeats 1600000 in
theorem frameBack_walk (x : Frm) (behind s : ByteArray) (w : World) (fx : x.fits) (f1 : behind.size ≤ maxLen) (f2 : s.size ≤ maxLen) (hF : First w) :
    Calls Tryd.prog 5 #[x.v, .string behind, .string s] w fun e w' => e = .returned (.bool true) ∧ Below w.heap.size w w' := by
  obtain ⟨ep, sq, d⟩ := x
  obtain ⟨-, -, f0⟩ := fx
  have f0 : d.size ≤ maxLen := f0
  show Calls Tryd.prog 5 #[.agg #[.int .i64 ep, .int .i64 sq, .string d], .string behind, .string s] w _
  have hF1 := hF.onto (box_below w (.cells #[.int .i64 ep, .int .i64 sq, .string d] 23))
  by_cases h1 : 1100 < d.size
  · have C1 := Lib.hid (lives12_any _ hF1)
    unfold maxLen at f0 f1 f2
    clear hF hF1
    go_enter Tryd.func5, Tryd.ntmps5
    go_wp2_with fail
    refine C1.out.mono ?_; rintro e w1 ⟨rfl, hb1⟩
    go_wp2
    go_ret
    exact ⟨rfl, below_one (Below.refl _ _) hb1⟩
  by_cases h2 : 100 < behind.size
  · have C1 := Lib.hid (lives12_any _ hF1)
    unfold maxLen at f0 f1 f2
    clear hF hF1
    go_enter Tryd.func5, Tryd.ntmps5
    go_wp2_with fail
    refine C1.out.mono ?_; rintro e w1 ⟨rfl, hb1⟩
    go_wp2
    go_ret
    exact ⟨rfl, below_one (Below.refl _ _) hb1⟩
  by_cases h3 : 1200 < s.size
  · have C1 := Lib.hid (lives12_any _ hF1)
    unfold maxLen at f0 f1 f2
    clear hF hF1
    go_enter Tryd.func5, Tryd.ntmps5
    go_wp2_with fail
    refine C1.out.mono ?_; rintro e w1 ⟨rfl, hb1⟩
    go_wp2
    go_ret
    exact ⟨rfl, below_one (Below.refl _ _) hb1⟩
  by_cases hE : layE ep sq d.size = 0
  · by_cases hS : frmE s.data.toList = 0
    · exact frameBack_bb ep sq d behind s (by omega) (by omega) (by omega) hE hS w hF
    · exact frameBack_ba ep sq d behind s (by omega) (by omega) (by omega) hE hS w hF
  · by_cases hS : frmE s.data.toList = 0
    · exact frameBack_ab ep sq d behind s (by omega) (by omega) (by omega) hE hS w hF
    · exact frameBack_aa ep sq d behind s (by omega) (by omega) (by omega) hE hS w hF
end Go.Proofs.YtnbhdlcjpcbkbaaDoor
