/-
  The laws on frames: lives, FrameLays, FrameOnes.
-/
import Derived.Test.YtnbhdlcjpcbkbaaDoorFrameDev5
import Derived.Test.YtnbhdlcjpcbkbaaDoorOpenFrm
namespace Go.Proofs.YtnbhdlcjpcbkbaaDoor
open Go.RowKit
set_option linter.unusedVariables false

/-- What One answers of a frame that is laid, whatever stands behind. -/
theorem one_laid {s d : ByteArray} {ep sq : Nat} {t : List UInt8} (hs : s.data.toList = frmL ep sq d.data.toList ++ t) (he : ep ≤ 999999) (hq : sq ≤ 2147483647) (hd : d.size ≤ 1024) :
    frmE s.data.toList = 0 ∧ oneEp s = ep ∧ oneSq s = sq ∧ oneD s = d ∧ oneN s = 16 + d.size := by
  have hdl : d.data.toList.length = d.size := by simp
  obtain ⟨h0, h1, h2, h3, h4⟩ := frm_back ep sq d.data.toList t he hq (by omega)
  rw [← hs] at h0 h1 h2 h3 h4
  refine ⟨h0, by unfold oneEp; rw [if_pos h0, h2], by unfold oneSq; rw [if_pos h0, h3], ?_, by unfold oneN; rw [if_pos h0, h1, hdl]⟩
  unfold oneD
  rw [if_pos h0]
  refine str_ext ?_
  rw [extract_list, show 16 + leN s.data.toList 2 2 - 16 = leN s.data.toList 2 2 by omega]
  exact h4
theorem layS_list {ep sq : Int} {d : ByteArray} (h : layE ep sq d.size = 0) : (layS ep sq d).data.toList = frmL ep.toNat sq.toNat d.data.toList ∧ (0 ≤ ep ∧ ep ≤ 999999 ∧ 0 ≤ sq ∧ sq ≤ 2147483647) ∧ d.size ≤ 1024 := by
  have hdl : d.data.toList.length = d.size := by simp
  have hm : (0 ≤ ep ∧ ep ≤ 999999 ∧ 0 ≤ sq ∧ sq ≤ 2147483647) ∧ d.size ≤ 1024 := by
    unfold layE at h
    split at h
    · rename_i hm
      split at h
      · omega
      · exact ⟨mayB_yes.1 hm, by omega⟩
    · omega
  refine ⟨?_, hm⟩
  show (layL ep sq d.data.toList).toArray.toList = _
  rw [(layS_ok d.data.toList hm.1 (by omega)).2]
theorem layS_size {ep sq : Int} {d : ByteArray} (h : layE ep sq d.size = 0) : (layS ep sq d).size = 16 + d.size := by
  have := congrArg List.length (layS_list h).1
  rw [frmL_length] at this
  simpa using this

set_option maxRecDepth 100000 in
set_option maxHeartbeats 800000 in
theorem lives12_any (w : World) (hF : First w) : Calls Tryd.prog 7 #[] w fun e w' => e = .returned (.bool true) ∧ Below w.heap.size w w' := by
  have e0 : layE 1 2 (⟨#[97]⟩ : ByteArray).size = 0 := rfl
  have c1 := flay_any 1 2 ⟨#[97]⟩ (by decide) w hF
  have l1 := (layS_list e0).1
  have z1 := layS_size e0
  rw [e0] at c1
  obtain ⟨x, hx⟩ : ∃ x, layS 1 2 ⟨#[97]⟩ = x := ⟨_, rfl⟩
  rw [hx] at c1 l1 z1
  have z1 : x.size = 17 := z1
  have z2 : (x ++ (⟨#[98]⟩ : ByteArray)).size ≤ maxLen := by rw [ByteArray.size_append, z1]; decide
  obtain ⟨o0, o1, o2, o3, o4⟩ := one_laid (s := x ++ ⟨#[98]⟩) (d := ⟨#[97]⟩) (ep := 1) (sq := 2) (t := [98]) (by rw [app_list, l1]; rfl) (by omega) (by omega) (by decide)
  have c2 := fone_any (x ++ ⟨#[98]⟩) z2
  rw [o0, o1, o2, o3, o4] at c2
  have c3 := fsize_any 0 (by omega) (by omega)
  rw [show sizI 0 = 16 from rfl] at c3
  have C1 := Lib.hid c1; have C2 := Lib.hid c2; have C3 := Lib.hid c3; have HF := Lib.hid hF
  have z3 := Nat.le_of_eq z1
  clear c1 c2 c3 hF o0 o1 o2 o3 o4 l1 hx z1 z2 e0
  go_enter Tryd.func7, Tryd.ntmps7
  go_wp2_with fail
  refine C1.out.mono ?_; rintro e w1 ⟨rfl, hb1⟩
  go_wp2_with fail
  refine (C2.out _ (HF.out.onto hb1)).mono ?_; rintro e w2 ⟨rfl, hb2⟩
  have HW := Lib.hid (hb1.trans (hb2.mono hb1.size))
  clear hb1 hb2
  go_wp2_with fail
  refine (C3.out _).mono ?_; rintro e w3 ⟨rfl, rfl⟩
  go_wp2
  go_ret
  exact ⟨rfl, HW.out.alloc HW.out.size _⟩

theorem box_below (w : World) (o : Obj) : Below w.heap.size w (w.alloc o) := (Below.refl _ _).alloc (Nat.le_refl _) _
set_option maxRecDepth 100000 in
set_option maxHeartbeats 800000 in
theorem frameLays_walk (x : Frm) (n : Int) (w : World) (fx : x.fits) (w1 : (Lit.int .i64 n).wf = true) (hF : First w) :
    Calls Tryd.prog 3 #[x.v, .int .i64 n] w fun e w' => e = .returned (.bool true) ∧ Below w.heap.size w w' := by
  obtain ⟨ep, sq, d⟩ := x
  obtain ⟨-, -, hd⟩ := fx
  have hd : d.size ≤ maxLen := hd
  have hn := (bounds_i64 w1).1
  show Calls Tryd.prog 3 #[.agg #[.int .i64 ep, .int .i64 sq, .string d], .int .i64 n] w _
  have hb0 := box_below w (.cells #[.int .i64 ep, .int .i64 sq, .string d] 23)
  have HB := Lib.hid (Blk.new w #[.int .i64 ep, .int .i64 sq, .string d] 23)
  have hF1 := hF.onto hb0
  have c1 := flay_any ep sq d hd _ hF1
  have c2 := rlay_any ep sq d hd
  have HB0 := Lib.hid hb0; have HF := Lib.hid hF1
  clear hF hF1 hb0 w1
  by_cases h1 : 1100 < d.size
  · have C1 := Lib.hid (lives12_any _ HF.out)
    unfold maxLen at hd
    clear c1 c2
    go_enter Tryd.func3, Tryd.ntmps3
    go_wp2_with fail
    refine C1.out.mono ?_; rintro e w1 ⟨rfl, hb1⟩
    go_wp2
    go_ret
    exact ⟨rfl, below_one (Below.refl _ _) hb1⟩
  by_cases h2 : 1099511627776 < n
  · have C1 := Lib.hid (lives12_any _ HF.out)
    unfold maxLen at hd
    clear c1 c2
    go_enter Tryd.func3, Tryd.ntmps3
    go_wp2_with fail
    refine C1.out.mono ?_; rintro e w1 ⟨rfl, hb1⟩
    go_wp2
    go_ret
    exact ⟨rfl, below_one (Below.refl _ _) hb1⟩
  obtain ⟨y, hy⟩ : ∃ y, layS ep sq d = y := ⟨_, rfl⟩
  obtain ⟨v, hv⟩ : ∃ v, layE ep sq d.size = v := ⟨_, rfl⟩
  rw [hy, hv] at c1 c2
  have c3 := fsize_any n hn (by omega)
  have c4 := rsize_any n hn (by omega)
  obtain ⟨k, hk⟩ : ∃ k, sizI n = k := ⟨_, rfl⟩
  rw [hk] at c3 c4
  unfold maxLen at hd
  have C1 := Lib.hid c1; have C2 := Lib.hid c2; have C3 := Lib.hid c3; have C4 := Lib.hid c4
  clear c1 c2 c3 c4 hk hy hv hn
  go_enter Tryd.func3, Tryd.ntmps3
  go_wp2_with fail
  refine C1.out.mono ?_; rintro e w1 ⟨rfl, hb1⟩
  have BB := Lib.hid (HB.out.onto hb1)
  have HW1 := Lib.hid (below_one (Below.refl _ _) hb1)
  have HF1 := Lib.hid (HF.out.onto hb1)
  clear hb1
  obtain ⟨k0, k1, k2, -, -, -⟩ := BB.out.three
  go_wp2_with fail
  refine (C2.out _).mono ?_; rintro e w2 ⟨rfl, hb2⟩
  have HW2 := Lib.hid (HW1.out.trans (hb2.mono HW1.out.size))
  have C5 := Lib.hid (lives12_any _ (HF1.out.onto hb2))
  clear hb2 k0 k1 k2
  go_wp2_with fail
  refine (C3.out _).mono ?_; rintro e w' ⟨rfl, rfl⟩
  go_wp2_with fail
  refine (C4.out _).mono ?_; rintro e w' ⟨rfl, rfl⟩
  go_wp2_with fail
  refine C5.out.mono ?_; rintro e w5 ⟨rfl, hb5⟩
  go_wp2
  go_ret
  exact ⟨by simp, HW2.out.trans (hb5.mono HW2.out.size)⟩

set_option maxRecDepth 100000 in
set_option maxHeartbeats 800000 in
theorem frameOnes_walk (s : ByteArray) (w : World) (hs : s.size ≤ maxLen) (hF : First w) :
    Calls Tryd.prog 4 #[.string s] w fun e w' => e = .returned (.bool true) ∧ Below w.heap.size w w' := by
  have c1 := fone_any s hs w hF
  have c2 := rone_any s hs
  have HF := Lib.hid hF
  by_cases h1 : 1200 < s.size
  · have C1 := Lib.hid (lives12_any _ hF)
    unfold maxLen at hs
    clear c1 c2 hF
    go_enter Tryd.func4, Tryd.ntmps4
    go_wp2_with fail
    refine C1.out.mono ?_; rintro e w1 ⟨rfl, hb1⟩
    go_wp2
    go_ret
    exact ⟨rfl, hb1⟩
  clear hF
  obtain ⟨y1, hy1⟩ : ∃ y, oneEp s = y := ⟨_, rfl⟩
  obtain ⟨y2, hy2⟩ : ∃ y, oneSq s = y := ⟨_, rfl⟩
  obtain ⟨y3, hy3⟩ : ∃ y, oneD s = y := ⟨_, rfl⟩
  obtain ⟨y4, hy4⟩ : ∃ y, oneN s = y := ⟨_, rfl⟩
  obtain ⟨y5, hy5⟩ : ∃ y, frmE s.data.toList = y := ⟨_, rfl⟩
  rw [hy1, hy2, hy3, hy4, hy5] at c1 c2
  unfold maxLen at hs
  have C1 := Lib.hid c1; have C2 := Lib.hid c2
  clear c1 c2 hy1 hy2 hy3 hy4 hy5
  go_enter Tryd.func4, Tryd.ntmps4
  go_wp2_with fail
  refine C1.out.mono ?_; rintro e w1 ⟨rfl, hb1⟩
  have HB := Lib.hid (Blk.new w1 #[.int .i64 y1, .int .i64 y2, .string y3] 23)
  have HW1 := Lib.hid (hb1.alloc hb1.size (.cells #[.int .i64 y1, .int .i64 y2, .string y3] 23))
  clear hb1
  go_wp2_with fail
  refine (C2.out _).mono ?_; rintro e w2 ⟨rfl, hb2⟩
  have BB := Lib.hid (HB.out.onto hb2)
  have HW2 := Lib.hid (HW1.out.trans (hb2.mono HW1.out.size))
  clear hb2
  obtain ⟨k0, k1, k2, -, -, -⟩ := (BB.out.alloc (.cells #[.int .i64 y1, .int .i64 y2, .string y3] 23)).three
  have HW3 := Lib.hid (HW2.out.alloc HW2.out.size (.cells #[.int .i64 y1, .int .i64 y2, .string y3] 23))
  have C5 := Lib.hid (lives12_any _ (HF.out.onto HW3.out))
  go_wp2_with fail
  refine C5.out.mono ?_; rintro e w5 ⟨rfl, hb5⟩
  go_wp2
  go_ret
  exact ⟨by simp, HW3.out.trans (hb5.mono HW3.out.size)⟩
end Go.Proofs.YtnbhdlcjpcbkbaaDoor
