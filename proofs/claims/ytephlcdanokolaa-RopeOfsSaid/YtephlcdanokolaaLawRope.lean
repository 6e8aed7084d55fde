/-
  Layer 18's laws: lives, good; RopeOfs, RopeNobody.
-/
import Derived.Test.YtephlcdanokolaaJWeldOf
namespace Go.Proofs.Ytephlcdanokolaa
open Go.RowKit
set_option linter.unusedVariables false
set_option linter.unusedSimpArgs false

theorem RetRope.yes {w w' : World} {E : Int} {S : ByteArray} {e : Ending} (h : RetRope w E S e w') (hE : E = 0) : ∃ b p L, e = .returned (.tuple #[.pointer (some ⟨b, 0, none⟩), .int .i64 0]) ∧ RopeW w' (some ⟨b, 0, none⟩) p L S ∧ Below w.heap.size w w' := by
  obtain ⟨r', he, -, h2, hb⟩ := h
  obtain ⟨b, p, L, hr, hh⟩ := h2 hE
  subst hr; subst hE
  exact ⟨b, p, L, he, hh, hb⟩
theorem RetRope.no {w w' : World} {E : Int} {S : ByteArray} {e : Ending} (h : RetRope w E S e w') (hE : E ≠ 0) : e = .returned (.tuple #[.pointer none, .int .i64 E]) ∧ Below w.heap.size w w' := by
  obtain ⟨r', he, h1, -, hb⟩ := h
  rw [h1 hE] at he
  exact ⟨he, hb⟩
def sAb : ByteArray := ⟨#[97, 98]⟩
def sAxb : ByteArray := ⟨#[97, 120, 98]⟩
theorem sAb_of : ofE sAb = 0 := by decide +kernel
theorem sAb_insE : insE sAb 1 ⟨#[120]⟩ = 0 := by decide +kernel
theorem sAb_insS : insS sAb 1 ⟨#[120]⟩ = sAxb := by decide +kernel
set_option maxRecDepth 100000 in
set_option maxHeartbeats 1600000 in
theorem lives18_any (w : World) : Calls Try.prog 7 #[] w fun e w' => e = .returned (.bool true) ∧ Below w.heap.size w w' := by
  have c1 : Calls Try.prog 8 #[.string ⟨#[97, 98]⟩] w fun e w' => ∃ b p L, e = .returned (.tuple #[.pointer (some ⟨b, 0, none⟩), .int .i64 0]) ∧ RopeW w' (some ⟨b, 0, none⟩) p L sAb ∧ Below w.heap.size w w' :=
    (ro_of sAb (by decide +kernel) w).mono fun e w' h => h.yes sAb_of
  have C1 := Lib.hid c1
  clear c1
  go_enter Try.func7, Try.ntmps7
  go_wp2_with fail
  refine C1.out.mono ?_; rintro e w1 ⟨b, p, L, rfl, hR, hb1⟩
  have c2 : ∀ W, Below w1.heap.size w1 W → Calls Try.prog 16 #[.pointer (some ⟨b, 0, none⟩), .int .i64 1, .string ⟨#[120]⟩] W fun e w' => ∃ b p L, e = .returned (.tuple #[.pointer (some ⟨b, 0, none⟩), .int .i64 0]) ∧ RopeW w' (some ⟨b, 0, none⟩) p L sAxb ∧ Below W.heap.size W w' := fun W hW => by
    have := ro_ins (x := ⟨#[120]⟩) (i := 1) (hR.later hW) (by decide) (by decide) (by unfold i64P; omega)
    rw [sAb_insS] at this
    exact this.mono fun e w' h => h.yes sAb_insE
  have HR := Lib.hid hR; have HB1 := Lib.hid hb1; have C2 := Lib.hid c2
  clear hR hb1 c2
  go_wp2_with fail
  refine (C2.out _ (Below.refl _ _)).mono ?_; rintro e w2 ⟨b2, p2, L2, rfl, hR2, hb2⟩
  have c3 : Calls Try.prog 17 #[.pointer (some ⟨b2, 0, none⟩)] w2 fun e w' => e = .returned (.string ⟨#[97, 120, 98]⟩) ∧ Below w2.heap.size w2 w' := ro_text hR2
  have c4 : ∀ W, Below w2.heap.size w2 W → Calls Try.prog 17 #[.pointer (some ⟨b, 0, none⟩)] W fun e w' => e = .returned (.string ⟨#[97, 98]⟩) ∧ Below W.heap.size W w' := fun W hW => ro_text ((HR.out.later hb2).later hW)
  have C3 := Lib.hid c3; have C4 := Lib.hid c4; have HB2 := Lib.hid (HB1.out.trans (hb2.mono HB1.out.size))
  clear hR2 hb2 c3 c4
  go_wp2_with fail
  refine C3.out.mono ?_; rintro e w3 ⟨rfl, hb3⟩
  have HB3 := Lib.hid hb3
  clear hb3
  go_wp2_with fail
  refine (onward HB3.out (C4.out _ HB3.out)).mono ?_; rintro e w4 ⟨rfl, hb4⟩
  have HB4 := Lib.hid hb4
  clear hb4
  go_wp2
  go_ret
  exact ⟨by simp, HB2.out.trans (HB4.out.mono HB2.out.size)⟩

theorem Text.heightS {w : World} {p : Option Addr} {L : List ByteArray} {s : ByteArray} (x : Text w p L s) : ∃ H : Int, H ≤ bitsN s.size ∧ ∀ W, Below w.heap.size w W → Calls Try.prog 26 #[.pointer p] W fun e w' => e = .returned (.int .i64 H) ∧ Below W.heap.size W w' := by
  rcases x.cases with ⟨rfl, rfl⟩ | ⟨b, h, rfl, -, k, hh⟩
  · exact ⟨-1, by omega, fun W _ => height_nil W⟩
  · refine ⟨h, ?_, fun W hW => ((k.later hW).hgt (by omega)).call⟩
    have h2 := fits_len k.chunks.1
    rw [x.txt] at h2
    have := bitsN_ge h s.size (Nat.le_trans k.chunks.2 h2)
    omega

set_option maxRecDepth 100000 in
set_option maxHeartbeats 1600000 in
theorem good18_any {w : World} {r p : Option Addr} {L : List ByteArray} {s : ByteArray} (x : RopeW w r p L s) :
    Calls Try.prog 10 #[.pointer r, .string s] w fun e w' => e = .returned (.bool true) ∧ Below w.heap.size w w' := by
  have c1 := fun W (hW : Below w.heap.size w W) => ro_text (x.later hW)
  have c2 := fun W (hW : Below w.heap.size w W) => ro_len (x.later hW)
  have c3 := fun W (hW : Below w.heap.size w W) => ro_count (x.later hW)
  have c4 := fun W (hW : Below w.heap.size w W) => ro_right (x.later hW)
  have c5 := fun W (hW : Below w.heap.size w W) => ro_root (x.later hW)
  have c6 := x.x.text
  obtain ⟨H, hH, c7⟩ := x.x.heightS
  have c8 := fun W (hW : Below w.heap.size w W) => ro_height (H := H) (x.later hW) fun W' hW' => c7 W' (hW.trans (hW'.mono hW.size))
  have hs := x.x.small
  have c9 := rtof_any s (by unfold maxLen; omega)
  have c10 := rbits_any s.size (by omega)
  obtain ⟨N, hN⟩ : ∃ N, s.size = N := ⟨_, rfl⟩
  obtain ⟨X, hX⟩ : ∃ X : Int, (runes s.data.toList : Int) = X := ⟨_, rfl⟩
  obtain ⟨Y, hY⟩ : ∃ Y : Int, (lines s.data.toList : Int) = Y := ⟨_, rfl⟩
  obtain ⟨B, hB⟩ : ∃ B : Int, (bitsN N : Int) = B := ⟨_, rfl⟩
  rw [hN] at c2 c3 c9 c10 hH
  rw [hX, hY] at c3 c9
  rw [hB] at c10 hH
  have C1 := Lib.hid c1; have C2 := Lib.hid c2; have C3 := Lib.hid c3; have C4 := Lib.hid c4; have C5 := Lib.hid c5; have C6 := Lib.hid c6; have C7 := Lib.hid c7; have C8 := Lib.hid c8; have C9 := Lib.hid c9; have C10 := Lib.hid c10
  clear c1 c2 c3 c4 c5 c6 c7 c8 c9 c10 hX hY hB hs x
  go_enter Try.func10, Try.ntmps10
  go_wp2_with fail
  refine (C1.out _ (Below.refl _ _)).mono ?_; rintro e w1 ⟨rfl, hb1⟩
  have HB1 := Lib.hid hb1
  clear hb1
  go_wp2_with fail
  refine (onward HB1.out (C2.out _ HB1.out)).mono ?_; rintro e w2 ⟨rfl, hb2⟩
  have HB2 := Lib.hid hb2
  clear hb2
  go_wp2_with fail
  refine (onward HB2.out (C3.out _ HB2.out)).mono ?_; rintro e w3 ⟨rfl, hb3⟩
  have HB3 := Lib.hid hb3
  clear hb3
  go_wp2_with fail
  refine (onward HB3.out (C9.out _)).mono ?_; rintro e w4 ⟨rfl, hb4⟩
  have HB4 := Lib.hid hb4
  clear hb4
  go_wp2_with fail
  refine (onward HB4.out (C4.out _ HB4.out)).mono ?_; rintro e w5 ⟨rfl, hb5⟩
  have HB5 := Lib.hid hb5
  clear hb5
  go_wp2_with fail
  refine (onward HB5.out (C5.out _ HB5.out)).mono ?_; rintro e w6 ⟨rfl, hb6⟩
  have HB6 := Lib.hid hb6
  clear hb6
  go_wp2_with fail
  refine (onward HB6.out (C6.out _ HB6.out)).mono ?_; rintro e w7 ⟨rfl, hb7⟩
  have HB7 := Lib.hid hb7
  clear hb7
  go_wp2_with fail
  refine (onward HB7.out (C8.out _ HB7.out)).mono ?_; rintro e w8 ⟨rfl, hb8⟩
  have HB8 := Lib.hid hb8
  clear hb8
  go_wp2_with fail
  refine (onward HB8.out (C5.out _ HB8.out)).mono ?_; rintro e w9 ⟨rfl, hb9⟩
  have HB9 := Lib.hid hb9
  clear hb9
  go_wp2_with fail
  refine (onward HB9.out (C7.out _ HB9.out)).mono ?_; rintro e w10 ⟨rfl, hb10⟩
  have HB10 := Lib.hid hb10
  clear hb10
  go_wp2_with fail
  refine (onward HB10.out (C8.out _ HB10.out)).mono ?_; rintro e w11 ⟨rfl, hb11⟩
  have HB11 := Lib.hid hb11
  clear hb11
  go_wp2_with fail
  refine (C10.out _).mono ?_; rintro e w12 ⟨rfl, rfl⟩
  go_wp2
  go_ret
  exact ⟨ret_bool (by simp), HB11.out⟩

theorem ofE_long {s : ByteArray} (hv : vldB s.data.toList = true) (h : 4096 < s.size) : ofE s = 6 := by unfold ofE; rw [if_neg (by rw [hv]; decide), if_pos h]
theorem ofE_yes {s : ByteArray} (hv : vldB s.data.toList = true) (h : s.size ≤ 4096) : ofE s = 0 := by unfold ofE; rw [if_neg (by rw [hv]; decide), if_neg (by omega)]
theorem ofE_no {s : ByteArray} (hv : vldB s.data.toList = false) : ofE s = 5 := by unfold ofE; rw [if_pos hv]

set_option maxRecDepth 100000 in
set_option maxHeartbeats 1600000 in
theorem ropeOfs_walk (s : ByteArray) (i : Int) (w0 : s.size ≤ maxLen) (w1 : (Lit.int .i64 i).wf = true) (w : World) :
    Calls Try.prog 3 #[.string s, .int .i64 i] w fun e w' => e = .returned (.bool true) ∧ Below w.heap.size w w' := by
  have hi : i64P i := bounds_i64 w1
  clear w1
  by_cases hl : 5000 < s.size
  · have HI := Lib.hid hi
    clear hi w0
    go_enter Try.func3, Try.ntmps3
    go_wp2_with fail
    refine (lives18_any _).mono ?_; rintro e w1 ⟨rfl, hb1⟩
    go_wp2
    go_ret
    exact ⟨rfl, hb1⟩
  have co := ro_of s w0 w
  have cv := rvalid_any s (by omega)
  have hz : s.size ≤ 5000 := by omega
  by_cases hv : vldB s.data.toList = false
  · have co := co.mono fun e w' h => h.no (by rw [ofE_no hv]; decide)
    rw [ofE_no hv] at co
    rw [hv] at cv
    have CO := Lib.hid co; have CV := Lib.hid cv
    clear co cv hv hi w0
    go_enter Try.func3, Try.ntmps3
    go_wp2_with fail
    refine CO.out.mono ?_; rintro e w1 ⟨rfl, hb1⟩
    have HB1 := Lib.hid hb1
    clear hb1
    go_wp2_with fail
    refine (onward HB1.out (CV.out _)).mono ?_; rintro e w2 ⟨rfl, hb2⟩
    have HB2 := Lib.hid hb2
    clear hb2
    go_wp2_with fail
    refine (onward HB2.out (lives18_any _)).mono ?_; rintro e w3 ⟨rfl, hb3⟩
    go_wp2
    go_ret
    exact ⟨rfl, hb3⟩
  have hv := bool_yes hv
  rw [hv] at cv
  by_cases hl2 : 4096 < s.size
  · have co := co.mono fun e w' h => h.no (by rw [ofE_long hv hl2]; decide)
    rw [ofE_long hv hl2] at co
    have CO := Lib.hid co; have CV := Lib.hid cv
    clear co cv hv hi w0
    go_enter Try.func3, Try.ntmps3
    go_wp2_with fail
    refine CO.out.mono ?_; rintro e w1 ⟨rfl, hb1⟩
    have HB1 := Lib.hid hb1
    clear hb1
    go_wp2_with fail
    refine (onward HB1.out (CV.out _)).mono ?_; rintro e w2 ⟨rfl, hb2⟩
    have HB2 := Lib.hid hb2
    clear hb2
    go_wp2_with fail
    refine (onward HB2.out (lives18_any _)).mono ?_; rintro e w3 ⟨rfl, hb3⟩
    go_wp2
    go_ret
    exact ⟨rfl, hb3⟩
  · have co := co.mono fun e w' h => h.yes (ofE_yes hv (by omega))
    have ce := redge_any s w0 i
    obtain ⟨E, hE⟩ : ∃ E, edgeB s.data.toList i = E := ⟨_, rfl⟩
    rw [hE] at ce
    have CO := Lib.hid co; have CV := Lib.hid cv; have CE := Lib.hid ce; have HE := Lib.hid hE; have HI := Lib.hid hi
    clear co cv hv hi w0 ce hE
    go_enter Try.func3, Try.ntmps3
    go_wp2_with fail
    refine CO.out.mono ?_; rintro e w1 ⟨b, p, L, rfl, hR, hb1⟩
    have c1 := fun W (hW : Below w1.heap.size w1 W) => good18_any (hR.later hW)
    have c2 := fun W (hW : Below w1.heap.size w1 W) => ro_edge (hR.later hW) HI.out
    rw [HE.out] at c2
    have HB1 := Lib.hid hb1; have C1 := Lib.hid c1; have C2 := Lib.hid c2
    clear hb1 c1 c2 hR
    go_wp2_with fail
    refine (CV.out _).mono ?_; rintro e w2 ⟨rfl, hb2⟩
    have HB2 := Lib.hid hb2
    clear hb2
    go_wp2_with fail
    refine (onward HB2.out (C1.out _ HB2.out)).mono ?_; rintro e w3 ⟨rfl, hb3⟩
    have HB3 := Lib.hid hb3
    clear hb3
    go_wp2_with fail
    refine (onward HB3.out (C2.out _ HB3.out)).mono ?_; rintro e w4 ⟨rfl, hb4⟩
    have HB4 := Lib.hid hb4
    clear hb4
    go_wp2_with fail
    refine (CE.out _).mono ?_; rintro e w5 ⟨rfl, rfl⟩
    go_wp2_with fail
    refine (onward HB4.out (lives18_any _)).mono ?_; rintro e w6 ⟨rfl, hb6⟩
    go_wp2
    go_ret
    exact ⟨by first | rfl | exact ret_bool (by simp), HB1.out.trans (hb6.mono HB1.out.size)⟩

theorem nil_insE (s : ByteArray) (hv : vldB s.data.toList = true) (hs : s.size ≤ 600) : insE ⟨#[]⟩ 0 s = 0 ∧ insS ⟨#[]⟩ 0 s = s := by
  have h := of_ins s
  have h2 := ofE_yes hv (by omega)
  exact ⟨h.1.trans h2, h.2 h2⟩
theorem nil_delE : delE ⟨#[]⟩ 0 1 = 3 := by decide +kernel
theorem nil_edge0 : edgeB (⟨#[]⟩ : ByteArray).data.toList 0 = true := by decide +kernel
theorem nil_edge1 : edgeB (⟨#[]⟩ : ByteArray).data.toList 1 = false := by decide +kernel
set_option maxRecDepth 100000 in
set_option maxHeartbeats 3200000 in
theorem ropeNobody_walk (s : ByteArray) (w0 : s.size ≤ maxLen) (w : World) :
    Calls Try.prog 6 #[.string s] w fun e w' => e = .returned (.bool true) ∧ Below w.heap.size w w' := by
  by_cases hl : 600 < s.size
  · have t1 : decide ((600 : Int) < (s.size : Int)) = true := decide_eq_true (by omega)
    have t2 : decide (600 < s.size) = true := decide_eq_true hl
    clear w0
    go_enter Try.func6, Try.ntmps6
    go_wp2_with fail
    refine (lives18_any _).mono ?_; rintro e w1 ⟨rfl, hb1⟩
    go_wp2
    go_ret
    exact ⟨rfl, hb1⟩
  have t1 : decide ((600 : Int) < (s.size : Int)) = false := decide_eq_false (by omega)
  have t2 : decide (600 < s.size) = false := decide_eq_false hl
  have cv := rvalid_any s (by omega)
  by_cases hv : vldB s.data.toList = false
  · rw [hv] at cv
    have CV := Lib.hid cv
    clear cv hv w0
    go_enter Try.func6, Try.ntmps6
    go_wp2_with fail
    refine (CV.out _).mono ?_; rintro e w1 ⟨rfl, hb1⟩
    have HB1 := Lib.hid hb1
    clear hb1
    go_wp2_with fail
    refine (onward HB1.out (lives18_any _)).mono ?_; rintro e w2 ⟨rfl, hb2⟩
    go_wp2
    go_ret
    exact ⟨rfl, hb2⟩
  have hv := bool_yes hv
  rw [hv] at cv
  obtain ⟨hE, hS⟩ := nil_insE s hv (by omega)
  have ci : ∀ W r p L, RopeW W r p L ⟨#[]⟩ → Calls Try.prog 16 #[.pointer r, .int .i64 0, .string s] W fun e w' => ∃ b p L, e = .returned (.tuple #[.pointer (some ⟨b, 0, none⟩), .int .i64 0]) ∧ RopeW w' (some ⟨b, 0, none⟩) p L s ∧ Below W.heap.size W w' := fun W r p L h => by
    have := ro_ins (x := s) (i := 0) h (Nat.zero_le _) w0 (by unfold i64P; omega)
    rw [hS] at this
    exact this.mono fun e w' h => h.yes hE
  have cd : ∀ W, Calls Try.prog 14 #[.pointer none, .int .i64 0, .int .i64 1] W fun e w' => e = .returned (.tuple #[.pointer none, .int .i64 3]) ∧ Below W.heap.size W w' := fun W => by
    have := ro_del (i := 0) (n := 1) (RopeW.nil W) (Nat.zero_le _) (by unfold i64P; omega)
    rw [nil_delE] at this
    exact this.mono fun e w' h => h.no (by decide)
  have n1 : ∀ W, Calls Try.prog 18 #[.pointer none] W fun e w' => e = .returned (.int .i64 0) ∧ Below W.heap.size W w' := fun W => ro_len (RopeW.nil W)
  have n2 := fun W => ro_text (RopeW.nil W)
  have n3 : ∀ W, Calls Try.prog 20 #[.pointer none] W fun e w' => e = .returned (.int .i64 (-1)) ∧ Below W.heap.size W w' := fun W => ro_height (RopeW.nil W) fun W' _ => height_nil W'
  have n4 := fun W => ro_root (RopeW.nil W)
  have n5 := fun W => ro_right (RopeW.nil W)
  have n6 : ∀ W, Calls Try.prog 11 #[.pointer none, .int .i64 0] W fun e w' => e = .returned (.bool true) ∧ Below W.heap.size W w' := fun W => by
    have := ro_edge (q := 0) (RopeW.nil W) (by unfold i64P; omega)
    rwa [nil_edge0] at this
  have n7 : ∀ W, Calls Try.prog 11 #[.pointer none, .int .i64 1] W fun e w' => e = .returned (.bool false) ∧ Below W.heap.size W w' := fun W => by
    have := ro_edge (q := 1) (RopeW.nil W) (by unfold i64P; omega)
    rwa [nil_edge1] at this
  have CV := Lib.hid cv; have CI := Lib.hid ci; have CD := Lib.hid cd; have N1 := Lib.hid n1; have N2 := Lib.hid n2; have N3 := Lib.hid n3; have N4 := Lib.hid n4; have N5 := Lib.hid n5; have N6 := Lib.hid n6; have N7 := Lib.hid n7
  clear cv ci cd n1 n2 n3 n4 n5 n6 n7 hv hE hS w0
  go_enter Try.func6, Try.ntmps6
  go_wp2_with fail
  refine (CV.out _).mono ?_; rintro e w1 ⟨rfl, hb1⟩
  have HB1 := Lib.hid hb1
  clear hb1
  go_wp2_with fail
  have hb2 : Below w1.heap.size w1 (w1.alloc (.cells #[.pointer none] 46)) := (Below.refl _ _).alloc (Nat.le_refl _) _
  have hz2 : RopeW (w1.alloc (.cells #[.pointer none] 46)) (some ⟨w1.heap.size, 0, none⟩) none [] ⟨#[]⟩ := ⟨.empty _, .inr ⟨_, rfl, by simp, (Blk.new w1 _ _).cell 0 _ rfl⟩⟩
  obtain ⟨w2, hw2⟩ : ∃ w2, w1.alloc (.cells #[.pointer none] 46) = w2 := ⟨_, rfl⟩
  rw [hw2] at hb2 hz2
  rw [hw2]
  obtain ⟨bz, hbz⟩ : ∃ bz, w1.heap.size = bz := ⟨_, rfl⟩
  have HB2 := Lib.hid (HB1.out.trans (hb2.mono HB1.out.size))
  rw [hbz] at hz2
  simp only [hbz]
  have HZ := Lib.hid hz2
  clear hb2 hz2 hw2 hbz
  refine (CI.out _ none none [] (RopeW.nil _)).mono ?_; rintro e w3 ⟨ba, pa, La, rfl, hA, hb3⟩
  have HA := Lib.hid hA; have HB3 := Lib.hid hb3
  clear hA hb3
  go_wp2_with fail
  refine (CI.out _ (some ⟨bz, 0, none⟩) none [] (HZ.out.later HB3.out)).mono ?_; rintro e w4 ⟨bb, pb, Lb, rfl, hB, hb4⟩
  have HBB := Lib.hid hB; have HA4 := Lib.hid (HA.out.later hb4); have HB4 := Lib.hid (HB3.out.trans (hb4.mono HB3.out.size))
  clear hB hb4
  have z1 := fun W (hW : Below w4.heap.size w4 W) => ro_len ((HZ.out.later HB4.out).later hW)
  have z2 := fun W (hW : Below w4.heap.size w4 W) => ro_right ((HZ.out.later HB4.out).later hW)
  have z3 := fun W (hW : Below w4.heap.size w4 W) => ro_text (HA4.out.later hW)
  have z4 := fun W (hW : Below w4.heap.size w4 W) => ro_text (HBB.out.later hW)
  rw [show ((⟨#[]⟩ : ByteArray).size : Int) = 0 from rfl] at z1
  have Z1 := Lib.hid z1; have Z2 := Lib.hid z2; have Z3 := Lib.hid z3; have Z4 := Lib.hid z4
  clear z1 z2 z3 z4
  go_wp2_with fail
  refine (CD.out _).mono ?_; rintro e w5 ⟨rfl, hb5⟩
  have HB5 := Lib.hid hb5
  clear hb5
  go_wp2_with fail
  refine (onward HB5.out (N1.out _)).mono ?_; rintro e w6 ⟨rfl, hb6⟩
  have HB6 := Lib.hid hb6
  clear hb6
  go_wp2_with fail
  refine (onward HB6.out (Z1.out _ HB6.out)).mono ?_; rintro e w7 ⟨rfl, hb7⟩
  have HB7 := Lib.hid hb7
  clear hb7
  go_wp2_with fail
  refine (onward HB7.out (N2.out _)).mono ?_; rintro e w8 ⟨rfl, hb8⟩
  have HB8 := Lib.hid hb8
  clear hb8
  go_wp2_with fail
  refine (onward HB8.out (N3.out _)).mono ?_; rintro e w9 ⟨rfl, hb9⟩
  have HB9 := Lib.hid hb9
  clear hb9
  go_wp2_with fail
  refine (onward HB9.out (N4.out _)).mono ?_; rintro e w10 ⟨rfl, hb10⟩
  have HB10 := Lib.hid hb10
  clear hb10
  go_wp2_with fail
  refine (onward HB10.out (N5.out _)).mono ?_; rintro e w11 ⟨rfl, hb11⟩
  have HB11 := Lib.hid hb11
  clear hb11
  go_wp2_with fail
  refine (onward HB11.out (Z2.out _ HB11.out)).mono ?_; rintro e w12 ⟨rfl, hb12⟩
  have HB12 := Lib.hid hb12
  clear hb12
  go_wp2_with fail
  refine (onward HB12.out (N6.out _)).mono ?_; rintro e w13 ⟨rfl, hb13⟩
  have HB13 := Lib.hid hb13
  clear hb13
  go_wp2_with fail
  refine (onward HB13.out (N7.out _)).mono ?_; rintro e w14 ⟨rfl, hb14⟩
  have HB14 := Lib.hid hb14
  clear hb14
  go_wp2_with fail
  refine (onward HB14.out (Z3.out _ HB14.out)).mono ?_; rintro e w15 ⟨rfl, hb15⟩
  have HB15 := Lib.hid hb15
  clear hb15
  go_wp2_with fail
  refine (onward HB15.out (Z4.out _ HB15.out)).mono ?_; rintro e w16 ⟨rfl, hb16⟩
  have HB16 := Lib.hid hb16
  clear hb16
  go_wp2_with fail
  refine (onward HB16.out (lives18_any _)).mono ?_; rintro e w17 ⟨rfl, hb17⟩
  go_wp2
  go_ret
  exact ⟨by first | rfl | exact ret_bool (by simp), HB2.out.trans ((HB4.out.trans (hb17.mono HB4.out.size)).mono HB2.out.size)⟩
end Go.Proofs.Ytephlcdanokolaa
