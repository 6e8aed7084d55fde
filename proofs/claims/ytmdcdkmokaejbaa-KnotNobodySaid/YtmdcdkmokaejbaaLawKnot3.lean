/-
  Layer 16's law KnotNobody: what no call made.
-/
import Derived.Test.YtmdcdkmokaejbaaLawKnot
import Derived.Test.YtmdcdkmokaejbaaLawKnot2
namespace Go.Proofs.Ytmdcdkmokaejbaa
open Go.RowKit
set_option linter.unusedVariables false
set_option linter.unusedSimpArgs false

/-- A knot that no call made. -/
abbrev zk7 : Array Value := kc7 0 0 0 0 ⟨#[]⟩ ⟨#[]⟩ (.slice none 0 0)
theorem zero_hgt {w : World} {z : Nat} {t : TypeId} (h : Blk w z zk7 t) : Hgt w (some ⟨z, 0, none⟩) (-1) := .inr ⟨z, 0, 0, 0, 0, _, _, _, t, rfl, by omega, by omega, by omega, h⟩
theorem nofit : fitsB ⟨#[]⟩ = false := by
  unfold fitsB
  rfl
set_option maxRecDepth 100000 in
set_option maxHeartbeats 800000 in
theorem asm_zero {w : World} {z : Nat} {t : TypeId} (h : Blk w z zk7 t) : Calls Try.prog 46 #[pv z] w fun e w' => e = .returned (.bool false) ∧ Below w.heap.size w w' := by
  have cl := leaf_no ⟨#[]⟩ (by unfold maxLen; decide) nofit w
  obtain ⟨-, -, -, -, c4, -, -⟩ := Blk.seven h
  have CL := Lib.hid cl; have H := Lib.hid h
  clear cl h
  go_enter Try.func46, Try.ntmps46
  go_wp2_with fail
  refine CL.out.mono ?_; rintro e w1 ⟨rfl, hb1⟩
  obtain ⟨-, -, -, -, -, -, c6⟩ := Blk.seven (H.out.onto hb1)
  go_wp2
  go_quiet (fail)
  go_wp2
  go_ret
  exact ⟨rfl, drewN_below hb1 _⟩
set_option maxRecDepth 100000 in
set_option maxHeartbeats 800000 in
theorem right_zero {w : World} {z : Nat} {t : TypeId} (h : Blk w z zk7 t) : Calls Try.prog 17 #[pv z] w fun e w' => e = .returned (.bool false) ∧ Below w.heap.size w w' := by
  have hbel : Below w.heap.size w (w.alloc (.map #[] 0)) := (Below.refl _ _).alloc (Nat.le_refl _) _
  have hs := Seen.made w
  have hz : Blk (w.alloc (.map #[] 0)) z zk7 t := h.onto hbel
  have hlook := hs.look hz
  rw [decide_eq_false (by simp)] at hlook
  have hbel2 : Below (w.alloc (.map #[] 0)).heap.size (w.alloc (.map #[] 0)) ((w.alloc (.map #[] 0)).alloc (.cells #[] 74)) := (Below.refl _ _).alloc (Nat.le_refl _) _
  obtain ⟨w1, hput, hs1, ha1⟩ := (hs.on hbel2).put (hz.onto hbel2) h.lt (by simp)
  have hb1 : Below w.heap.size w w1 := hbel.trans (((hbel2.mono (by simp)).trans (ha1.to_below (B := w.heap.size) (by simp) (by simp; omega))))
  have ka := asm_zero (h.onto hb1)
  have KA := Lib.hid ka; have HB1 := Lib.hid hb1
  have hmk := run_makeMap (P := Try.prog) 61 w
  have ks : Calls Try.prog 36 #[pv z, .map (some w.heap.size)] (w.alloc (.map #[] 0)) fun e w' => e = .returned (.bool false) ∧ Below w.heap.size w w' := by
    clear hbel hs hz hbel2 hs1 ha1 ka hb1 h hmk
    go_enter Try.func36, Try.ntmps36
    go_wp2_with fail
    refine KA.out.mono ?_; rintro e w2 ⟨rfl, hb2⟩
    have HB2 := Lib.hid (HB1.out.trans (hb2.mono HB1.out.size))
    clear hb2
    go_wp2
    go_ret
    exact ⟨rfl, HB2.out⟩
  have KS := Lib.hid ks
  clear hbel hs hz hbel2 hs1 ha1 ka hb1 h ks hlook hput
  go_enter Try.func17, Try.ntmps17
  go_wp2_with fail
  refine KS.out.mono ?_; rintro e w2 ⟨rfl, hb2⟩
  go_wp2
  go_ret
  exact ⟨rfl, hb2⟩
theorem two_odd {w0 w : World} {z b : Nat} {t : TypeId} {L : List ByteArray} (hz : Blk w0 z zk7 t) (hb : Below w0.heap.size w0 w) (hk : KnotH w 0 b L) :
    Calls Try.prog 21 #[.slice (some ⟨w.heap.size, 0, none⟩) 2 2] (w.alloc (.cells #[pv z, pv b] 26)) fun e w' => e = .returned (.pointer none) ∧ Below w.heap.size w w' := by
  have hbel : Below w.heap.size w (w.alloc (.cells #[pv z, pv b] 26)) := (Below.refl _ _).alloc (Nat.le_refl _) _
  refine (kjoin_odd (n := 2) (ps := [some ⟨z, 0, none⟩, some ⟨b, 0, none⟩]) (hs := fun k => if k = 0 then -1 else 0) (by decide) (by decide) rfl (two_row w z b) (fun k hk2 => ?_) (fun h => by have := (h 0 (by decide)).1; simp at this)).mono ?_
  · match k, hk2 with
    | 0, _ => exact (zero_hgt (hz.onto hb)).on hbel
    | 1, _ => exact (hk.hgt (by decide)).on hbel
  · rintro e w' ⟨rfl, hb'⟩
    exact ⟨rfl, hbel.trans (hb'.mono hbel.size)⟩
theorem one_odd {w0 w : World} {z : Nat} {t : TypeId} (hz : Blk w0 z zk7 t) (hb : Below w0.heap.size w0 w) :
    Calls Try.prog 8 #[.slice (some ⟨w.heap.size, 0, none⟩) 1 1] (w.alloc (.cells #[pv z] 26)) fun e w' => e = .returned (.pointer none) ∧ Below w.heap.size w w' := by
  have hbel : Below w.heap.size w (w.alloc (.cells #[pv z] 26)) := (Below.refl _ _).alloc (Nat.le_refl _) _
  refine (up_odd (n := 1) (ps := [some ⟨z, 0, none⟩]) (hs := fun k => -1) (by decide) (by decide) rfl (one_row w (some ⟨z, 0, none⟩)) (fun k hk2 => ?_) (fun h => by have := (h 0 (by decide)).1; simp at this)).mono ?_
  · match k, hk2 with
    | 0, _ => exact (zero_hgt (hz.onto hb)).on hbel
  · rintro e w' ⟨rfl, hb'⟩
    exact ⟨rfl, hbel.trans (hb'.mono hbel.size)⟩
set_option maxRecDepth 100000 in
set_option maxHeartbeats 400000 in
theorem leafText_any (s : ByteArray) (b : Bool) (hb : fitsB s = b) (w : World) : Calls Try.prog 26 #[.string s] w fun e w' => e = .returned (.string (if b then s else ⟨#[]⟩)) ∧ Below w.heap.size w w' := by
  have cf := rfits_all s
  rw [hb] at cf
  have CF := Lib.hid cf
  clear cf hb
  cases b <;>
  · go_enter Try.func26, Try.ntmps26
    go_wp2_with fail
    refine (CF.out _).mono ?_; rintro e w1 ⟨rfl, hb1⟩
    go_wp2
    go_ret
    exact ⟨rfl, hb1⟩

set_option maxRecDepth 100000 in
set_option maxHeartbeats 1600000 in
theorem knotNobody_walk (s : ByteArray) (w : World) (ws : s.size ≤ maxLen) :
    Calls Try.prog 6 #[.string s] w fun e w' => e = .returned (.bool true) ∧ Below w.heap.size w w' := by
  by_cases h4 : 400 < s.size
  · clear ws
    go_enter Try.func6, Try.ntmps6
    go_wp2_with fail
    refine (lives16_any _).mono ?_; rintro e w1 ⟨rfl, hb1⟩
    go_wp2
    go_ret
    exact ⟨rfl, hb1⟩
  have cf := rfits_all s
  have ca : ∀ W, Calls Try.prog 24 #[.string ⟨#[97]⟩] W fun e w' => ∃ b, e = .returned (pv b) ∧ KnotH w' 0 b [sA] ∧ Below W.heap.size W w' := fun W =>
    (leaf_yes sA (by unfold maxLen; decide) ((fitsB_iff _).2 sA_fits) W).mono fun e w' ⟨b, he, hb, hB, hbel⟩ => ⟨b, he, ⟨hB.lt, sA, rfl, sA_fits, hB⟩, hbel⟩
  have hz := Blk.new w zk7 48
  have hb0 := Below.refl (w.alloc (.cells zk7 48)).heap.size (w.alloc (.cells zk7 48))
  have z1 : ∀ W, Below (w.alloc (.cells zk7 48)).heap.size (w.alloc (.cells zk7 48)) W → Calls Try.prog 15 #[.pointer (some ⟨w.heap.size, 0, none⟩)] W fun e w' => e = .returned (.int .i64 (-1)) ∧ Below W.heap.size W w' := fun W hW => (zero_hgt (hz.onto hW)).call
  have z2 := fun W (hW : Below (w.alloc (.cells zk7 48)).heap.size (w.alloc (.cells zk7 48)) W) => right_zero (hz.onto hW)
  have z3 := fun W (hW : Below (w.alloc (.cells zk7 48)).heap.size (w.alloc (.cells zk7 48)) W) => kids_leaf (hz.onto hW)
  have z4 := fun W (hW : Below (w.alloc (.cells zk7 48)).heap.size (w.alloc (.cells zk7 48)) W) => chunks_bare (zero_hgt (hz.onto hW))
  have z5 := fun W (hW : Below (w.alloc (.cells zk7 48)).heap.size (w.alloc (.cells zk7 48)) W) => text_bare (zero_hgt (hz.onto hW))
  have z6 := fun W (hW : Below (w.alloc (.cells zk7 48)).heap.size (w.alloc (.cells zk7 48)) W) => first_blk (hz.onto hW)
  have Z1 := Lib.hid z1; have Z2 := Lib.hid z2; have Z3 := Lib.hid z3; have Z4 := Lib.hid z4; have Z5 := Lib.hid z5; have Z6 := Lib.hid z6
  have HZ := Lib.hid hz; have HB0 := Lib.hid hb0; have CA := Lib.hid ca
  clear z1 z2 z3 z4 z5 z6 hz hb0 ca
  by_cases hfit : fitsB s = true
  · have ct := leafText_any s true hfit
    have cl : ∀ W, Calls Try.prog 24 #[.string s] W fun e w' => ∃ b, e = .returned (pv b) ∧ W.heap.size ≤ b ∧ KnotH w' 0 b [s] ∧ Below W.heap.size W w' := fun W =>
      (leaf_yes s ws hfit W).mono fun e w' ⟨b, he, hb, hB, hbel⟩ => ⟨b, he, hb, ⟨hB.lt, s, rfl, (fitsB_iff s).1 hfit, hB⟩, hbel⟩
    rw [if_pos rfl] at ct
    rw [hfit] at cf
    have CF := Lib.hid cf; have CT := Lib.hid ct; have CL := Lib.hid cl
    clear cf ct cl ws hfit
    go_enter Try.func6, Try.ntmps6
    -- GEN FIT
    go_wp2_with fail
    refine (CL.out _).mono ?_; rintro e w1 ⟨b1, rfl, -, -, hb1⟩
    have HB1 := Lib.hid (HB0.out.trans (hb1.mono HB0.out.size))
    clear hb1
    go_wp2_with fail
    refine (CF.out _).mono ?_; rintro e w2 ⟨rfl, hb2⟩
    have HB2 := Lib.hid (HB1.out.trans (hb2.mono HB1.out.size))
    clear hb2
    go_wp2_with fail
    refine (CL.out _).mono ?_; rintro e w3 ⟨b3, rfl, -, hk, hb3⟩
    have HB3 := Lib.hid (HB2.out.trans (hb3.mono HB2.out.size))
    have kt := (KnotW.tells hk (by decide) (by show 1 ≤ 60000; decide)).text _ (Below.refl _ _)
    rw [whole_one] at kt
    have KT := Lib.hid kt
    clear kt hk
    clear hb3
    go_wp2_with fail
    refine (KT.out).mono ?_; rintro e w4 ⟨rfl, hb4⟩
    have HB4 := Lib.hid (HB3.out.trans (hb4.mono HB3.out.size))
    clear hb4
    go_wp2_with fail
    refine (CT.out _).mono ?_; rintro e w5 ⟨rfl, hb5⟩
    have HB5 := Lib.hid (HB4.out.trans (hb5.mono HB4.out.size))
    clear hb5
    go_wp2_with fail
    refine (height_nil _).mono ?_; rintro e w6 ⟨rfl, hb6⟩
    have HB6 := Lib.hid (HB5.out.trans (hb6.mono HB5.out.size))
    clear hb6
    go_wp2_with fail
    refine (Z1.out _ HB6.out).mono ?_; rintro e w7 ⟨rfl, hb7⟩
    have HB7 := Lib.hid (HB6.out.trans (hb7.mono HB6.out.size))
    clear hb7
    go_wp2_with fail
    refine (right_nil _).mono ?_; rintro e w8 ⟨rfl, hb8⟩
    have HB8 := Lib.hid (HB7.out.trans (hb8.mono HB7.out.size))
    clear hb8
    go_wp2_with fail
    refine (Z2.out _ HB8.out).mono ?_; rintro e w9 ⟨rfl, hb9⟩
    have HB9 := Lib.hid (HB8.out.trans (hb9.mono HB8.out.size))
    clear hb9
    go_wp2_with fail
    refine (kids_nil _).mono ?_; rintro e w10 ⟨rfl, hb10⟩
    have HB10 := Lib.hid (HB9.out.trans (hb10.mono HB9.out.size))
    clear hb10
    go_wp2_with fail
    refine (Z3.out _ HB10.out).mono ?_; rintro e w11 ⟨rfl, hb11⟩
    have HB11 := Lib.hid (HB10.out.trans (hb11.mono HB10.out.size))
    clear hb11
    go_wp2_with fail
    refine (Z4.out _ HB11.out).mono ?_; rintro e w12 ⟨rfl, hb12⟩
    have HB12 := Lib.hid (HB11.out.trans (hb12.mono HB11.out.size))
    clear hb12
    go_wp2_with fail
    refine (Z5.out _ HB12.out).mono ?_; rintro e w13 ⟨rfl, hb13⟩
    have HB13 := Lib.hid (HB12.out.trans (hb13.mono HB12.out.size))
    clear hb13
    go_wp2_with fail
    refine (Z6.out _ HB13.out).mono ?_; rintro e w14 ⟨rfl, hb14⟩
    have HB14 := Lib.hid (HB13.out.trans (hb14.mono HB13.out.size))
    clear hb14
    go_wp2_with fail
    refine (count_nil _).mono ?_; rintro e w15 ⟨rfl, hb15⟩
    have HB15 := Lib.hid (HB14.out.trans (hb15.mono HB14.out.size))
    clear hb15
    go_wp2_with fail
    refine (CA.out _).mono ?_; rintro e w16 ⟨b16, rfl, hk, hb16⟩
    have HB16 := Lib.hid (HB15.out.trans (hb16.mono HB15.out.size))
    have hj := two_odd HZ.out HB16.out hk
    have HJ := Lib.hid hj
    clear hj hk
    clear hb16
    go_wp2_with fail
    refine HJ.out.mono ?_; rintro e w17 ⟨rfl, hb17⟩
    have HB17 := Lib.hid (HB16.out.trans (hb17.mono HB16.out.size))
    clear hb17
    have hu := one_odd HZ.out HB17.out
    have HU := Lib.hid hu
    clear hu
    go_wp2_with fail
    refine HU.out.mono ?_; rintro e w18 ⟨rfl, hb18⟩
    have HB18 := Lib.hid (HB17.out.trans (hb18.mono HB17.out.size))
    clear hb18
    go_wp2_with fail
    refine (lives16_any _).mono ?_; rintro e w19 ⟨rfl, hb19⟩
    have HB19 := Lib.hid (HB18.out.trans (hb19.mono HB18.out.size))
    clear hb19
    go_wp2
    go_ret
    exact ⟨by simp, (((Below.refl _ _).alloc (Nat.le_refl _) _).trans (HB19.out.mono (by simp)))⟩
    -- END GEN FIT
  · have hfit : fitsB s = false := Bool.eq_false_iff.2 hfit
    have ct := leafText_any s false hfit
    have cl := leaf_no s ws hfit
    rw [if_neg (by decide)] at ct
    rw [hfit] at cf
    have CF := Lib.hid cf; have CT := Lib.hid ct; have CL := Lib.hid cl
    clear cf ct cl ws hfit
    go_enter Try.func6, Try.ntmps6
    -- GEN NOFIT
    go_wp2_with fail
    refine (CL.out _).mono ?_; rintro e w1 ⟨rfl, hb1⟩
    have HB1 := Lib.hid (HB0.out.trans (hb1.mono HB0.out.size))
    clear hb1
    go_wp2_with fail
    refine (CF.out _).mono ?_; rintro e w2 ⟨rfl, hb2⟩
    have HB2 := Lib.hid (HB1.out.trans (hb2.mono HB1.out.size))
    clear hb2
    go_wp2_with fail
    refine (CL.out _).mono ?_; rintro e w3 ⟨rfl, hb3⟩
    have HB3 := Lib.hid (HB2.out.trans (hb3.mono HB2.out.size))
    clear hb3
    go_wp2_with fail
    refine (text_bare (.inl ⟨rfl, rfl⟩)).mono ?_; rintro e w4 ⟨rfl, hb4⟩
    have HB4 := Lib.hid (HB3.out.trans (hb4.mono HB3.out.size))
    clear hb4
    go_wp2_with fail
    refine (CT.out _).mono ?_; rintro e w5 ⟨rfl, hb5⟩
    have HB5 := Lib.hid (HB4.out.trans (hb5.mono HB4.out.size))
    clear hb5
    go_wp2_with fail
    refine (height_nil _).mono ?_; rintro e w6 ⟨rfl, hb6⟩
    have HB6 := Lib.hid (HB5.out.trans (hb6.mono HB5.out.size))
    clear hb6
    go_wp2_with fail
    refine (Z1.out _ HB6.out).mono ?_; rintro e w7 ⟨rfl, hb7⟩
    have HB7 := Lib.hid (HB6.out.trans (hb7.mono HB6.out.size))
    clear hb7
    go_wp2_with fail
    refine (right_nil _).mono ?_; rintro e w8 ⟨rfl, hb8⟩
    have HB8 := Lib.hid (HB7.out.trans (hb8.mono HB7.out.size))
    clear hb8
    go_wp2_with fail
    refine (Z2.out _ HB8.out).mono ?_; rintro e w9 ⟨rfl, hb9⟩
    have HB9 := Lib.hid (HB8.out.trans (hb9.mono HB8.out.size))
    clear hb9
    go_wp2_with fail
    refine (kids_nil _).mono ?_; rintro e w10 ⟨rfl, hb10⟩
    have HB10 := Lib.hid (HB9.out.trans (hb10.mono HB9.out.size))
    clear hb10
    go_wp2_with fail
    refine (Z3.out _ HB10.out).mono ?_; rintro e w11 ⟨rfl, hb11⟩
    have HB11 := Lib.hid (HB10.out.trans (hb11.mono HB10.out.size))
    clear hb11
    go_wp2_with fail
    refine (Z4.out _ HB11.out).mono ?_; rintro e w12 ⟨rfl, hb12⟩
    have HB12 := Lib.hid (HB11.out.trans (hb12.mono HB11.out.size))
    clear hb12
    go_wp2_with fail
    refine (Z5.out _ HB12.out).mono ?_; rintro e w13 ⟨rfl, hb13⟩
    have HB13 := Lib.hid (HB12.out.trans (hb13.mono HB12.out.size))
    clear hb13
    go_wp2_with fail
    refine (Z6.out _ HB13.out).mono ?_; rintro e w14 ⟨rfl, hb14⟩
    have HB14 := Lib.hid (HB13.out.trans (hb14.mono HB13.out.size))
    clear hb14
    go_wp2_with fail
    refine (count_nil _).mono ?_; rintro e w15 ⟨rfl, hb15⟩
    have HB15 := Lib.hid (HB14.out.trans (hb15.mono HB14.out.size))
    clear hb15
    go_wp2_with fail
    refine (CA.out _).mono ?_; rintro e w16 ⟨b16, rfl, hk, hb16⟩
    have HB16 := Lib.hid (HB15.out.trans (hb16.mono HB15.out.size))
    have hj := two_odd HZ.out HB16.out hk
    have HJ := Lib.hid hj
    clear hj hk
    clear hb16
    go_wp2_with fail
    refine HJ.out.mono ?_; rintro e w17 ⟨rfl, hb17⟩
    have HB17 := Lib.hid (HB16.out.trans (hb17.mono HB16.out.size))
    clear hb17
    have hu := one_odd HZ.out HB17.out
    have HU := Lib.hid hu
    clear hu
    go_wp2_with fail
    refine HU.out.mono ?_; rintro e w18 ⟨rfl, hb18⟩
    have HB18 := Lib.hid (HB17.out.trans (hb18.mono HB17.out.size))
    clear hb18
    go_wp2_with fail
    refine (lives16_any _).mono ?_; rintro e w19 ⟨rfl, hb19⟩
    have HB19 := Lib.hid (HB18.out.trans (hb19.mono HB18.out.size))
    clear hb19
    go_wp2
    go_ret
    exact ⟨by simp, (((Below.refl _ _).alloc (Nat.le_refl _) _).trans (HB19.out.mono (by simp)))⟩
    -- END GEN NOFIT
end Go.Proofs.Ytmdcdkmokaejbaa
