/-
  Layer 17's laws: lives, good; WeldOfs, WeldConcats, WeldSplits.
-/
import Derived.Test.YtlakebdldcnniaaWeldOf
import Derived.Test.YtlakebdldcnniaaWeldCut
import Derived.Test.YtlakebdldcnniaaWeldTight
import Derived.Test.YtlakebdldcnniaaChunkRef2
import Derived.Test.YtlakebdldcnniaaUtfBad
namespace Go.Proofs.Ytlakebdldcnniaa
open Go.RowKit
set_option linter.unusedVariables false
set_option linter.unusedSimpArgs false

/-- A tight tree with that text, in whatever world comes later. -/
structure Text (w : World) (p : Option Addr) (L : List ByteArray) (s : ByteArray) : Prop where
  t : Tr w [] p L
  tight : TightP L
  txt : wholeL L = s
  small : s.size ≤ 5000
theorem Text.later {w w' : World} {p : Option Addr} {L : List ByteArray} {s : ByteArray} (h : Text w p L s) (hb : Below w.heap.size w w') : Text w' p L s := ⟨h.t.later hb, h.tight, h.txt, h.small⟩
theorem Text.len {w : World} {p : Option Addr} {L : List ByteArray} {s : ByteArray} (h : Text w p L s) : L.length ≤ 1000 := by
  have := tight_len h.tight
  have := h.small
  have := h.txt
  subst this
  omega
theorem Text.cases {w : World} {p : Option Addr} {L : List ByteArray} {s : ByteArray} (x : Text w p L s) : (p = none ∧ L = []) ∨ ∃ b h, p = some ⟨b, 0, none⟩ ∧ KnotH w h b L ∧ KnotW w (Off [] w) h b L ∧ h ≤ 12 := by
  rcases x.t with t | ⟨b, h, e, k⟩
  · exact .inl t
  · exact .inr ⟨b, h, e, k.weak fun i hi => hi.1, k, k.high (by rw [x.txt]; have := x.small; omega)⟩
theorem Text.text {w : World} {p : Option Addr} {L : List ByteArray} {s : ByteArray} (x : Text w p L s) : ∀ W, Below w.heap.size w W → Calls Try.prog 14 #[.pointer p] W fun e w' => e = .returned (.string s) ∧ Below W.heap.size W w' := fun W hW => by
  have hl := x.len
  have hs := x.small
  have ht := x.txt
  rcases x.cases with ⟨rfl, rfl⟩ | ⟨b, h, rfl, k, -, hh⟩
  · rw [← ht]; exact text_bare (.inl ⟨rfl, rfl⟩)
  · have := text_any (k.on hW) (by omega) (by omega) (by rw [ht]; omega)
    rwa [ht] at this
theorem Text.chunks {w : World} {p : Option Addr} {L : List ByteArray} {s : ByteArray} (x : Text w p L s) : ∀ W, Below w.heap.size w W → Calls Try.prog 19 #[.pointer p] W (RetStrs W L) := fun W hW => by
  have hl := x.len
  rcases x.cases with ⟨rfl, rfl⟩ | ⟨b, h, rfl, k, -, hh⟩
  · exact (chunks_bare (.inl ⟨rfl, rfl⟩)).mono fun e w' ⟨he, hb⟩ => ⟨none, 0, he, fun k hk => absurd hk (by simp), hb⟩
  · refine (chunks_any (k.on hW) (by omega) (by omega)).mono ?_
    rintro e w' ⟨v, rfl, ho, hb⟩
    exact ret_strs ho hb
theorem Text.right {w : World} {p : Option Addr} {L : List ByteArray} {s : ByteArray} (x : Text w p L s) : ∀ W, Below w.heap.size w W → Calls Try.prog 20 #[.pointer p] W fun e w' => e = .returned (.bool true) ∧ Below W.heap.size W w' := fun W hW => by
  rcases x.cases with ⟨rfl, rfl⟩ | ⟨b, h, rfl, k, -, hh⟩
  · exact right_nil W
  · exact right_any (k.on hW) (by omega) (by rw [x.txt]; have := x.small; omega)
theorem Text.wtight {w : World} {p : Option Addr} {L : List ByteArray} {s : ByteArray} (x : Text w p L s) : ∀ W, Below w.heap.size w W → Calls Try.prog 21 #[.pointer p] W fun e w' => e = .returned (.bool true) ∧ Below W.heap.size W w' := fun W hW => by
  rcases x.cases with ⟨rfl, rfl⟩ | ⟨b, h, rfl, -, k, hh⟩
  · exact wtight_nil W
  · exact wtight_any (k.later hW) (by omega) (by rw [x.txt]; have := x.small; omega) x.tight
theorem Text.height {w : World} {p : Option Addr} {L : List ByteArray} {s : ByteArray} (x : Text w p L s) : ∃ H : Int, H ≤ bitsN L.length ∧ ∀ W, Below w.heap.size w W → Calls Try.prog 23 #[.pointer p] W fun e w' => e = .returned (.int .i64 H) ∧ Below W.heap.size W w' := by
  rcases x.cases with ⟨rfl, rfl⟩ | ⟨b, h, rfl, -, k, hh⟩
  · exact ⟨-1, by omega, fun W _ => height_nil W⟩
  · refine ⟨h, ?_, fun W hW => ((k.later hW).hgt (by omega)).call⟩
    have := bitsN_ge h L.length k.chunks.2
    omega
theorem rtight_yes {a : Option Addr} {l : List ByteArray} {c : Nat} {w : World} (h1 : StrsH w a l) (hl : l.length ≤ 1000000) (hT : TightP l) :
    Calls Try.prog 22 #[.slice a l.length c] w fun e w' => e = .returned (.bool true) ∧ Below w.heap.size w w' :=
  (rtight_any a l c w h1 hl fun k h => by have := (hT k h).1.2.1; omega).mono fun e w' ⟨b, he, hb, hbel⟩ => ⟨by rw [he, hb.2 hT], hbel⟩

set_option maxRecDepth 100000 in
set_option maxHeartbeats 1600000 in
theorem good_any {w : World} {p : Option Addr} {L : List ByteArray} {s : ByteArray} (x : Text w p L s) : ∀ W, Below w.heap.size w W →
    Calls Try.prog 10 #[.pointer p, .string s] W fun e w' => e = .returned (.bool true) ∧ Below W.heap.size W w' := by
  intro W hW
  have y := x.later hW
  clear x hW
  have c1 := y.chunks
  have c2 := y.right
  have c3 := y.wtight
  have c4 := y.text
  obtain ⟨H, hH, c5⟩ := y.height
  have hl := y.len
  have cb := rbits_any L.length (by omega)
  have ct := fun (W : World) a c (h : StrsH W a L) => rtight_yes (c := c) h (by omega) y.tight
  obtain ⟨n, hn⟩ : ∃ n, L.length = n := ⟨_, rfl⟩
  unfold RetStrs at c1
  rw [hn] at c1 hH cb ct
  have C1 := Lib.hid c1; have C2 := Lib.hid c2; have C3 := Lib.hid c3; have C4 := Lib.hid c4; have C5 := Lib.hid c5; have CB := Lib.hid cb; have CT := Lib.hid ct; have HH := Lib.hid hH
  clear c1 c2 c3 c4 c5 cb ct hH hn hl y
  go_enter Try.func10, Try.ntmps10
  go_wp2_with fail
  refine (C1.out _ (Below.refl _ _)).mono ?_; rintro e w1 ⟨a, c, rfl, -, hb1⟩
  have HB1 := Lib.hid hb1
  clear hb1
  go_wp2_with fail
  refine (onward HB1.out (C2.out _ HB1.out)).mono ?_; rintro e w2 ⟨rfl, hb2⟩
  have HB2 := Lib.hid hb2
  clear hb2
  go_wp2_with fail
  refine (onward HB2.out (C3.out _ HB2.out)).mono ?_; rintro e w3 ⟨rfl, hb3⟩
  have HB3 := Lib.hid hb3
  clear hb3
  go_wp2_with fail
  refine (C1.out _ HB3.out).mono ?_; rintro e w4 ⟨a4, c4, rfl, hst, hb4⟩
  have HB4 := Lib.hid (HB3.out.trans (hb4.mono HB3.out.size)); have HST := Lib.hid hst
  clear hb4 hst
  go_wp2_with fail
  refine (onward HB4.out (CT.out w4 a4 c4 HST.out)).mono ?_; rintro e w5 ⟨rfl, hb5⟩
  have HB5 := Lib.hid hb5
  clear hb5
  go_wp2_with fail
  refine (onward HB5.out (C4.out _ HB5.out)).mono ?_; rintro e w6 ⟨rfl, hb6⟩
  have HB6 := Lib.hid hb6
  clear hb6
  go_wp2_with fail
  refine (onward HB6.out (C5.out _ HB6.out)).mono ?_; rintro e w7 ⟨rfl, hb7⟩
  have HB7 := Lib.hid hb7
  clear hb7
  go_wp2_with fail
  refine (CB.out _).mono ?_; rintro e w8 ⟨rfl, rfl⟩
  go_wp2
  go_ret
  exact ⟨ret_bool (by simpa using HH.out), HB7.out⟩
/-- The example's texts. -/
def sAB : ByteArray := ⟨#[97, 98]⟩
theorem sAB_vld : vld sAB.data.toList := by unfold vld; decide +kernel
theorem sAB_back : backI sAB.data.toList 1 = 1 := by decide +kernel
set_option maxRecDepth 100000 in
set_option maxHeartbeats 1600000 in
theorem lives17_any (w : World) : Calls Try.prog 7 #[] w fun e w' => e = .returned (.bool true) ∧ Below w.heap.size w w' := by
  have co : Calls Try.prog 8 #[.string ⟨#[97, 98]⟩] w (RetOf sAB w) := of_any sAB (by decide +kernel) w
  have CO := Lib.hid co
  clear co
  go_enter Try.func7, Try.ntmps7
  go_wp2_with fail
  refine CO.out.mono ?_; rintro e w1 ⟨p, L, rfl, t1, hT, hv, -, hb1⟩
  have hL := hv sAB_vld
  have cs := split_any (at' := 1) t1 hT (by rw [hL]; decide +kernel) (by unfold i64P; omega)
  rw [hL, sAB_back] at cs
  have e1 : sAB.extract 0 1 = ⟨#[97]⟩ := by decide +kernel
  have e2 : sAB.extract 1 sAB.size = ⟨#[98]⟩ := by decide +kernel
  rw [e1, e2] at cs
  have CS := Lib.hid cs; have HB1 := Lib.hid hb1
  clear t1 hT hv hb1 hL cs e1 e2
  go_wp2_with fail
  refine CS.out.mono ?_; rintro e w2 ⟨p1, L1, p2, L2, rfl, t1, t2, h1, h2, x1, x2, hb2⟩
  have y1 : Text w2 p1 L1 ⟨#[97]⟩ := ⟨t1, h1, x1, by decide⟩
  have y2 : Text w2 p2 L2 ⟨#[98]⟩ := ⟨t2, h2, x2, by decide⟩
  have c1 := y1.text
  have c2 := y2.text
  have cc : ∀ W, Below w2.heap.size w2 W → Calls Try.prog 11 #[.pointer p2, .pointer p1] W (RetText W ⟨#[98, 97]⟩) := fun W hW => by
    have := concat_any (t2.later hW) (t1.later hW) h2 h1 (by rw [whole_szs, x1, x2]; decide)
    rw [x1, x2] at this
    rwa [show (⟨#[98]⟩ : ByteArray) ++ ⟨#[97]⟩ = ⟨#[98, 97]⟩ by decide +kernel] at this
  have C1 := Lib.hid c1; have C2 := Lib.hid c2; have CC := Lib.hid cc; have HB2 := Lib.hid (HB1.out.trans (hb2.mono HB1.out.size))
  clear c1 c2 cc t1 t2 h1 h2 x1 x2 hb2 y1 y2
  go_wp2_with fail
  refine (C1.out _ (Below.refl _ _)).mono ?_; rintro e w3 ⟨rfl, hb3⟩
  have HB3 := Lib.hid hb3
  clear hb3
  go_wp2_with fail
  refine (onward HB3.out (C2.out _ HB3.out)).mono ?_; rintro e w4 ⟨rfl, hb4⟩
  have HB4 := Lib.hid hb4
  clear hb4
  go_wp2_with fail
  refine (CC.out _ HB4.out).mono ?_; rintro e w5 ⟨p5, L5, rfl, t5, h5, x5, hb5⟩
  have c5 := (show Text w5 p5 L5 ⟨#[98, 97]⟩ from ⟨t5, h5, x5, by decide⟩).text
  have C5 := Lib.hid c5; have HB5 := Lib.hid (HB4.out.trans (hb5.mono HB4.out.size))
  clear t5 h5 x5 hb5 c5
  go_wp2_with fail
  refine (C5.out _ (Below.refl _ _)).mono ?_; rintro e w6 ⟨rfl, hb6⟩
  have HB6 := Lib.hid (HB5.out.trans (hb6.mono HB5.out.size))
  clear hb6
  go_wp2
  go_ret
  exact ⟨by simp, HB2.out.trans (HB6.out.mono HB2.out.size)⟩
theorem Text.of {w w' : World} {s : ByteArray} {p : Option Addr} {L : List ByteArray} (t : Tr w' [] p L) (hT : TightP L) (h : vld s.data.toList → wholeL L = s) (hv : vld s.data.toList) (hs : s.size ≤ 5000) : Text w' p L s := ⟨t, hT, h hv, hs⟩

set_option maxRecDepth 100000 in
set_option maxHeartbeats 1600000 in
theorem weldOfs_walk (s : ByteArray) (w0 : s.size ≤ maxLen) (w : World) :
    Calls Try.prog 3 #[.string s] w fun e w' => e = .returned (.bool true) ∧ Below w.heap.size w w' := by
  clear w0
  by_cases hl : 1500 < s.size
  · go_enter Try.func3, Try.ntmps3
    go_wp2_with fail
    refine (lives17_any _).mono ?_; rintro e w1 ⟨rfl, hb1⟩
    go_wp2
    go_ret
    exact ⟨rfl, hb1⟩
  · have co := of_any s (by omega) w
    have cv := rvalid_any s (by omega)
    have hz : s.size ≤ 1500 := by omega
    by_cases hv : vld s.data.toList
    · rw [(vldB_iff _).2 hv] at cv
      have CO := Lib.hid co; have CV := Lib.hid cv; have HV := Lib.hid hv
      clear co cv hv
      go_enter Try.func3, Try.ntmps3
      go_wp2_with fail
      refine CO.out.mono ?_; rintro e w1 ⟨p, L, rfl, t1, hT, h, -, hb1⟩
      have cg := good_any (Text.of (w := w) t1 hT h HV.out (by omega))
      have CG := Lib.hid cg; have HB1 := Lib.hid hb1
      clear t1 hT h hb1 cg
      go_wp2_with fail
      refine (CV.out _).mono ?_; rintro e w2 ⟨rfl, hb2⟩
      have HB2 := Lib.hid hb2
      clear hb2
      go_wp2_with fail
      refine (onward HB2.out (CG.out _ HB2.out)).mono ?_; rintro e w3 ⟨rfl, hb3⟩
      have HB3 := Lib.hid hb3
      clear hb3
      go_wp2_with fail
      refine (onward HB3.out (lives17_any _)).mono ?_; rintro e w4 ⟨rfl, hb4⟩
      have HB4 := Lib.hid (HB1.out.trans (hb4.mono HB1.out.size))
      clear hb4
      go_wp2
      go_ret
      exact ⟨rfl, HB4.out⟩
    · have hv' : vldB s.data.toList = false := Bool.eq_false_iff.2 fun g => hv ((vldB_iff _).1 g)
      rw [hv'] at cv
      have CO := Lib.hid co; have CV := Lib.hid cv; have HV := Lib.hid hv
      clear co cv hv hv'
      go_enter Try.func3, Try.ntmps3
      go_wp2_with fail
      refine CO.out.mono ?_; rintro e w1 ⟨p, L, rfl, -, -, -, h, hb1⟩
      obtain rfl := h HV.out
      have HB1 := Lib.hid hb1
      clear h hb1
      go_wp2_with fail
      refine (onward HB1.out (CV.out _)).mono ?_; rintro e w2 ⟨rfl, hb2⟩
      have HB2 := Lib.hid hb2
      clear hb2
      go_wp2_with fail
      refine (onward HB2.out (lives17_any _)).mono ?_; rintro e w3 ⟨rfl, hb3⟩
      go_wp2
      go_ret
      exact ⟨rfl, hb3⟩
end Go.Proofs.Ytlakebdldcnniaa
