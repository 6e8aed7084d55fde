/-
  The walk of FolderPlays (layer 9).
-/
import Derived.Test.YtpcbfkcpefcnjaaLawFold4
import Derived.Deep.DeepCutAuto
namespace Go.Proofs.Ytpcbfkcpefcnjaa
open Go.RowKit
set_option linter.unusedVariables false

def sA : ByteArray := ⟨#[97]⟩
def sB : ByteArray := ⟨#[98]⟩
theorem gt_ba : gtB sB ⟨sA, 1⟩ = false := by
  unfold gtB
  rw [ByteArray.toList_eq, ByteArray.toList_eq]
  decide
theorem ne_ab : ¬ sA = sB := fun h => by
  have := congrArg (fun x : ByteArray => x.data) h
  simp [sA, sB] at this
theorem lv1 : putF [[]] sA 1 = [[], [⟨sA, 1⟩]] := rfl
theorem lv2 : putF [[⟨sA, 1⟩]] sB 2 = [[⟨sA, 1⟩], [⟨sA, 1⟩, ⟨sB, 2⟩]] := by
  have e1 : findE [⟨sA, 1⟩] sB = none := by simp [findE, nmB, ne_ab]
  have e2 : withE [⟨sA, 1⟩] ⟨sB, 2⟩ = [⟨sA, 1⟩, ⟨sB, 2⟩] := by simp [withE, withK, withS, gt_ba]
  unfold putF
  show (if (findE [⟨sA, 1⟩] sB).isSome = true then _ else [[⟨sA, 1⟩]] ++ [withE [⟨sA, 1⟩] ⟨sB, 2⟩]) = _
  rw [e1, e2]; rfl
theorem lv3 : moveF [[⟨sA, 1⟩], [⟨sA, 1⟩, ⟨sB, 2⟩]] sB sA = [[⟨sA, 1⟩], [⟨sA, 1⟩, ⟨sB, 2⟩], [⟨sA, 2⟩]] := by
  have e1 : findE [⟨sA, 1⟩, ⟨sB, 2⟩] sB = some 2 := by simp [findE, nmB, ne_ab]
  have e2 : withoutE (withoutE [⟨sA, 1⟩, ⟨sB, 2⟩] sB) sA = [] := by simp [withoutE, nmB, ne_ab]
  unfold moveF
  rw [show findE (nowL [[⟨sA, 1⟩], [⟨sA, 1⟩, ⟨sB, 2⟩]]) sB = some 2 from e1]
  show (if sB = sA then _ else _) = _
  rw [if_neg (fun h => ne_ab h.symm), show withoutE (withoutE (nowL [[⟨sA, 1⟩], [⟨sA, 1⟩, ⟨sB, 2⟩]]) sB) sA = [] from e2]
  rfl
theorem sA_le : sA.size ≤ maxLen := by unfold maxLen; show 1 ≤ 9223372036854775807; omega
theorem sB_le : sB.size ≤ maxLen := by unfold maxLen; show 1 ≤ 9223372036854775807; omega
theorem lv4 : findE [⟨sA, 2⟩] sA = some 2 := by simp [findE, nmB]

set_option maxRecDepth 100000 in
set_option maxHeartbeats 800000 in
theorem lives9_any (w : World) : Calls Try.prog 6 #[] w fun e w' => e = .returned (.bool true) ∧ Below w.heap.size w w' := by
  have ok : ∀ L : List (List Ent), okL 10 L → okL 500 L := fun L h => okL_more h (by omega)
  go_enter Try.func6, Try.ntmps6
  go_wp2_with fail
  refine (fonew_any _).mono ?_
  rintro e w1 ⟨f, S1, rfl, h1, hS1, hb1⟩
  have c2 := foput_any h1 (ok _ (by simp [okL])) sA sA_le 1 (by omega) (by omega)
  rw [lv1] at c2
  have C2 := Lib.hid c2; have HB1 := Lib.hid hb1; have HS1 := Lib.hid hS1; clear c2 hb1 h1 hS1
  go_wp2_with fail
  refine C2.out.mono ?_
  rintro e w2 ⟨rfl, S2, h2, ha2, hS2⟩
  have g2 : ∀ b ∈ S2, w.heap.size ≤ b := fun b hb => (hS2 b hb).elim (HS1.out b) (fun h => Nat.le_trans HB1.out.size h)
  have hb2 := HB1.out.trans (ha2.to_below HS1.out HB1.out.size)
  have c3 := fosync_any h2 (ok _ (by simp [okL]))
  rw [show nowL [[], [⟨sA, 1⟩]] = [⟨sA, 1⟩] from rfl] at c3
  have C3 := Lib.hid c3; have HB2 := Lib.hid hb2; have G2 := Lib.hid g2; clear c3 hb2 g2 h2 ha2 hS2 C2
  go_wp2_with fail
  refine C3.out.mono ?_
  rintro e w3 ⟨rfl, S3, h3, ha3, hS3⟩
  have g3 : ∀ b ∈ S3, w.heap.size ≤ b := fun b hb => (hS3 b hb).elim (G2.out b) (fun h => Nat.le_trans HB2.out.size h)
  have hb3 := HB2.out.trans (ha3.to_below G2.out HB2.out.size)
  have c4 := foput_any h3 (ok _ (by simp [okL])) sB sB_le 2 (by omega) (by omega)
  rw [lv2] at c4
  have C4 := Lib.hid c4; have HB3 := Lib.hid hb3; have G3 := Lib.hid g3; clear c4 hb3 g3 h3 ha3 hS3 C3
  go_wp2_with fail
  refine C4.out.mono ?_
  rintro e w4 ⟨rfl, S4, h4, ha4, hS4⟩
  have g4 : ∀ b ∈ S4, w.heap.size ≤ b := fun b hb => (hS4 b hb).elim (G3.out b) (fun h => Nat.le_trans HB3.out.size h)
  have hb4 := HB3.out.trans (ha4.to_below G3.out HB3.out.size)
  have c5 := fomove_any h4 (ok _ (by simp [okL])) sB sA sB_le sA_le
  rw [lv3] at c5
  have C5 := Lib.hid c5; have HB4 := Lib.hid hb4; have G4 := Lib.hid g4; clear c5 hb4 g4 h4 ha4 hS4 C4
  go_wp2_with fail
  refine C5.out.mono ?_
  rintro e w5 ⟨rfl, S5, h5, ha5, hS5⟩
  have g5 : ∀ b ∈ S5, w.heap.size ≤ b := fun b hb => (hS5 b hb).elim (G4.out b) (fun h => Nat.le_trans HB4.out.size h)
  have hb5 := HB4.out.trans (ha5.to_below G4.out HB4.out.size)
  have c6 := focrash_any h5 (ok _ (by simp [okL])) 2 (by omega) (by omega)
  rw [show pickN 2 ([[⟨sA, 1⟩], [⟨sA, 1⟩, ⟨sB, 2⟩], [⟨sA, 2⟩]] : List (List Ent)).length = 2 from rfl, show ([[⟨sA, 1⟩], [⟨sA, 1⟩, ⟨sB, 2⟩], [⟨sA, 2⟩]] : List (List Ent)).getD 2 [] = [⟨sA, 2⟩] from rfl] at c6
  have C6 := Lib.hid c6; have HB5 := Lib.hid hb5; have G5 := Lib.hid g5; clear c6 hb5 g5 h5 ha5 hS5 C5
  go_wp2_with fail
  refine C6.out.mono ?_
  rintro e w6 ⟨rfl, S6, h6, ha6, hS6⟩
  have hb6 := HB5.out.trans (ha6.to_below G5.out HB5.out.size)
  have c7 := fofind_any h6 (ok _ (by simp [okL])) sA sA_le
  rw [show findE (nowL [[⟨sA, 2⟩]]) sA = some 2 from lv4] at c7
  have C7 := Lib.hid c7; have HB6 := Lib.hid hb6; have H6 := Lib.hid h6; clear c7 hb6 h6 ha6 hS6 C6
  go_wp2_with fail
  refine C7.out.mono ?_
  rintro e w7 ⟨rfl, hb7⟩
  have c8 := fonow_any (H6.out.below hb7) (ok _ (by simp [okL]))
  rw [show nowL [[⟨sA, 2⟩]] = [⟨sA, 2⟩] from rfl] at c8
  have C8 := Lib.hid c8; have HB7 := Lib.hid (HB6.out.trans (hb7.mono HB6.out.size)); clear c8 hb7
  go_wp2_with fail
  refine C8.out.mono ?_
  rintro e w8 ⟨ai, ci, rfl, he, hb8⟩
  go_wp2
  go_ret
  exact ⟨by simp, HB7.out.trans (hb8.mono HB7.out.size)⟩
end Go.Proofs.Ytpcbfkcpefcnjaa
