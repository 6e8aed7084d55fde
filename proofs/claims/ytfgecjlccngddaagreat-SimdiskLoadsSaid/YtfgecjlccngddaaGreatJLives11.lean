/-
  Joined: Lives11.
-/
import Derived.Test.YtfgecjlccngddaaGreatJLawA
namespace Go.Proofs.YtfgecjlccngddaaGreat
set_option linter.unusedSimpArgs false
set_option linter.unusedVariables false
open Go.RowKit
set_option linter.unusedVariables false

def kA : ByteArray := ⟨#[97]⟩
def kX : ByteArray := ⟨#[120]⟩
theorem kA_le : kA.size ≤ maxLen := by unfold maxLen; show 1 ≤ 9223372036854775807; omega
theorem dl1 : Dsk.create (Dsk.new 9) kA = (⟨9, [Tp.none], [[], [⟨kA, 1⟩]], Fus.new, 1⟩, 0) := by rfl
theorem dl2 : Dsk.append (⟨9, [Tp.none], [[], [⟨kA, 1⟩]], Fus.new, 1⟩) kA kX = (⟨9, [⟨ByteArray.empty, kX⟩], [[], [⟨kA, 1⟩]], Fus.new, 2⟩, 0) := by rfl
theorem dl3 : Dsk.sync (⟨9, [⟨ByteArray.empty, kX⟩], [[], [⟨kA, 1⟩]], Fus.new, 2⟩) kA = (⟨9, [⟨kX, kX⟩], [[], [⟨kA, 1⟩]], Fus.new, 3⟩, 0) := by rfl
theorem dl4 : Dsk.syncAll (⟨9, [⟨kX, kX⟩], [[], [⟨kA, 1⟩]], Fus.new, 3⟩)  = (⟨9, [⟨kX, kX⟩], [[⟨kA, 1⟩]], Fus.new, 4⟩, 0) := by rfl
theorem dl5 : (Dsk.crash (⟨9, [⟨kX, kX⟩], [[⟨kA, 1⟩]], Fus.new, 4⟩) ByteArray.empty).1 = ⟨9, [⟨kX, kX⟩], [[⟨kA, 1⟩]], Fus.new, 4⟩ := by rfl
theorem dl6 : Dsk.read (⟨9, [⟨kX, kX⟩], [[⟨kA, 1⟩]], Fus.new, 4⟩) kA = (kX, 0) := by rfl
theorem dn0 : Dsk.make 9 = (Dsk.new 9, 0) := by rfl
theorem ok0 : Dsk.ok 0 (Dsk.new 9) := Dsk.new_ok 9 (by omega) (by omega)
theorem ok1 : Dsk.ok 1 (⟨9, [Tp.none], [[], [⟨kA, 1⟩]], Fus.new, 1⟩) := by have := Dsk.create_ok ok0 kA; rw [dl1] at this; exact this
theorem ok2 : Dsk.ok 2 (⟨9, [⟨ByteArray.empty, kX⟩], [[], [⟨kA, 1⟩]], Fus.new, 2⟩) := by have := Dsk.append_ok ok1 kA kX (by show 1 ≤ 200; omega); rw [dl2] at this; exact this
theorem ok3 : Dsk.ok 3 (⟨9, [⟨kX, kX⟩], [[], [⟨kA, 1⟩]], Fus.new, 3⟩) := by have := Dsk.sync_ok ok2 kA; rw [dl3] at this; exact this
theorem ok4 : Dsk.ok 4 (⟨9, [⟨kX, kX⟩], [[⟨kA, 1⟩]], Fus.new, 4⟩) := by have := Dsk.syncAll_ok ok3; rw [dl4] at this; exact this
theorem ok9 {M : Nat} {D : Dsk} (h : D.ok M) (hM : M ≤ 199) : D.ok 199 := D.ok_more h hM
set_option maxRecDepth 100000 in
set_option maxHeartbeats 800000 in
theorem lives11_any (w : World) : Calls Tryz.prog 15 #[] w fun e w' => e = .returned (.bool true) ∧ Below w.heap.size w w' := by
  have c0 := dknew_any 9 w
  rw [dn0] at c0
  have C0 := Lib.hid c0; clear c0
  go_enter Tryz.func15, Tryz.ntmps15
  go_wp2_with fail
  refine C0.out.mono ?_
  intro e w1 hn
  unfold NewK at hn
  rw [if_pos rfl] at hn
  obtain ⟨f, S1, rfl, h1, hS1, hb1⟩ := hn
  have HB1 := Lib.hid hb1; have G1 := Lib.hid hS1; clear hb1 hS1 C0
  have c1 := dkcreate_any h1 (ok9 ok0 (by omega)) kA kA_le
  rw [dl1] at c1
  have C1 := Lib.hid c1; clear c1 h1
  go_wp2_with fail
  refine C1.out.mono ?_
  rintro e w2 ⟨rfl, S2, h2, ha2, hS2⟩
  have g2 : ∀ b ∈ S2, w.heap.size ≤ b := fun b hb => (hS2 b hb).elim (G1.out b) (fun h => Nat.le_trans HB1.out.size h)
  have hb2 := HB1.out.trans (ha2.to_below G1.out HB1.out.size)
  have HB2 := Lib.hid hb2; have G2 := Lib.hid g2; clear hb2 g2 ha2 hS2 C1
  have c2 := dkappend_any h2 (ok9 ok1 (by omega)) kA kX kA_le (by show 1 ≤ 200; omega)
  rw [dl2] at c2
  have C2 := Lib.hid c2; clear c2 h2
  go_wp2_with fail
  refine C2.out.mono ?_
  rintro e w3 ⟨rfl, S3, h3, ha3, hS3⟩
  have g3 : ∀ b ∈ S3, w.heap.size ≤ b := fun b hb => (hS3 b hb).elim (G2.out b) (fun h => Nat.le_trans HB2.out.size h)
  have hb3 := HB2.out.trans (ha3.to_below G2.out HB2.out.size)
  have HB3 := Lib.hid hb3; have G3 := Lib.hid g3; clear hb3 g3 ha3 hS3 C2
  have c3 := dksync_any h3 (ok9 ok2 (by omega)) kA kA_le
  rw [dl3] at c3
  have C3 := Lib.hid c3; clear c3 h3
  go_wp2_with fail
  refine C3.out.mono ?_
  rintro e w4 ⟨rfl, S4, h4, ha4, hS4⟩
  have g4 : ∀ b ∈ S4, w.heap.size ≤ b := fun b hb => (hS4 b hb).elim (G3.out b) (fun h => Nat.le_trans HB3.out.size h)
  have hb4 := HB3.out.trans (ha4.to_below G3.out HB3.out.size)
  have HB4 := Lib.hid hb4; have G4 := Lib.hid g4; clear hb4 g4 ha4 hS4 C3
  have c4 := dksyncall_any h4 (ok9 ok3 (by omega))
  rw [dl4] at c4
  have C4 := Lib.hid c4; clear c4 h4
  go_wp2_with fail
  refine C4.out.mono ?_
  rintro e w5 ⟨rfl, S5, h5, ha5, hS5⟩
  have g5 : ∀ b ∈ S5, w.heap.size ≤ b := fun b hb => (hS5 b hb).elim (G4.out b) (fun h => Nat.le_trans HB4.out.size h)
  have hb5 := HB4.out.trans (ha5.to_below G4.out HB4.out.size)
  have HB5 := Lib.hid hb5; have G5 := Lib.hid g5; clear hb5 g5 ha5 hS5 C4
  have c5 := dkcrash_any h5 (ok9 ok4 (by omega)) ByteArray.empty (by show 0 ≤ 200; omega)
  rw [dl5] at c5
  have C5 := Lib.hid c5; clear c5 h5
  go_wp2_with fail
  refine C5.out.mono ?_
  rintro e w6 ⟨rfl, S6, h6, ha6, hS6⟩
  have g6 : ∀ b ∈ S6, w.heap.size ≤ b := fun b hb => (hS6 b hb).elim (G5.out b) (fun h => Nat.le_trans HB5.out.size h)
  have hb6 := HB5.out.trans (ha6.to_below G5.out HB5.out.size)
  have HB6 := Lib.hid hb6; have G6 := Lib.hid g6; clear hb6 g6 ha6 hS6 C5
  have c6 := dkread_any h6 (ok9 ok4 (by omega)) kA kA_le
  rw [dl6] at c6
  have C6 := Lib.hid c6; clear c6 h6
  go_wp2_with fail
  refine C6.out.mono ?_
  rintro e w7 ⟨rfl, hb7⟩
  have HB7 := Lib.hid (HB6.out.trans (hb7.mono HB6.out.size)); clear hb7
  have hx : kX.toList = [120] := by rw [ByteArray.toList_eq]; rfl
  go_wp2
  go_ret
  exact ⟨rfl, HB7.out⟩
end Go.Proofs.YtfgecjlccngddaaGreat
