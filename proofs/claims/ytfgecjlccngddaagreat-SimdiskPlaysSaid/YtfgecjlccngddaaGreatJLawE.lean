/-
  Joined: LawDisk7, LawDisk8, LawDisk9.
-/
import Derived.Test.YtfgecjlccngddaaGreatJLawD
import Derived.Test.YtfgecjlccngddaaGreatJEnt
namespace Go.Proofs.YtfgecjlccngddaaGreat
set_option linter.unusedSimpArgs false
set_option linter.unusedVariables false
open Go.RowKit
set_option linter.unusedVariables false

def kA : ByteArray := ⟨#[97]⟩
def kX : ByteArray := ⟨#[120]⟩
theorem kA_le : kA.size ≤ maxLen := by unfold maxLen; show 1 ≤ 9223372036854775807; omega
theorem dl1 : Dsk.create (Dsk.new 9) kA = (⟨9, [Tp.none], [[], [⟨kA, 1⟩]], Fus.new, 1⟩, 0) := by rfl
theorem dl2 : Dsk.append (⟨9, [Tp.none], [[], [⟨kA, 1⟩]], Fus.new, 1⟩) kA kX = (⟨9, [⟨ByteArray.empty, kX⟩], [[], [⟨kA, 1⟩]], Fus.new, 2⟩, 0) := by rfl
theorem dl3 : Dsk.sync (⟨9, [⟨ByteArray.empty, kX⟩], [[], [⟨kA, 1⟩]], Fus.new, 2⟩) kA = (⟨9, [⟨kX, kX⟩], [[], [⟨kA, 1⟩]], Fus.new, 3⟩, 0) := by rfl
theorem dl4 : Dsk.syncAll (⟨9, [⟨kX, kX⟩], [[], [⟨kA, 1⟩]], Fus.new, 3⟩)  = (⟨9, [⟨kX, kX⟩], [[⟨kA, 1⟩]], Fus.new, 4⟩, 0) := by rfl
theorem dl5 : (Dsk.crash (⟨9, [⟨kX, kX⟩], [[⟨kA, 1⟩]], Fus.new, 4⟩) ByteArray.empty).1 = ⟨9, [⟨kX, kX⟩], [[⟨kA, 1⟩]], Fus.new, 4⟩ := by rfl
theorem dl6 : Dsk.read (⟨9, [⟨kX, kX⟩], [[⟨kA, 1⟩]], Fus.new, 4⟩) kA = (kX, 0) := by rfl
theorem dn0 : Dsk.make 9 = (Dsk.new 9, 0) := by rfl
theorem ok0 : Dsk.ok 0 (Dsk.new 9) := Dsk.new_ok 9 (by omega) (by omega)
theorem ok1 : Dsk.ok 1 (⟨9, [Tp.none], [[], [⟨kA, 1⟩]], Fus.new, 1⟩) := by have := Dsk.create_ok ok0 kA; rw [dl1] at this; exact this
theorem ok2 : Dsk.ok 2 (⟨9, [⟨ByteArray.empty, kX⟩], [[], [⟨kA, 1⟩]], Fus.new, 2⟩) := by have := Dsk.append_ok ok1 kA kX (by show 1 ≤ 200; omega); rw [dl2] at this; exact this
theorem ok3 : Dsk.ok 3 (⟨9, [⟨kX, kX⟩], [[], [⟨kA, 1⟩]], Fus.new, 3⟩) := by have := Dsk.sync_ok ok2 kA; rw [dl3] at this; exact this
theorem ok4 : Dsk.ok 4 (⟨9, [⟨kX, kX⟩], [[⟨kA, 1⟩]], Fus.new, 4⟩) := by have := Dsk.syncAll_ok ok3; rw [dl4] at this; exact this
theorem ok9 {M : Nat} {D : Dsk} (h : D.ok M) (hM : M ≤ 199) : D.ok 199 := D.ok_more h hM
set_option maxRecDepth 100000 in
set_option maxHeartbeats 800000 in
theorem lives11_any (w : World) : Calls Tryz.prog 15 #[] w fun e w' => e = .returned (.bool true) ∧ Below w.heap.size w w' := by
  have c0 := dknew_any 9 w
  rw [dn0] at c0
  have C0 := Lib.hid c0; clear c0
  go_enter Tryz.func15, Tryz.ntmps15
  go_wp2_with fail
  refine C0.out.mono ?_
  intro e w1 hn
  unfold NewK at hn
  rw [if_pos rfl] at hn
  obtain ⟨f, S1, rfl, h1, hS1, hb1⟩ := hn
  have HB1 := Lib.hid hb1; have G1 := Lib.hid hS1; clear hb1 hS1 C0
  have c1 := dkcreate_any h1 (ok9 ok0 (by omega)) kA kA_le
  rw [dl1] at c1
  have C1 := Lib.hid c1; clear c1 h1
  go_wp2_with fail
  refine C1.out.mono ?_
  rintro e w2 ⟨rfl, S2, h2, ha2, hS2⟩
  have g2 : ∀ b ∈ S2, w.heap.size ≤ b := fun b hb => (hS2 b hb).elim (G1.out b) (fun h => Nat.le_trans HB1.out.size h)
  have hb2 := HB1.out.trans (ha2.to_below G1.out HB1.out.size)
  have HB2 := Lib.hid hb2; have G2 := Lib.hid g2; clear hb2 g2 ha2 hS2 C1
  have c2 := dkappend_any h2 (ok9 ok1 (by omega)) kA kX kA_le (by show 1 ≤ 200; omega)
  rw [dl2] at c2
  have C2 := Lib.hid c2; clear c2 h2
  go_wp2_with fail
  refine C2.out.mono ?_
  rintro e w3 ⟨rfl, S3, h3, ha3, hS3⟩
  have g3 : ∀ b ∈ S3, w.heap.size ≤ b := fun b hb => (hS3 b hb).elim (G2.out b) (fun h => Nat.le_trans HB2.out.size h)
  have hb3 := HB2.out.trans (ha3.to_below G2.out HB2.out.size)
  have HB3 := Lib.hid hb3; have G3 := Lib.hid g3; clear hb3 g3 ha3 hS3 C2
  have c3 := dksync_any h3 (ok9 ok2 (by omega)) kA kA_le
  rw [dl3] at c3
  have C3 := Lib.hid c3; clear c3 h3
  go_wp2_with fail
  refine C3.out.mono ?_
  rintro e w4 ⟨rfl, S4, h4, ha4, hS4⟩
  have g4 : ∀ b ∈ S4, w.heap.size ≤ b := fun b hb => (hS4 b hb).elim (G3.out b) (fun h => Nat.le_trans HB3.out.size h)
  have hb4 := HB3.out.trans (ha4.to_below G3.out HB3.out.size)
  have HB4 := Lib.hid hb4; have G4 := Lib.hid g4; clear hb4 g4 ha4 hS4 C3
  have c4 := dksyncall_any h4 (ok9 ok3 (by omega))
  rw [dl4] at c4
  have C4 := Lib.hid c4; clear c4 h4
  go_wp2_with fail
  refine C4.out.mono ?_
  rintro e w5 ⟨rfl, S5, h5, ha5, hS5⟩
  have g5 : ∀ b ∈ S5, w.heap.size ≤ b := fun b hb => (hS5 b hb).elim (G4.out b) (fun h => Nat.le_trans HB4.out.size h)
  have hb5 := HB4.out.trans (ha5.to_below G4.out HB4.out.size)
  have HB5 := Lib.hid hb5; have G5 := Lib.hid g5; clear hb5 g5 ha5 hS5 C4
  have c5 := dkcrash_any h5 (ok9 ok4 (by omega)) ByteArray.empty (by show 0 ≤ 200; omega)
  rw [dl5] at c5
  have C5 := Lib.hid c5; clear c5 h5
  go_wp2_with fail
  refine C5.out.mono ?_
  rintro e w6 ⟨rfl, S6, h6, ha6, hS6⟩
  have g6 : ∀ b ∈ S6, w.heap.size ≤ b := fun b hb => (hS6 b hb).elim (G5.out b) (fun h => Nat.le_trans HB5.out.size h)
  have hb6 := HB5.out.trans (ha6.to_below G5.out HB5.out.size)
  have HB6 := Lib.hid hb6; have G6 := Lib.hid g6; clear hb6 g6 ha6 hS6 C5
  have c6 := dkread_any h6 (ok9 ok4 (by omega)) kA kA_le
  rw [dl6] at c6
  have C6 := Lib.hid c6; clear c6 h6
  go_wp2_with fail
  refine C6.out.mono ?_
  rintro e w7 ⟨rfl, hb7⟩
  have HB7 := Lib.hid (HB6.out.trans (hb7.mono HB6.out.size)); clear hb7
  have hx : kX.toList = [120] := by rw [ByteArray.toList_eq]; rfl
  go_wp2
  go_ret
  exact ⟨rfl, HB7.out⟩
end Go.Proofs.YtfgecjlccngddaaGreat
namespace Go.Proofs.YtfgecjlccngddaaGreat
set_option linter.unusedSimpArgs false
set_option linter.unusedVariables false
open Go.RowKit
set_option linter.unusedVariables false

/-- The blocks that a disk's lists lie in: none of the object's own, nor the variable's. -/
abbrev Pq (wr : World) (S : List Nat) (g : Nat) : Nat → Prop := fun b => b < wr.heap.size ∧ b ∉ S ∧ b ≠ g
/-- What holds at each round's head: the disk, and a variable with the document's, apart. -/
def Inv11 (w : World) (g : Nat) (f : Addr) (D : Dsk) (M : Nat) (wr : World) : Prop :=
  ∃ S a c aL cL, IsDk wr S f D ∧ D.ok M ∧ Blk wr g (dskC D.sec a D.tp.length c aL D.L.length cL D.fu D.calls) 34 ∧ Tps wr (Pq wr S g) a D.tp ∧ LLs wr (Pq wr S g) aL D.L ∧ (a = none → c = 0) ∧
    (∀ b ∈ S, w.heap.size ≤ b) ∧ g ∉ S ∧ w.heap.size ≤ g ∧ Below w.heap.size w wr
theorem inv11_below {w wx wy : World} {g : Nat} {f : Addr} {D : Dsk} {M : Nat} (h : Inv11 w g f D M wx) (hb : Below wx.heap.size wx wy) : Inv11 w g f D M wy := by
  obtain ⟨S, a, c, aL, cL, hF, hok, hq, hT, hL, hz, hS, hgS, hg0, hw⟩ := h
  have z := hb.size
  exact ⟨S, a, c, aL, cL, hF.below hb, hok, hq.onto hb, (hT.below (fun b hh => hh.1) hb).more (fun b hh => ⟨by have := hh.1; omega, hh.2⟩), (hL.below (fun b hh => hh.1) hb).more (fun b hh => ⟨by have := hh.1; omega, hh.2⟩), hz, hS, hgS, hg0, hw.trans (hb.mono hw.size)⟩
/-- A copy goes on; what it was copied from was written to (its blocks S turned, in three calls as in one). -/
theorem inv11_copy {w wr w3 w6 : World} {g : Nat} {f f3 : Addr} {D : Dsk} {M : Nat} {S S3 : List Nat} {a aL : Option Addr} {c cL : Nat}
    (hF : IsDk wr S f D) (hok : D.ok M) (hq : Blk wr g (dskC D.sec a D.tp.length c aL D.L.length cL D.fu D.calls) 34) (hT : Tps wr (Pq wr S g) a D.tp) (hL : LLs wr (Pq wr S g) aL D.L) (hz : a = none → c = 0)
    (hS : ∀ b ∈ S, w.heap.size ≤ b) (hgS : g ∉ S) (hg0 : w.heap.size ≤ g) (hw : Below w.heap.size w wr)
    (h3 : IsDk w3 S3 f3 D) (hS3 : ∀ b ∈ S3, wr.heap.size ≤ b) (hb3 : Below wr.heap.size wr w3) (aa : Apart S w3 w6) :
    Inv11 w g f3 D M w6 := by
  have z3 := hb3.size
  have z6 := aa.size
  have hlt := hF.lt
  have hg1 := hq.lt
  refine ⟨S3, a, c, aL, cL, h3.kept aa (fun b hb hh => ?_), hok, ?_, ?_, ?_, hz, fun b hb => ?_, fun hh => ?_, hg0, ?_⟩
  · have := hS3 _ hb; have := hlt _ hh; omega
  · exact (aa.block g (by omega) hgS).trans (hq.onto hb3)
  · refine (hT.keep (fun p hp => (aa.cell (by have := hp.1; omega) hp.2.1).trans (hb3.cell hp.1))).more (fun b hb => ⟨by have := hb.1; omega, fun hh => ?_, hb.2.2⟩)
    have := hS3 _ hh; have := hb.1; omega
  · refine (hL.keep (fun p hp => (aa.cell (by have := hp.1; omega) hp.2.1).trans (hb3.cell hp.1))).more (fun b hb => ⟨by have := hb.1; omega, fun hh => ?_, hb.2.2⟩)
    have := hS3 _ hh; have := hb.1; omega
  · have := hS3 _ hb; have := hw.size; omega
  · have := hS3 _ hh; omega
  · exact (hw.trans (hb3.mono hw.size)).trans (aa.to_below hS (Nat.le_trans hw.size z3))
/-- Behind a step: what the variable 'next' has. -/
def Aft11 (w : World) (g : Nat) (f : Addr) (D : Dsk) (v11 v12 : Value) (wx : World) : Prop :=
  ∃ g7 S a c aL cL x0 x1 x2 x3 x4 x5 x6 x7, v11 = .pointer (some ⟨g7, 0, none⟩) ∧ v12 = .bool true ∧ IsDk wx S f D ∧ Blk wx g7 (dskC D.sec a D.tp.length c aL D.L.length cL D.fu D.calls) 34 ∧ Blk wx g #[x0, x1, x2, x3, x4, x5, x6, x7] 34 ∧
    Tps wx (Pq wx S g) a D.tp ∧ LLs wx (Pq wx S g) aL D.L ∧ (a = none → c = 0) ∧ (∀ b ∈ S, w.heap.size ≤ b) ∧ g ∉ S ∧ w.heap.size ≤ g ∧ Below w.heap.size w wx
/-- The variable was made ahead of the step. -/
theorem aft11_A {w wr w4 : World} {g : Nat} {f : Addr} {D : Dsk} {S S4 : List Nat} {a4 aL4 : Option Addr} {c4 cL4 : Nat} {x0 x1 x2 x3 x4 x5 x6 x7 : Value}
    (hq : Blk wr g #[x0, x1, x2, x3, x4, x5, x6, x7] 34) (hS : ∀ b ∈ S, w.heap.size ≤ b) (hlt : ∀ b ∈ S, b < wr.heap.size) (hgS : g ∉ S) (hg0 : w.heap.size ≤ g) (hw : Below w.heap.size w wr)
    (hF4 : IsDk w4 S4 f D) (ha : Apart S (wr.alloc (.cells dskZ 34)).drew w4) (hS4 : ∀ b ∈ S4, b ∈ S ∨ wr.heap.size + 1 ≤ b)
    (hT : Tps w4 (fun b => (Pq wr S g b ∨ wr.heap.size + 1 ≤ b) ∧ b < w4.heap.size ∧ b ∉ S4) a4 D.tp) (hL : LLs w4 (fun b => (Pq wr S g b ∨ wr.heap.size + 1 ≤ b) ∧ b < w4.heap.size ∧ b ∉ S4) aL4 D.L) (hz : a4 = none → c4 = 0) :
    Aft11 w g f D (.pointer (some ⟨wr.heap.size, 0, none⟩)) (.bool true) (put8 w4 wr.heap.size D.sec a4 D.tp.length c4 aL4 D.L.length cL4 D.fu D.calls) := by
  have hbA := (Below.refl wr.heap.size wr).alloc (Nat.le_refl _) (.cells dskZ 34)
  have e7 := Blk.new wr dskZ 34
  obtain ⟨Y, hY⟩ : ∃ Y, wr.alloc (.cells dskZ 34) = Y := ⟨_, rfl⟩
  have sY : Y.heap.size = wr.heap.size + 1 := by rw [← hY]; simp
  rw [hY] at hbA ha e7
  have sYd : Y.drew.heap.size = wr.heap.size + 1 := sY
  have z4 : wr.heap.size + 1 ≤ w4.heap.size := by have := ha.size; rw [sYd] at this; exact this
  have n7 : wr.heap.size ∉ S := fun hh => by have := hlt _ hh; omega
  have hg1 := hq.lt
  have c7 : Blk w4 wr.heap.size dskZ 34 := (ha.block _ (by show _ < Y.heap.size; omega) n7).trans e7
  have cg : Blk w4 g #[x0, x1, x2, x3, x4, x5, x6, x7] 34 := (ha.block _ (by show _ < Y.heap.size; omega) hgS).trans (hq.onto hbA.drew)
  have k7 := put8_apart [wr.heap.size] w4 wr.heap.size (by simp) D.sec a4 D.tp.length c4 aL4 D.L.length cL4 D.fu D.calls
  have hc7 : ∀ p : Addr, p.block ≠ wr.heap.size → (put8 w4 wr.heap.size D.sec a4 D.tp.length c4 aL4 D.L.length cL4 D.fu D.calls).cell? p = w4.cell? p := fun p hp => put8_cell hp _ _ _ _ _ _ _ _ _
  have hn7 := blk8_put c7 D.sec a4 D.tp.length c4 aL4 D.L.length cL4 D.fu D.calls
  have hsz := put8_size w4 wr.heap.size D.sec a4 D.tp.length c4 aL4 D.L.length cL4 D.fu D.calls
  obtain ⟨W, hW⟩ : ∃ W, put8 w4 wr.heap.size D.sec a4 D.tp.length c4 aL4 D.L.length cL4 D.fu D.calls = W := ⟨_, rfl⟩
  rw [hW] at k7 hc7 hn7 hsz ⊢
  have hzw := hw.size
  have hne : ∀ b, (Pq wr S g b ∨ wr.heap.size + 1 ≤ b) → b ≠ wr.heap.size := fun b hb => by
    rcases hb with hb | hb
    · have := hb.1; omega
    · omega
  have hmore : ∀ b, ((Pq wr S g b ∨ wr.heap.size + 1 ≤ b) ∧ b < w4.heap.size ∧ b ∉ S4) → Pq W S4 g b := fun b hb => ⟨by rw [hsz]; exact hb.2.1, hb.2.2, by
    rcases hb.1 with h | h
    · exact h.2.2
    · omega⟩
  refine ⟨wr.heap.size, S4, a4, c4, aL4, cL4, _, _, _, _, _, _, _, _, rfl, rfl, hF4.kept k7 (fun b hb hh => ?_), hn7, (k7.block g (by omega) (by simp; omega)).trans cg, ?_, ?_, hz, fun b hb => ?_, fun hh => ?_, hg0, ?_⟩
  · have e : b = wr.heap.size := by simpa using hh
    rcases hS4 _ hb with h | h
    · exact n7 (e ▸ h)
    · omega
  · exact (hT.keep (fun p hp => hc7 p (hne _ hp.1))).more hmore
  · exact (hL.keep (fun p hp => hc7 p (hne _ hp.1))).more hmore
  · rcases hS4 _ hb with h | h
    · exact hS _ h
    · omega
  · rcases hS4 _ hh with h | h
    · exact hgS h
    · omega
  · have hA : Below w.heap.size Y.drew w4 := ha.to_below hS (by rw [sYd]; omega)
    have hk : ∀ b ∈ [wr.heap.size], w.heap.size ≤ b := fun b hb => by
      have e : b = wr.heap.size := by simpa using hb
      omega
    exact ((hw.trans (hbA.mono hzw)).drew.trans hA).trans (k7.to_below hk (by omega))
/-- The variable was made behind the step. -/
theorem aft11_B {w wr w4 : World} {g : Nat} {f : Addr} {D : Dsk} {S S4 : List Nat} {a4 aL4 : Option Addr} {c4 cL4 : Nat} {x0 x1 x2 x3 x4 x5 x6 x7 : Value}
    (hq : Blk wr g #[x0, x1, x2, x3, x4, x5, x6, x7] 34) (hS : ∀ b ∈ S, w.heap.size ≤ b) (hgS : g ∉ S) (hg0 : w.heap.size ≤ g) (hw : Below w.heap.size w wr)
    (hF4 : IsDk w4 S4 f D) (ha : Apart S wr.drew w4) (hS4 : ∀ b ∈ S4, b ∈ S ∨ wr.heap.size ≤ b)
    (hT : Tps w4 (fun b => (Pq wr S g b ∨ wr.heap.size ≤ b) ∧ b < w4.heap.size ∧ b ∉ S4) a4 D.tp) (hL : LLs w4 (fun b => (Pq wr S g b ∨ wr.heap.size ≤ b) ∧ b < w4.heap.size ∧ b ∉ S4) aL4 D.L) (hz : a4 = none → c4 = 0) :
    Aft11 w g f D (.pointer (some ⟨w4.heap.size, 0, none⟩)) (.bool true) (w4.alloc (.cells (dskC D.sec a4 D.tp.length c4 aL4 D.L.length cL4 D.fu D.calls) 34)) := by
  have hbA := (Below.refl w4.heap.size w4).alloc (Nat.le_refl _) (.cells (dskC D.sec a4 D.tp.length c4 aL4 D.L.length cL4 D.fu D.calls) 34)
  have e7 := Blk.new w4 (dskC D.sec a4 D.tp.length c4 aL4 D.L.length cL4 D.fu D.calls) 34
  have hs : (w4.alloc (.cells (dskC D.sec a4 D.tp.length c4 aL4 D.L.length cL4 D.fu D.calls) 34)).heap.size = w4.heap.size + 1 := by simp
  obtain ⟨W, hW⟩ : ∃ W, w4.alloc (.cells (dskC D.sec a4 D.tp.length c4 aL4 D.L.length cL4 D.fu D.calls) 34) = W := ⟨_, rfl⟩
  rw [hW] at hbA e7 hs ⊢
  have z4 : wr.heap.size ≤ w4.heap.size := ha.size
  have hg1 := hq.lt
  have cg : Blk w4 g #[x0, x1, x2, x3, x4, x5, x6, x7] 34 := (ha.block _ hg1 hgS).trans hq
  have hzw := hw.size
  have hmore : ∀ b, ((Pq wr S g b ∨ wr.heap.size ≤ b) ∧ b < w4.heap.size ∧ b ∉ S4) → Pq W S4 g b := fun b hb => ⟨by rw [hs]; have := hb.2.1; omega, hb.2.2, by
    rcases hb.1 with h | h
    · exact h.2.2
    · omega⟩
  refine ⟨w4.heap.size, S4, a4, c4, aL4, cL4, _, _, _, _, _, _, _, _, rfl, rfl, hF4.below hbA, e7, cg.onto hbA, (hT.below (fun b hb => hb.2.1) hbA).more hmore, (hL.below (fun b hb => hb.2.1) hbA).more hmore, hz, fun b hb => ?_, fun hh => ?_, hg0, ?_⟩
  · rcases hS4 _ hb with h | h
    · exact hS _ h
    · omega
  · rcases hS4 _ hh with h | h
    · exact hgS h
    · omega
  · have hA : Below w.heap.size wr.drew w4 := ha.to_below hS (by show _ ≤ wr.heap.size; omega)
    exact (hw.drew.trans hA).trans (hbA.mono (by omega))
/-- The variable of the document's disk is that of the step then. -/
theorem aft11_inv {w wx : World} {g : Nat} {f : Addr} {D : Dsk} {M : Nat} {S : List Nat} {a aL : Option Addr} {c cL : Nat} {x0 x1 x2 x3 x4 x5 x6 x7 : Value}
    (hok : D.ok M) (hF : IsDk wx S f D) (hg : Blk wx g #[x0, x1, x2, x3, x4, x5, x6, x7] 34) (hT : Tps wx (Pq wx S g) a D.tp) (hL : LLs wx (Pq wx S g) aL D.L) (hz : a = none → c = 0) (hS : ∀ b ∈ S, w.heap.size ≤ b) (hgS : g ∉ S) (hg0 : w.heap.size ≤ g) (hw : Below w.heap.size w wx) :
    Inv11 w g f D M (put8 wx g D.sec a D.tp.length c aL D.L.length cL D.fu D.calls) := by
  have k := put8_apart [g] wx g (by simp) D.sec a D.tp.length c aL D.L.length cL D.fu D.calls
  have hc : ∀ p : Addr, p.block ≠ g → (put8 wx g D.sec a D.tp.length c aL D.L.length cL D.fu D.calls).cell? p = wx.cell? p := fun p hp => put8_cell hp _ _ _ _ _ _ _ _ _
  have hn := blk8_put hg D.sec a D.tp.length c aL D.L.length cL D.fu D.calls
  have hsz := put8_size wx g D.sec a D.tp.length c aL D.L.length cL D.fu D.calls
  have hwb := put8_below hw hg0 D.sec a D.tp.length c aL D.L.length cL D.fu D.calls
  obtain ⟨W, hW⟩ : ∃ W, put8 wx g D.sec a D.tp.length c aL D.L.length cL D.fu D.calls = W := ⟨_, rfl⟩
  rw [hW] at k hc hn hsz hwb ⊢
  refine ⟨S, a, c, aL, cL, hF.kept k (fun b hb hh => ?_), hok, hn, (hT.keep (fun p hp => hc p hp.2.2)).more (fun b hb => ⟨by rw [hsz]; exact hb.1, hb.2⟩), (hL.keep (fun p hp => hc p hp.2.2)).more (fun b hb => ⟨by rw [hsz]; exact hb.1, hb.2⟩), hz, hS, hgS, hg0, hwb⟩
  have e : b = g := by simpa using hh
  exact hgS (e ▸ hb)
end Go.Proofs.YtfgecjlccngddaaGreat
namespace Go.Proofs.YtfgecjlccngddaaGreat
set_option linter.unusedSimpArgs false
set_option linter.unusedVariables false
open Go.RowKit
set_option linter.unusedVariables false

def kOver : ByteArray := ⟨#[111, 118, 101, 114]⟩
theorem kOver_le : kOver.size ≤ maxLen := by unfold maxLen; show 4 ≤ 9223372036854775807; omega
def kOnes : ByteArray := ⟨#[1, 1, 1, 1]⟩
/-- The new disk and the variable. -/
theorem inv11_new {w w1 w2 : World} {f : Addr} {S : List Nat} {D : Dsk} {M : Nat} {a aL : Option Addr} {c cL : Nat} (hF : IsDk w1 S f D) (hS : ∀ b ∈ S, w.heap.size ≤ b) (hb1 : Below w.heap.size w w1) (hok : D.ok M)
    (hT : Tps w2 (Grow (fun _ => False) w1.heap.size w2.heap.size) a D.tp) (hL : LLs w2 (Grow (fun _ => False) w1.heap.size w2.heap.size) aL D.L) (hz : a = none → c = 0) (hb2 : Below w1.heap.size w1 w2) :
    Inv11 w w2.heap.size f D M (w2.alloc (.cells (dskC D.sec a D.tp.length c aL D.L.length cL D.fu D.calls) 34)) := by
  have hbn := (Below.refl w2.heap.size w2).alloc (Nat.le_refl _) (.cells (dskC D.sec a D.tp.length c aL D.L.length cL D.fu D.calls) 34)
  have hk := Blk.new w2 (dskC D.sec a D.tp.length c aL D.L.length cL D.fu D.calls) 34
  have hlt := hF.lt
  have z1 := hb1.size
  have z2 := hb2.size
  have hs : (w2.alloc (.cells (dskC D.sec a D.tp.length c aL D.L.length cL D.fu D.calls) 34)).heap.size = w2.heap.size + 1 := by simp
  obtain ⟨W, hW⟩ : ∃ W, w2.alloc (.cells (dskC D.sec a D.tp.length c aL D.L.length cL D.fu D.calls) 34) = W := ⟨_, rfl⟩
  rw [hW] at hbn hk hs ⊢
  have hm : ∀ b, Grow (fun _ => False) w1.heap.size w2.heap.size b → Pq W S w2.heap.size b := fun b hb => by
    rcases hb with hb | hb
    · exact hb.elim
    · exact ⟨by rw [hs]; omega, fun hh => by have := hlt _ hh; omega, by omega⟩
  have hlw : ∀ b, Grow (fun _ => False) w1.heap.size w2.heap.size b → b < w2.heap.size := fun b hb => by rcases hb with hb | hb; exact hb.elim; exact hb.2
  refine ⟨S, a, c, aL, cL, (hF.below hb2).below hbn, hok, hk, (hT.below hlw hbn).more hm, (hL.below hlw hbn).more hm, hz, hS, fun g => ?_, by omega, ?_⟩
  · have := hlt _ g; omega
  · exact (hb1.trans (hb2.mono z1)).trans (hbn.mono (by omega))
theorem inv11_more {w wr : World} {g : Nat} {f : Addr} {D : Dsk} {M M' : Nat} (h : Inv11 w g f D M wr) (hM : M ≤ M') : Inv11 w g f D M' wr := by
  obtain ⟨S, a, c, aL, cL, h1, h2, h3⟩ := h
  exact ⟨S, a, c, aL, cL, h1, D.ok_more h2 hM, h3⟩
set_option maxRecDepth 100000 in
set_option maxHeartbeats 3200000 in
theorem simdiskPlays_walk (sec : Int) (a0 : Option Addr) (l : List Op11) (c0 : Nat) (w : World) (_w0 : (Lit.int .i64 sec).wf = true) (hr : Op11s w (· < w.heap.size) a0 l) (hfit : ∀ x ∈ l, x.fits) (_hm : l.length ≤ maxLen) :
    Calls Tryz.prog 3 #[.int .i64 sec, .slice a0 l.length c0] w fun e w' => e = .returned (.bool true) ∧ Below w.heap.size w w' := by
  obtain ⟨n, hn⟩ : ∃ n, l.length = n := ⟨_, rfl⟩
  have c1 := dknew_any sec w
  have c2 := fun W => rdnew_any sec W
  by_cases hsec : sec < 1 ∨ 4096 < sec
  · have e : Dsk.make sec = (Dsk.zero, 2) := if_pos hsec
    rw [e] at c1
    simp only [e] at c2
    rw [hn]
    have C1 := Lib.hid c1; have C2 := Lib.hid c2
    clear c1 c2 hr hfit hn e hsec
    go_enter Tryz.func3, Tryz.ntmps3
    go_wp2_with fail
    refine C1.out.mono ?_
    intro e w1 h1
    unfold NewK at h1
    rw [if_neg (by decide)] at h1
    obtain ⟨rfl, hb1⟩ := h1
    have HB1 := Lib.hid hb1
    clear hb1
    go_wp2_with fail
    refine (C2.out _).mono ?_
    rintro e w2 ⟨v, rfl, ⟨a, c, aL, cL, rfl, _, _, _⟩, hb2⟩
    have hb := HB1.out.trans (hb2.mono HB1.out.size)
    have hbn := hb.trans ((Below.refl w2.heap.size w2).alloc (Nat.le_refl _) (.cells (dskC Dsk.zero.sec a Dsk.zero.tp.length c aL Dsk.zero.L.length cL Dsk.zero.fu Dsk.zero.calls) 34) |>.mono hb.size)
    have HBN := Lib.hid hbn
    clear hb2 hb hbn
    go_wp2
    go_loopw [5, 9] (fun v i wr => i = .int .i64 0 ∧ v = .pointer none ∧ Below w.heap.size w wr) (fun _ i _ => 0)
    case atStart => exact ⟨rfl, rfl, HBN.out⟩
    case round =>
      obtain ⟨rfl, rfl, hbel⟩ := hrel
      have HBEL := Lib.hid hbel
      clear hbel
      by_cases h0 : (0 : Int) < (n : Int)
      · go_wp2_with fail
        refine (lives11_any _).mono ?_; rintro e w3 ⟨rfl, hb3⟩
        go_wp2
        go_ret
        exact ⟨rfl, HBEL.out.trans (hb3.mono HBEL.out.size)⟩
      · go_wp2_with fail
        refine (lives11_any _).mono ?_; rintro e w3 ⟨rfl, hb3⟩
        go_wp2
        go_ret
        exact ⟨rfl, HBEL.out.trans (hb3.mono HBEL.out.size)⟩
  · have e : Dsk.make sec = (Dsk.new sec, 0) := if_neg hsec
    have ok0 := Dsk.new_ok sec (by omega) (by omega)
    rw [e] at c1
    simp only [e] at c2
    rw [hn]
    have HN := Lib.hid hn; have HR := Lib.hid hr; have HFIT := Lib.hid hfit; have OK0 := Lib.hid ok0
    have C1 := Lib.hid c1; have C2 := Lib.hid c2
    clear c1 c2 hr hfit hn e hsec _hm ok0
    go_enter Tryz.func3, Tryz.ntmps3
    go_wp2_with fail
    refine C1.out.mono ?_
    intro e w1 h1
    unfold NewK at h1
    rw [if_pos rfl] at h1
    obtain ⟨f, S, rfl, hF, hS, hb1⟩ := h1
    have HF := Lib.hid hF; have HS := Lib.hid hS; have HB1 := Lib.hid hb1
    clear hF hS hb1
    go_wp2_with fail
    refine (C2.out _).mono ?_
    rintro e w2 ⟨v, rfl, ⟨a, c, aL, cL, rfl, hT, hL, hz⟩, hb2⟩
    have inv := inv11_new (D := Dsk.new sec) (c := c) (cL := cL) HF.out HS.out HB1.out OK0.out hT hL hz hb2
    have INV := Lib.hid inv
    clear inv hT hL hz hb2
    obtain ⟨g, hg⟩ : ∃ g, w2.heap.size = g := ⟨_, rfl⟩
    go_wp2
    rw [hg] at INV
    clear hg
    go_loopw [5, 9] (fun v i wr => ∃ (j : Nat) (f : Addr) (D : Dsk), j ≤ n ∧ j ≤ 30 ∧ i = .int .i64 j ∧ v = .pointer (some f) ∧ Inv11 w g f D j wr) (fun _ i _ => n - (intOf i).toNat)
    case atStart => exact ⟨0, f, Dsk.new sec, Nat.zero_le _, Nat.zero_le _, rfl, rfl, INV.out⟩
    case round =>
      obtain ⟨j, f, D, hj, hj30, rfl, rfl, hinv⟩ := hrel
      have b0 : (0 : Int) ≤ (j : Int) := by omega
      have J30 := Lib.hid hj30
      by_cases hlt : j < n
      · have b1 : (j : Int) < (n : Int) := by omega
        by_cases hlt2 : j < 30
        · have b2 : (j : Int) < 30 := by omega
          obtain ⟨S, a, c, aL, cL, hF, hok, hq, hT, hL, hz, hS, hgS, hg0, hbel⟩ := hinv
          have hjl : j < l.length := by rw [HN.out]; exact hlt
          obtain ⟨ad, rfl, hab, q0, q1, q2, q3, q4, q5⟩ := (HR.out.below (fun b hb => hb) hbel) j hjl
          have hxf := HFIT.out (l[j]'hjl) (List.getElem_mem hjl)
          obtain ⟨x, hx⟩ : ∃ x, l[j]'hjl = x := ⟨_, rfl⟩
          rw [hx] at q0 q1 q2 q3 q4 q5 hxf
          obtain ⟨xk, xn, xs, xt, xfk, xfn⟩ := x
          obtain ⟨_, ⟨m0, m1⟩, fs, ft, fk, fn⟩ := hxf
          simp only at q0 q1 q2 q3 q4 q5 m0 m1 fs ft fk fn
          clear hx
          by_cases h10 : xk = 10
          · subst h10
            have K0 := Lib.hid (D.ok_more hok (show j ≤ 199 by omega))
            have K1 := Lib.hid (Dsk.ok_more (D.create_ok hok kOver) (show j + 1 ≤ 199 by omega))
            have K2 := Lib.hid (Dsk.ok_more (Dsk.append_ok (D.create_ok hok kOver) kA kOver (by show 4 ≤ 200; omega)) (show j + 1 + 1 ≤ 199 by omega))
            have HFF := Lib.hid hF; have HOK := Lib.hid hok; have HQ := Lib.hid hq; have HT := Lib.hid hT; have HL := Lib.hid hL; have HZ := Lib.hid hz; have HS2 := Lib.hid hS; have HGS := Lib.hid hgS; have HBEL := Lib.hid hbel
            clear hF hok hq hT hL hz hS hgS hbel fk fn fs ft m0 m1
            go_wp2_with fail
            refine (dkcopy_any HFF.out K0.out).mono ?_
            rintro e w3 ⟨f3, S3, rfl, hF3, hS3, hb3⟩
            have hFo := HFF.out.below hb3
            have HF3 := Lib.hid hF3; have HS3 := Lib.hid hS3; have HB3 := Lib.hid hb3; have HFO := Lib.hid hFo
            clear hF3 hS3 hb3 hFo
            go_wp2_with fail
            refine (dkcreate_any HFO.out K0.out kOver kOver_le).mono ?_
            rintro e w4 ⟨rfl, S4, hF4, hA4, hS4⟩
            have HF4 := Lib.hid hF4; have HA4 := Lib.hid hA4; have HS4 := Lib.hid hS4
            clear hF4 hA4 hS4
            go_wp2_with fail
            refine (dkappend_any HF4.out K1.out kA kOver kA_le (by show 4 ≤ 200; omega)).mono ?_
            rintro e w5 ⟨rfl, S5, hF5, hA5, hS5⟩
            have hS5' : ∀ b ∈ S5, b ∈ S ∨ w3.heap.size ≤ b := fun b hb => by
              have z := HA4.out.size
              rcases hS5 b hb with h | h
              · exact HS4.out b h
              · exact .inr (by omega)
            have hA5' := HA4.out.trans hA5 HS4.out
            have HF5 := Lib.hid hF5; have HA5 := Lib.hid hA5'; have HS5 := Lib.hid hS5'
            clear hF5 hA5 hS5 hS5' hA5'
            go_wp2_with fail
            refine (dkcrash_any HF5.out K2.out kOnes (by show 4 ≤ 200; omega)).mono ?_
            rintro e w6 ⟨rfl, S6, hF6, hA6, hS6⟩
            have hA := HA5.out.trans hA6 HS5.out
            have i6 := inv11_copy HFF.out HOK.out HQ.out HT.out HL.out HZ.out HS2.out HGS.out hg0 HBEL.out HF3.out HS3.out HB3.out hA
            have I6 := Lib.hid i6
            clear hF6 hA6 hS6 hA i6
            go_wp2
            exact ⟨⟨j + 1, f3, D, hlt, hlt2, rfl, rfl, inv11_more I6.out (by omega)⟩, by simp [intOf]; omega⟩
          · have t10 : (xk == 10) = false := beq_eq_false_iff_ne.2 h10
            clear h10
            go_wp2_with fail
            have hok2 := stepD_ok hok xk xn xs xt xfk xfn fn.2
            have CA := fun (W : World) (hw : IsDk W S f D) (hP : ∀ b, Pq wr S g b → b < W.heap.size ∧ b ∉ S) (hT : Tps W (Pq wr S g) a D.tp) (hL : LLs W (Pq wr S g) aL D.L) => step11_any hw hok (by omega) a c aL cL _ hP hT hL hz xn xs xt xfk xfn m0 m1 fs ft fk fn xk
            obtain ⟨D2, hD2⟩ : ∃ D2, stepD D xk xn xs xt xfk xfn = D2 := ⟨_, rfl⟩
            rw [hD2] at hok2
            simp only [hD2] at CA
            clear hD2
            have hltS := hF.lt
            have hg1 := hq.lt
            have hbA := (Below.refl wr.heap.size wr).alloc (Nat.le_refl _) (.cells dskZ 34)
            have hbl : (ad.add (j * 6)).block = ad.block := by unfold Addr.add; split <;> rfl
            have hadl : (ad.add (j * 6)).block < wr.heap.size := by have := hbel.size; omega
            have a0 : (wr.alloc (.cells dskZ 34)).drew.cell? (ad.add (j * 6)) = _ := (hbA.cell (p := (ad.add (j * 6))) hadl).trans q0
            have a1 : (wr.alloc (.cells dskZ 34)).drew.cell? ⟨(ad.add (j * 6)).block, (ad.add (j * 6)).off + 1, none⟩ = _ := (hbA.cell (p := ⟨(ad.add (j * 6)).block, (ad.add (j * 6)).off + 1, none⟩) hadl).trans q1
            have a2 : (wr.alloc (.cells dskZ 34)).drew.cell? ⟨(ad.add (j * 6)).block, (ad.add (j * 6)).off + 2, none⟩ = _ := (hbA.cell (p := ⟨(ad.add (j * 6)).block, (ad.add (j * 6)).off + 2, none⟩) hadl).trans q2
            have a3 : (wr.alloc (.cells dskZ 34)).drew.cell? ⟨(ad.add (j * 6)).block, (ad.add (j * 6)).off + 3, none⟩ = _ := (hbA.cell (p := ⟨(ad.add (j * 6)).block, (ad.add (j * 6)).off + 3, none⟩) hadl).trans q3
            have a4 : (wr.alloc (.cells dskZ 34)).drew.cell? ⟨(ad.add (j * 6)).block, (ad.add (j * 6)).off + 4, none⟩ = _ := (hbA.cell (p := ⟨(ad.add (j * 6)).block, (ad.add (j * 6)).off + 4, none⟩) hadl).trans q4
            have a5 : (wr.alloc (.cells dskZ 34)).drew.cell? ⟨(ad.add (j * 6)).block, (ad.add (j * 6)).off + 5, none⟩ = _ := (hbA.cell (p := ⟨(ad.add (j * 6)).block, (ad.add (j * 6)).off + 5, none⟩) hadl).trans q5
            have d0 : wr.drew.cell? (ad.add (j * 6)) = _ := q0
            have d1 : wr.drew.cell? ⟨(ad.add (j * 6)).block, (ad.add (j * 6)).off + 1, none⟩ = _ := q1
            have d2 : wr.drew.cell? ⟨(ad.add (j * 6)).block, (ad.add (j * 6)).off + 2, none⟩ = _ := q2
            have d3 : wr.drew.cell? ⟨(ad.add (j * 6)).block, (ad.add (j * 6)).off + 3, none⟩ = _ := q3
            have d4 : wr.drew.cell? ⟨(ad.add (j * 6)).block, (ad.add (j * 6)).off + 4, none⟩ = _ := q4
            have d5 : wr.drew.cell? ⟨(ad.add (j * 6)).block, (ad.add (j * 6)).off + 5, none⟩ = _ := q5
            have hqA : Blk (wr.alloc (.cells dskZ 34)).drew g _ _ := hq.onto hbA.drew
            have hqB : Blk wr.drew g _ _ := hq
            obtain ⟨gA0, gA1, gA2, gA3, gA4, gA5, gA6, gA7, _, _, _, _, _, _, _, _⟩ := hqA.eight
            obtain ⟨gB0, gB1, gB2, gB3, gB4, gB5, gB6, gB7, _, _, _, _, _, _, _, _⟩ := hqB.eight
            have sY : (wr.alloc (.cells dskZ 34)).drew.heap.size = wr.heap.size + 1 := by show (wr.alloc _).heap.size = _; simp
            have cA := CA (wr.alloc (.cells dskZ 34)).drew (hF.below hbA.drew) (fun b hb => ⟨by rw [sY]; have := hb.1; omega, hb.2.1⟩) (hT.below (fun b hb => hb.1) hbA.drew) (hL.below (fun b hb => hb.1) hbA.drew)
            have cB := CA wr.drew (hF.below (Below.refl _ _).drew) (fun b hb => ⟨hb.1, hb.2.1⟩) hT hL
            have n7 : wr.heap.size ∉ S := fun hh => by have := hltS _ hh; omega
            have e7 : Blk (wr.alloc (.cells dskZ 34)).drew wr.heap.size dskZ 34 := Blk.new wr dskZ 34
            have CA1 := Lib.hid cA; have CB1 := Lib.hid cB; have E7 := Lib.hid e7; have N7 := Lib.hid n7; have HQ := Lib.hid hq; have HS2 := Lib.hid hS; have HGS := Lib.hid hgS; have HBEL := Lib.hid hbel; have HLT := Lib.hid hltS; have HOK2 := Lib.hid hok2; have SY := Lib.hid sY
            clear CA cA cB e7 n7 hz hS hgS hbel hltS hok2 hF hok hT hL hbA hbl hadl fs ft m0 m1 fk fn hqA hqB sY hq
            go_cut [11, 12] (fun v11 v12 wx => Aft11 w g f D2 v11 v12 wx)
            case first =>
              go_region_with (go_at_call 13; first
                | (refine CA1.out.mono ?_; rintro e w4 ⟨q, S4, rfl, hF4, hA4, hS4, ⟨a4, c4, aL4, cL4, rfl, hT4, hL4, hz4⟩⟩; have x0 : Blk w4 wr.heap.size dskZ 34 := (hA4.block _ (by rw [SY.out]; omega) N7.out).trans E7.out; obtain ⟨y0, y1, y2, y3, y4, y5, y6, y7, r0, r1, r2, r3, r4, r5, r6, r7⟩ := x0.eight; have HF4 := Lib.hid hF4; have HA4 := Lib.hid hA4; have HS4 := Lib.hid hS4; have HT4 := Lib.hid hT4; have HL4 := Lib.hid hL4; have HZ4 := Lib.hid hz4; clear hF4 hA4 hS4 hT4 hL4 hz4 x0)
                | (refine CB1.out.mono ?_; rintro e w4 ⟨q, S4, rfl, hF4, hA4, hS4, ⟨a4, c4, aL4, cL4, rfl, hT4, hL4, hz4⟩⟩; have HF4 := Lib.hid hF4; have HA4 := Lib.hid hA4; have HS4 := Lib.hid hS4; have HT4 := Lib.hid hT4; have HL4 := Lib.hid hL4; have HZ4 := Lib.hid hz4; clear hF4 hA4 hS4 hT4 hL4 hz4))
              all_goals
                go_wp2_with fail
                go_meet
                first
                  | (have yy := y0; clear yy; have hs4 := HS4.out; have ht4 := HT4.out; have hl4 := HL4.out; simp only [SY.out] at hs4 ht4 hl4; exact aft11_A HQ.out HS2.out HLT.out HGS.out hg0 HBEL.out HF4.out HA4.out hs4 ht4 hl4 HZ4.out)
                  | exact aft11_B HQ.out HS2.out HGS.out hg0 HBEL.out HF4.out HA4.out HS4.out HT4.out HL4.out HZ4.out
            case rest =>
              clear CA1 CB1 a0 d0 q0 gA0 gB0 a1 d1 q1 gA1 gB1 a2 d2 q2 gA2 gB2 a3 d3 q3 gA3 gB3 a4 d4 q4 gA4 gB4 a5 d5 q5 gA5 gB5 gA6 gA7 gB6 gB7 E7 N7 HQ HS2 HGS HBEL HLT SY hg1
              obtain ⟨g7, S7, a7, c7, aL7, cL7, x0, x1, x2, x3, x4, x5, x6, x7, rfl, rfl, hF7, k7, kg, hT7, hL7, hz7, hS7, hg7, hg07, hb7⟩ := hcut
              have inv := aft11_inv (c := c7) (cL := cL7) HOK2.out hF7 kg hT7 hL7 hz7 hS7 hg7 hg07 hb7
              have INV2 := Lib.hid inv
              obtain ⟨y0, y1, y2, y3, y4, y5, y6, y7, r0, r1, r2, r3, r4, r5, r6, r7⟩ := k7.eight
              obtain ⟨z0, z1, z2, z3, z4, z5, z6, z7, t0, t1, t2, t3, t4, t5, t6, t7⟩ := kg.eight
              clear inv hF7 hT7 hL7 hz7 hS7 hg7 hb7 k7 kg
              go_upto_region 18 with fail
              obtain ⟨wy, hwy⟩ : ∃ wy, ((((((((wc.setCell ⟨g, 0, none⟩ (.int .i64 D2.sec)).setCell ⟨g, 1, none⟩ (.slice a7 D2.tp.length c7)).setCell ⟨g, 2, none⟩ (.slice aL7 D2.L.length cL7)).setCell ⟨g, 3, none⟩ (.int .i64 D2.fu.p)).setCell ⟨g, 4, none⟩ (.int .i64 D2.fu.s)).setCell ⟨g, 5, none⟩ (.int .i64 D2.fu.d)).setCell ⟨g, 6, none⟩ (.bool D2.fu.off)).setCell ⟨g, 7, none⟩ (.int .i64 D2.calls)) = wy := ⟨_, rfl⟩
              have inv3 : Inv11 w g f D2 (j + 1) wy := by rw [← hwy]; exact INV2.out
              rw [hwy]
              have INV3 := Lib.hid inv3
              clear y0 r0 z0 t0 y1 r1 z1 t1 y2 r2 z2 t2 y3 r3 z3 t3 y4 r4 z4 t4 y5 r5 z5 t5 y6 r6 z6 t6 y7 r7 z7 t7 inv3 INV2 hwy hg07
              obtain ⟨Sy, ay, cy, aLy, cLy, hFy, hoky, hqy, hTy, hLy, hzy, hSy, hgSy, _, hby⟩ := INV3.out
              have cs := stands11_any (P := Pq wy Sy g) hFy hoky (by omega) (fun b hb => hb.1) ⟨ay, cy, aLy, cLy, rfl, hTy, hLy, hzy⟩
              have CS := Lib.hid cs
              obtain ⟨u0, u1, u2, u3, u4, u5, u6, u7, _, _, _, _, _, _, _, _⟩ := hqy.eight
              clear hFy hoky hqy hTy hLy hzy hSy hgSy hby cs
              go_wp2_with fail
              refine CS.out.mono ?_
              rintro e w6 ⟨rfl, hb6⟩
              have i6 := inv11_below INV3.out hb6
              have I6 := Lib.hid i6
              clear i6 hb6 u0 u1 u2 u3 u4 u5 u6 u7
              go_wp2
              exact ⟨⟨j + 1, f, D2, hlt, hlt2, rfl, rfl, I6.out⟩, by simp [intOf]; omega⟩
        · have b2 : ¬ (j : Int) < 30 := by omega
          have HBEL := Lib.hid (show Below w.heap.size w wr by obtain ⟨_, _, _, _, _, _, _, _, _, _, _, _, _, _, h⟩ := hinv; exact h)
          clear hinv
          go_wp2_with fail
          refine (lives11_any _).mono ?_; rintro e w3 ⟨rfl, hb3⟩
          go_wp2
          go_ret
          exact ⟨rfl, HBEL.out.trans (hb3.mono HBEL.out.size)⟩
      · have b1 : ¬ (j : Int) < (n : Int) := by omega
        have HBEL := Lib.hid (show Below w.heap.size w wr by obtain ⟨_, _, _, _, _, _, _, _, _, _, _, _, _, _, h⟩ := hinv; exact h)
        clear hinv
        go_wp2_with fail
        refine (lives11_any _).mono ?_; rintro e w3 ⟨rfl, hb3⟩
        go_wp2
        go_ret
        exact ⟨rfl, HBEL.out.trans (hb3.mono HBEL.out.size)⟩
end Go.Proofs.YtfgecjlccngddaaGreat
