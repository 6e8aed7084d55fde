/-
  The program's stacks (layer 24): pop, own, each.
-/
import Derived.Test.YthboipmlkgmofaaStkMath
import Derived.Test.YthboipmlkgmofaaStkCat
import Derived.Test.YthboipmlkgmofaaStepDev2
namespace Go.Proofs.Ythboipmlkgmofaa
open Go.RowKit
set_option linter.unusedVariables false
set_option linter.unusedSimpArgs false

set_option maxRecDepth 100000 in
set_option maxHeartbeats 800000 in
theorem pop_none (a : Option Addr) (c : Nat) (w : World) :
    Calls Try.prog 21 #[.slice a 0 c] w fun e w' => e = .returned (.tuple #[.slice none 0 0, stpV none 0 0, .bool false]) ∧ Below w.heap.size w w' := by
  have hb0 : Below w.heap.size w ((w.alloc (.cells #[.slice none 0 0] 25)).alloc (.cells #[.slice none 0 0] 25)).drew := (((Below.refl w.heap.size w).alloc (Nat.le_refl _) _).alloc (by simp) _).drew
  have HB := Lib.hid hb0; clear hb0
  go_enter Try.func21, Try.ntmps21
  go_wp2
  go_region
  all_goals go_wp2
  all_goals
    refine bodyPost_ret (v := .tuple #[.slice none 0 0, stpV none 0 0, .bool false]) (by simp [results, Try.results21, go_sem]) rfl ?_
    exact ⟨rfl, HB.out⟩
set_option maxRecDepth 100000 in
set_option maxHeartbeats 800000 in
theorem pop_some (ad : Addr) (c k : Nat) (y : EPc) (w : World) (hc : w.cell? (ad.add k) = some y.v) (hkc : k + 1 ≤ c) (hcm : c ≤ maxLen) :
    Calls Try.prog 21 #[.slice (some ad) (k + 1 : Nat) c] w fun e w' => e = .returned (.tuple #[.slice (some ad) k c, stpV y.a y.l.length y.c, .bool true]) ∧ Below w.heap.size w w' := by
  obtain ⟨ya, yl, yc⟩ := y
  simp only [EPc.v] at hc ⊢
  unfold maxLen at hcm
  obtain ⟨n, hn⟩ : ∃ n, yl.length = n := ⟨_, rfl⟩
  rw [hn] at hc ⊢
  have hlt := World.block_lt_of_cell? w _ hc
  rw [stk_block] at hlt
  obtain ⟨W, hW⟩ : ∃ W, w.alloc (.cells #[.slice none 0 0] 25) = W := ⟨_, rfl⟩
  have hb0 : Below w.heap.size w W := by rw [← hW]; exact (Below.refl w.heap.size w).alloc (Nat.le_refl _) _
  have B := Blk.new w #[.slice none 0 0] 25
  rw [hW] at B
  have q1 : W.drew.cell? (ad.add k) = some (.slice ya n yc) := (hb0.cell (p := ad.add k) (by rw [stk_block]; exact hlt)).trans hc
  have q2 : W.drew.cell? ⟨w.heap.size, 0, none⟩ = some (.slice none 0 0) := B.cell 0 _ rfl
  have q3 : W.drew.frozen? ⟨w.heap.size, 0, none⟩ = false := B.free 0
  have hb1 : k ≤ c := by omega
  have HB := Lib.hid (hb0.drew.setCell (p := ⟨w.heap.size, 0, none⟩) (Nat.le_refl _) (.slice ya n yc))
  have q4 : (W.setCell ⟨w.heap.size, 0, none⟩ (.slice ya n yc)).cell? ⟨w.heap.size, 0, none⟩ = some (.slice ya n yc) := World.cell?_setCell_same' _ _ _ (by rw [show W.cell? ⟨w.heap.size, 0, none⟩ = _ from q2]; rfl)
  clear hn hlt hb0 B hc
  go_enter Try.func21, Try.ntmps21
  go_wp2
  go_region
  all_goals go_wp2
  all_goals
    refine bodyPost_ret (v := .tuple #[.slice (some ad) k c, stpV ya n yc, .bool true]) (by simp [results, Try.results21, go_sem, q4]) rfl ?_
    exact ⟨rfl, HB.out⟩
set_option maxRecDepth 100000 in
set_option maxHeartbeats 800000 in
/-- A step with a row of its own. -/
theorem own_any (a : Option Addr) (l : List Edt) (c : Nat) (w : World) (hp : EPcs w ⟨a, l, c⟩) (hl : l.length ≤ 1000000) :
    Calls Try.prog 20 #[stpV a l.length c] w (RetStp w l) := by
  obtain ⟨W1, hW1⟩ : ∃ W1, w.alloc (.cells #[.slice a l.length c] 25) = W1 := ⟨_, rfl⟩
  obtain ⟨wX, hwX⟩ : ∃ wX, W1.alloc (.cells #[.slice none 0 0] 25) = wX := ⟨_, rfl⟩
  have b1 : Below w.heap.size w W1 := by rw [← hW1]; exact (Below.refl _ _).alloc (Nat.le_refl _) _
  have z1 : W1.heap.size = w.heap.size + 1 := by rw [← hW1]; simp
  have z3 : wX.heap.size = w.heap.size + 2 := by rw [← hwX]; simp [z1]
  have c3 : Below W1.heap.size W1 wX := by rw [← hwX]; exact (Below.refl _ _).alloc (Nat.le_refl _) _
  have B1 : Blk W1 w.heap.size #[.slice a l.length c] 25 := by rw [← hW1]; exact Blk.new _ _ _
  have B3 : Blk wX W1.heap.size #[.slice none 0 0] 25 := by rw [← hwX]; exact Blk.new _ _ _
  have B1 : Blk wX w.heap.size #[.slice a l.length c] 25 := B1.onto c3
  have hb0 : Below w.heap.size w wX := b1.trans (c3.mono (by omega))
  have x0 := B1.cell 0 _ rfl
  have x4 := B3.cell 0 _ rfl
  have x5 := B3.free 0
  have hpX : EPcs wX ⟨a, l, c⟩ := hp.later hb0
  cases a with
  | none =>
    have e0 : l = [] := hp.len rfl
    have e1 : c = 0 := hp.nil rfl
    subst e0
    subst e1
    have HB := Lib.hid (hb0.setCell (p := ⟨W1.heap.size, 0, none⟩) (by show w.heap.size ≤ W1.heap.size; omega) (.slice none 0 0))
    have hW1 : w.alloc (.cells #[.slice none 0 0] 25) = W1 := hW1
    have x0 : wX.cell? ⟨w.heap.size, 0, none⟩ = some (.slice none 0 0) := x0
    have q4 : (wX.setCell ⟨W1.heap.size, 0, none⟩ (.slice none 0 0)).cell? ⟨W1.heap.size, 0, none⟩ = some (.slice none 0 0) := World.cell?_setCell_same' _ _ _ (by rw [x4]; rfl)
    clear hp hpX hb0 B1 B3 c3 b1 hl z1 z3
    show Calls Try.prog 20 #[.agg #[.slice none 0 0]] w _
    go_enter Try.func20, Try.ntmps20
    go_wp2_with fail
    refine (eclone_nil _).mono ?_
    rintro e w2 ⟨rfl, rfl⟩
    go_wp2
    refine bodyPost_ret (v := stpV none 0 0) (by simp [results, Try.results20, go_sem, q4]) rfl ?_
    exact ⟨none, 0, rfl, ERow.empty _ _, HB.out⟩
  | some ad =>
    have cc := eclone_some ad l c wX hpX.row hl
    obtain ⟨n, hn⟩ : ∃ n, l.length = n := ⟨_, rfl⟩
    have CC := Lib.hid cc; have HN := Lib.hid hn; have HB0 := Lib.hid hb0; have HW1 := Lib.hid (show W1.heap.size < wX.heap.size by omega); have HWW := Lib.hid (show w.heap.size ≤ W1.heap.size by omega)
    rw [hn] at hW1 x0 CC ⊢
    clear hp hpX hb0 B1 B3 c3 b1 hl z1 z3 cc hn
    show Calls Try.prog 20 #[.agg #[.slice (some ad) n c]] w _
    go_enter Try.func20, Try.ntmps20
    go_wp2_with fail
    refine CC.out.mono ?_
    rintro e w2 ⟨v, rfl, hown, -, hb⟩
    have hown : w2.ownsRow wX.heap.size 38 3 v l.length (Edt.flat l) := by rw [HN.out]; exact hown
    obtain ⟨a2, c2, ev, hrow⟩ := own_erow hown
    rw [HN.out] at ev
    subst ev
    have y4 := (hb.cell (p := ⟨W1.heap.size, 0, none⟩) HW1.out).trans x4
    have y5 := (hb.frozen (p := ⟨W1.heap.size, 0, none⟩) HW1.out).trans x5
    have HB := Lib.hid ((HB0.out.trans (hb.mono HB0.out.size)).setCell (p := ⟨W1.heap.size, 0, none⟩) HWW.out (.slice a2 n c2))
    have HR := Lib.hid ((hrow.set (p := ⟨W1.heap.size, 0, none⟩) HW1.out (.slice a2 n c2)).mono HB0.out.size)
    have q4 : (w2.setCell ⟨W1.heap.size, 0, none⟩ (.slice a2 n c2)).cell? ⟨W1.heap.size, 0, none⟩ = some (.slice a2 n c2) := World.cell?_setCell_same' _ _ _ (by rw [y4]; rfl)
    clear hown hrow hb
    go_wp2
    refine bodyPost_ret (v := stpV a2 n c2) (by simp [results, Try.results20, go_sem, q4]) rfl ?_
    exact ⟨a2, c2, by rw [HN.out], HR.out, HB.out⟩
/-- The same step. -/
theorem same_step (a : Option Addr) (n c : Nat) (w : World) :
    Calls Try.prog 27 #[stpV a n c] w fun e w' => e = .returned (stpV a n c) ∧ Below w.heap.size w w' := by
  obtain ⟨W1, hW1⟩ : ∃ W1, w.alloc (.cells #[.slice a n c] 25) = W1 := ⟨_, rfl⟩
  obtain ⟨wX, hwX⟩ : ∃ wX, W1.alloc (.cells #[.slice none 0 0] 25) = wX := ⟨_, rfl⟩
  have b1 : Below w.heap.size w W1 := by rw [← hW1]; exact (Below.refl _ _).alloc (Nat.le_refl _) _
  have z1 : W1.heap.size = w.heap.size + 1 := by rw [← hW1]; simp
  have c3 : Below W1.heap.size W1 wX := by rw [← hwX]; exact (Below.refl _ _).alloc (Nat.le_refl _) _
  have B1 : Blk W1 w.heap.size #[.slice a n c] 25 := by rw [← hW1]; exact Blk.new _ _ _
  have B3 : Blk wX W1.heap.size #[.slice none 0 0] 25 := by rw [← hwX]; exact Blk.new _ _ _
  have B1 : Blk wX w.heap.size #[.slice a n c] 25 := B1.onto c3
  have HB := Lib.hid ((b1.trans (c3.mono (by omega))).setCell (p := ⟨W1.heap.size, 0, none⟩) (by show w.heap.size ≤ W1.heap.size; omega) (.slice a n c))
  have x0 := B1.cell 0 _ rfl
  have x4 := B3.cell 0 _ rfl
  have x5 := B3.free 0
  have q4 : (wX.setCell ⟨W1.heap.size, 0, none⟩ (.slice a n c)).cell? ⟨W1.heap.size, 0, none⟩ = some (.slice a n c) := World.cell?_setCell_same' _ _ _ (by rw [x4]; rfl)
  clear b1 c3 B1 B3 z1
  show Calls Try.prog 27 #[.agg #[.slice a n c]] w _
  go_enter Try.func27, Try.ntmps27
  go_wp2
  refine bodyPost_ret (v := stpV a n c) (by simp [results, Try.results27, go_sem, q4]) rfl ?_
  exact ⟨rfl, HB.out⟩
end Go.Proofs.Ythboipmlkgmofaa
