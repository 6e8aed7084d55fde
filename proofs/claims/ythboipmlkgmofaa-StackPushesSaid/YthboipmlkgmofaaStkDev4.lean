/-
  The program's stacks (layer 24), fourth part: Pop; Undoes, Redoes.
-/
import Derived.Test.YthboipmlkgmofaaStkDev3
import Derived.Test.YthboipmlkgmofaaStepDev
namespace Go.Proofs.Ythboipmlkgmofaa
open Go.RowKit
set_option linter.unusedVariables false
set_option linter.unusedSimpArgs false

/-- What Pop tells of a stack that has steps. -/
def RetPop (w : World) (L : List (List Edt)) (s : List Edt) (e : Ending) (w' : World) : Prop :=
  ∃ a c l a2 c2, e = .returned (.tuple #[.slice a l.length c, stpV a2 s.length c2, .int .i64 0]) ∧ lsP l = L ∧ SRow w' w.heap.size ⟨a, l, c⟩ ∧ (∀ x ∈ l, ERow w' w.heap.size x) ∧ ERow w' w.heap.size ⟨a2, s, c2⟩ ∧ Below w.heap.size w w'

set_option maxRecDepth 100000 in
set_option maxHeartbeats 800000 in
theorem stk_pop_none (a : Option Addr) (c : Nat) (w : World) :
    Calls Try.prog 12 #[.slice a 0 c] w fun e w' => e = .returned (.tuple #[.slice none 0 0, stpV none 0 0, .int .i64 10]) ∧ Below w.heap.size w w' := by
  obtain ⟨W, hW⟩ : ∃ W, w.alloc (.cells #[.slice none 0 0] 25) = W := ⟨_, rfl⟩
  have hb0 : Below w.heap.size w W := by rw [← hW]; exact (Below.refl w.heap.size w).alloc (Nat.le_refl _) _
  have B := Blk.new w #[.slice none 0 0] 25
  rw [hW] at B
  have HB0 := Lib.hid hb0; have HBK := Lib.hid B; have cp := pop_none a c W
  have CP := Lib.hid cp
  clear hb0 B cp
  go_enter Try.func12, Try.ntmps12
  go_wp2_with fail
  refine CP.out.mono ?_
  rintro e w1 ⟨rfl, hb1⟩
  have B1 := HBK.out.onto hb1
  have B2 := B1.alloc (.cells #[.slice none 0 0] 25)
  have q2 : (w1.alloc (.cells #[.slice none 0 0] 25)).cell? ⟨w.heap.size, 0, none⟩ = some (.slice none 0 0) := B2.cell 0 _ rfl
  have q4 : ((w1.alloc (.cells #[.slice none 0 0] 25)).setCell ⟨w.heap.size, 0, none⟩ (.slice none 0 0)).cell? ⟨w.heap.size, 0, none⟩ = some (.slice none 0 0) := World.cell?_setCell_same' _ _ _ (by rw [q2]; rfl)
  have q3 := B2.free 0
  have HB1 := Lib.hid ((((HB0.out.trans (hb1.mono HB0.out.size)).alloc (Nat.le_trans HB0.out.size hb1.size) (.cells #[.slice none 0 0] 25))).setCell (p := ⟨w.heap.size, 0, none⟩) (Nat.le_refl _) (.slice none 0 0))
  clear B1 B2 hb1
  go_wp2
  refine bodyPost_ret (v := .tuple #[.slice none 0 0, stpV none 0 0, .int .i64 10]) (by simp [results, Try.results12, go_sem, q4]) rfl ?_
  exact ⟨rfl, HB1.out⟩

set_option maxRecDepth 100000 in
set_option maxHeartbeats 1600000 in
theorem stk_pop_some (a : Option Addr) (l : List EPc) (c k : Nat) (w : World) (hp : SPcs w ⟨a, l, c⟩) (hl : l.length = k + 1) (hk : k ≤ 900) (hb : ∀ x ∈ l, x.l.length ≤ 1000000) :
    Calls Try.prog 12 #[.slice a (k + 1 : Nat) c] w (RetPop w ((lsP l).take k) (l[k]!).l) := by
  obtain ⟨ad, ha, hab, hcell⟩ := hp.row k (by show k < l.length; omega)
  have ha : a = some ad := ha
  subst ha
  have hcell : w.cell? (ad.add k) = some (l[k]!).v := hcell
  have hx1 : EPcs w (l[k]!) := hp.all.at k (by show k < l.length; omega)
  have hx2 := hb (l[k]!) (by rw [epget (show k < l.length by omega)]; exact List.getElem_mem _)
  have hkc : k + 1 ≤ c := by have h : l.length ≤ c := hp.le; omega
  have hcm : c ≤ maxLen := hp.cap
  obtain ⟨y, hy⟩ : ∃ y, l[k]! = y := ⟨_, rfl⟩
  rw [hy] at hcell hx1 hx2 ⊢
  obtain ⟨W, hW⟩ : ∃ W, w.alloc (.cells #[.slice none 0 0] 25) = W := ⟨_, rfl⟩
  have hb0 : Below w.heap.size w W := by rw [← hW]; exact (Below.refl w.heap.size w).alloc (Nat.le_refl _) _
  have hbs : w.heap.size < W.heap.size := by rw [← hW]; simp
  have B := Blk.new w #[.slice none 0 0] 25
  rw [hW] at B
  have hlt := World.block_lt_of_cell? w _ hcell
  have cp := pop_some ad c k y W ((hb0.cell hlt).trans hcell) hkc hcm
  have hpt := (hp.later hb0).take k
  have hlk : (l.take k).length = k := by rw [List.length_take]; omega
  have ce := fun w2 (h : Below W.heap.size W w2) => each_any (some ad) (l.take k) c w2 (hpt.later h) (by omega) (fun x hx => hb x (List.mem_of_mem_take hx))
  rw [hlk, lsP_take] at ce
  obtain ⟨ya, yl, yc⟩ := y
  simp only at cp hx1 hx2 ⊢
  have co := fun w2 (h : Below W.heap.size W w2) => own_any ya yl yc w2 ((hx1.later hb0).later h) hx2
  obtain ⟨m, hm⟩ : ∃ m, yl.length = m := ⟨_, rfl⟩
  have co : ∀ w2, Below W.heap.size W w2 → Calls Try.prog 20 #[stpV ya m yc] w2 fun e w' => ∃ a2 c2, e = .returned (stpV a2 m c2) ∧ ERow w' w2.heap.size ⟨a2, yl, c2⟩ ∧ Below w2.heap.size w2 w' := fun w2 h => by rw [← hm]; exact co w2 h
  rw [hm] at cp
  have HM := Lib.hid hm
  have HB0 := Lib.hid hb0; have HBK := Lib.hid B; have CP := Lib.hid cp; have CE := Lib.hid ce; have CO := Lib.hid co; have HBS := Lib.hid hbs
  obtain ⟨L, hL⟩ : ∃ L, (lsP l).take k = L := ⟨_, rfl⟩
  rw [hL] at CE ⊢
  clear hb0 B cp ce co hp hl hb hx1 hx2 hcell hy hlt hpt hlk hm hkc hcm hab hbs hL
  go_enter Try.func12, Try.ntmps12
  go_wp2_with fail
  refine CP.out.mono ?_
  rintro e w1 ⟨rfl, hb1⟩
  have HW1 := Lib.hid (Nat.lt_of_lt_of_le HBS.out hb1.size)
  have HX := Lib.hid (Blk.new w1 #[.slice ya m yc] 25)
  have HK := Lib.hid ((HBK.out.onto hb1).alloc (.cells #[.slice ya m yc] 25))
  have HB1 := Lib.hid (hb1.alloc hb1.size (.cells #[.slice ya m yc] 25))
  obtain ⟨w2, hw2⟩ : ∃ w2, w1.alloc (.cells #[.slice ya m yc] 25) = w2 := ⟨_, rfl⟩
  rw [hw2] at HX HK HB1
  have x0 : w2.drew.cell? ⟨w1.heap.size, 0, none⟩ = some (.slice ya m yc) := HX.out.cell 0 _ rfl
  have HX1 := Lib.hid HX.out.lt
  clear hb1
  go_wp2
  go_region_with (first
    | (go_at_call 19; refine (CE.out _ HB1.out.drew).mono ?_; rintro e w3 ⟨a3, c3, l3, rfl, hl3, hr3, ⟨g3, -, hg3, hq3⟩, -, hb3⟩; have hb3 : Below w2.heap.size w2 w3 := ((Below.refl w2.heap.size w2).drew).trans hb3; have x1 := (hb3.cell (p := ⟨w1.heap.size, 0, none⟩) HX1.out).trans x0; have HB3 := Lib.hid hb3; have HR3 := Lib.hid hr3; have HQ3 := Lib.hid (fun x hx => (hq3 x hx).mono (b2 := w2.heap.size) (Nat.le_succ_of_le hg3)); have HL3 := Lib.hid hl3; clear hb3 hr3 hq3 hl3 hg3)
    | (go_at_call 20; refine (CO.out _ (HB1.out.trans (HB3.out.mono HB1.out.size))).mono ?_; rintro e w4 ⟨a4, c4, rfl, hr4, hb4⟩; have HB4 := Lib.hid (HB3.out.trans (hb4.mono HB3.out.size)); have HR4 := Lib.hid hr4; have HR5 := Lib.hid (HR3.out.below hb4); have HQ5 := Lib.hid (fun x hx => (HQ3.out x hx).below hb4); have k5 := HK.out.onto HB4.out; have x5 : w4.cell? ⟨w.heap.size, 0, none⟩ = some (.slice none 0 0) := k5.cell 0 _ rfl; have x6 := k5.free 0; clear hb4 hr4 k5))
  all_goals
    have q4 : (w4.setCell ⟨w.heap.size, 0, none⟩ (.slice a4 m c4)).cell? ⟨w.heap.size, 0, none⟩ = some (.slice a4 m c4) := World.cell?_setCell_same' _ _ _ (by rw [x5]; rfl)
    go_wp2
    refine bodyPost_ret (v := .tuple #[.slice a3 l3.length c3, stpV a4 m c4, .int .i64 0]) (by simp [results, Try.results12, go_sem, q4]) rfl ?_
    have hs2 : w.heap.size < w2.heap.size := Nat.lt_trans HW1.out HX1.out
    have hs3 : w.heap.size < w3.heap.size := Nat.lt_of_lt_of_le hs2 HB3.out.size
    exact ⟨a3, c3, l3, a4, c4, by rw [HM.out], HL3.out, (HR5.out.set (p := ⟨w.heap.size, 0, none⟩) hs2 x5 _).mono (Nat.le_of_lt hs2), fun x hx => ((HQ5.out x hx).set (p := ⟨w.heap.size, 0, none⟩) hs2 _).mono (Nat.le_of_lt hs2), (HR4.out.set (p := ⟨w.heap.size, 0, none⟩) hs3 _).mono (Nat.le_of_lt hs3), (HB0.out.trans ((HB1.out.trans (HB4.out.mono HB1.out.size)).mono HB0.out.size)).setCell (p := ⟨w.heap.size, 0, none⟩) (Nat.le_refl _) _⟩
end Go.Proofs.Ythboipmlkgmofaa
