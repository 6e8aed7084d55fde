/-
  Contracts of the program's frames: Lay.
-/
import Derived.Test.YtnbhdlcjpcbkbaaDoorFrameDev3
namespace Go.Proofs.YtnbhdlcjpcbkbaaDoor
open Go.RowKit
set_option linter.unusedVariables false

set_option maxRecDepth 100000 in
set_option maxHeartbeats 400000 in
theorem flay_no (ep sq : Int) (d : ByteArray) (hm : mayB ep sq = false) (w : World) :
    Calls Tryd.prog 8 #[.agg #[.int .i64 ep, .int .i64 sq, .string d]] w fun e w' => e = .returned (.tuple #[.string ⟨#[]⟩, .int .i64 3]) ∧ Below w.heap.size w w' := by
  have c1 := fmay_any ep sq d
  rw [hm] at c1
  have C1 := Lib.hid c1; clear c1 hm
  go_enter Tryd.func8, Tryd.ntmps8
  go_wp2_with fail
  refine (C1.out _).mono ?_; rintro e w1 ⟨rfl, hb1⟩
  go_wp2
  go_ret2
  exact ⟨rfl, ((Below.refl _ _).alloc (Nat.le_refl _) _).trans (hb1.mono (by simp))⟩
set_option maxRecDepth 100000 in
set_option maxHeartbeats 400000 in
theorem flay_long (ep sq : Int) (d : ByteArray) (hd : d.size ≤ maxLen) (hm : mayB ep sq = true) (h5 : 1024 < d.size) (w : World) :
    Calls Tryd.prog 8 #[.agg #[.int .i64 ep, .int .i64 sq, .string d]] w fun e w' => e = .returned (.tuple #[.string ⟨#[]⟩, .int .i64 6]) ∧ Below w.heap.size w w' := by
  have c1 := fmay_any ep sq d
  rw [hm] at c1
  unfold maxLen at hd
  have C1 := Lib.hid c1; clear c1 hm
  have HB := Lib.hid (Blk.new w #[.int .i64 ep, .int .i64 sq, .string d] 23)
  go_enter Tryd.func8, Tryd.ntmps8
  go_wp2_with fail
  refine (C1.out _).mono ?_; rintro e w1 ⟨rfl, hb1⟩
  obtain ⟨k0, k1, k2, -, -, -⟩ := (HB.out.onto hb1).three
  go_wp2
  go_ret2
  exact ⟨rfl, ((Below.refl _ _).alloc (Nat.le_refl _) _).trans (hb1.mono (by simp))⟩

theorem two_string (g : Nat) (W : World) (h0 : W.cell? ⟨g, 0, none⟩ = some (.int .u8 83)) (h1 : W.cell? ⟨g, 1, none⟩ = some (.int .u8 74)) :
    (convert 36 9 (.slice (some ⟨g, 0, none⟩) 2 2)).run Tryd.prog W = .ok (.string ⟨#[83, 74]⟩) W := by
  refine run_convert_bytes_back W 36 9 5 ⟨g, 0, none⟩ 2 [83, 74] Tryd.underlying36 Tryd.underlying5 Tryd.underlying9 fun j hj => ?_
  have hplain : (⟨g, 0, none⟩ : Addr).add j = ⟨g, 0 + j, none⟩ := by unfold Addr.add; split <;> simp_all
  rw [hplain, Nat.zero_add]
  rcases (show j = 0 ∨ j = 1 by simp at hj; omega) with rfl | rfl
  · exact h0
  · exact h1
/-- What Lay keeps while its last region runs. -/
def Ly (w0 : World) (b g : Nat) (d : ByteArray) (w' : World) : Prop :=
  Below w0.heap.size w0 w' ∧ w'.cell? ⟨b, 2, none⟩ = some (.string d) ∧ w'.cell? ⟨g, 0, none⟩ = some (.int .u8 83) ∧ w'.cell? ⟨g, 1, none⟩ = some (.int .u8 74) ∧ b < w'.heap.size ∧ g < w'.heap.size
theorem ly_call {w0 w' w1 : World} {b g : Nat} {d : ByteArray} (h : Ly w0 b g d w') (hb : Below w'.heap.size w' w1) : Ly w0 b g d w1 := by
  obtain ⟨h0, h1, h2, h3, h4, h5⟩ := h
  exact ⟨h0.trans (hb.mono h0.size), (hb.cell (p := ⟨b, 2, none⟩) h4).trans h1, (hb.cell (p := ⟨g, 0, none⟩) h5).trans h2, (hb.cell (p := ⟨g, 1, none⟩) h5).trans h3, Nat.lt_of_lt_of_le h4 hb.size, Nat.lt_of_lt_of_le h5 hb.size⟩
theorem ly_drew {w0 w' : World} {b g : Nat} {d : ByteArray} (h : Ly w0 b g d w') : Ly w0 b g d w'.drew := ⟨h.1.drew, h.2⟩

theorem blk_new2 (w : World) (o : Obj) (cs : Array Value) (T : TypeId) : Blk ((w.alloc o).alloc (.cells cs T)) (w.heap.size + 1) cs T := by simpa using Blk.new (w.alloc o) cs T
theorem below_two {w w1 w2 : World} {o p : Obj} (h : Below w.heap.size w w1) (hb : Below ((w1.alloc o).alloc p).heap.size ((w1.alloc o).alloc p) w2) : Below w.heap.size w w2 :=
  ((h.alloc h.size o).alloc (by have := h.size; simp; omega) p).trans (hb.mono (by have := h.size; simp; omega))
theorem below_one {w w1 w2 : World} {o : Obj} (h : Below w.heap.size w w1) (hb : Below (w1.alloc o).heap.size (w1.alloc o) w2) : Below w.heap.size w w2 :=
  (h.alloc h.size o).trans (hb.mono (by have := h.size; simp; omega))
theorem ly_new {w0 w2 : World} {b : Nat} {d : ByteArray} {T U : TypeId} {x y : Value} (h : Below w0.heap.size w0 w2) (hb : Blk w2 b #[x, y, .string d] T) :
    Ly w0 b w2.heap.size d (w2.alloc (.cells #[.int .u8 83, .int .u8 74] U)) := by
  have n := Blk.new w2 #[.int .u8 83, .int .u8 74] U
  have hb' := hb.alloc (.cells #[.int .u8 83, .int .u8 74] U)
  exact ⟨h.alloc h.size _, hb'.cell 2 _ rfl, n.cell 0 _ rfl, n.cell 1 _ rfl, hb'.lt, n.lt⟩

set_option maxRecDepth 100000 in
set_option maxHeartbeats 800000 in
theorem flay_ok (ep sq : Int) (d : ByteArray) (hm : mayB ep sq = true) (h5 : d.size ≤ 1024) (w : World) (hF : First w) :
    Calls Tryd.prog 8 #[.agg #[.int .i64 ep, .int .i64 sq, .string d]] w fun e w' => e = .returned (.tuple #[.string ⟨(frmL ep.toNat sq.toNat d.data.toList).toArray⟩, .int .i64 0]) ∧ Below w.heap.size w w' := by
  have hdl : d.data.toList.length = d.size := by simp
  obtain ⟨a1, a2, a3, a4⟩ := mayB_yes.1 hm
  have c1 := fmay_any ep sq d
  rw [hm] at c1
  have c2 := fput_any d.size ep sq
  rw [u64_nat _ (by omega), show u64 ep = ep.toNat by unfold u64; omega, show u64 sq = sq.toNat by unfold u64; omega] at c2
  obtain ⟨hd0, hhd⟩ : ∃ x : ByteArray, (⟨(leL d.size 2 ++ leL ep.toNat 4 ++ leL sq.toNat 4).toArray⟩ : ByteArray) = x := ⟨_, rfl⟩
  have hh : headL d.size ep.toNat sq.toNat = hd0.data.toList := by rw [← hhd]; rfl
  have sh : hd0.size = 10 := by
    have := headL_length d.size ep.toNat sq.toNat
    rw [hh] at this; simpa using this
  rw [hhd] at c2
  have c3 := fcheck_any hd0 d (by omega) h5
  obtain ⟨z, hz⟩ : ∃ z, addN 0 (hd0 ++ d).data.toList = z := ⟨_, rfl⟩
  have zl : z < 4294967296 := by rw [← hz]; exact addN_lt 0 _ (by omega)
  rw [hz] at c3
  have c5 := nput32_any (z : Int)
  rw [u64_nat _ (by omega)] at c5
  obtain ⟨x5, hx5⟩ : ∃ x : ByteArray, (⟨(leL z 4).toArray⟩ : ByteArray) = x := ⟨_, rfl⟩
  have s5 : x5.size = 4 := by rw [← hx5]; show (leL z 4).toArray.size = 4; rw [List.size_toArray, leL_length]
  have hres : (⟨#[83, 74]⟩ : ByteArray) ++ hd0 ++ x5 ++ d = ⟨(frmL ep.toNat sq.toNat d.data.toList).toArray⟩ := by
    refine str_ext ?_
    rw [app_list, app_list, app_list]
    show [83, 74] ++ hd0.data.toList ++ x5.data.toList ++ d.data.toList = (frmL ep.toNat sq.toNat d.data.toList).toArray.toList
    unfold frmL
    rw [hdl, hh, ← app_list, hz, ← hx5]
  rw [hx5] at c5
  have hs2 : ((⟨#[83, 74]⟩ : ByteArray) ++ hd0).size = 12 := by rw [ByteArray.size_append, sh]; rfl
  have hs3 : ((⟨#[83, 74]⟩ : ByteArray) ++ hd0 ++ x5).size = 16 := by rw [ByteArray.size_append, hs2, s5]
  have F4 : ¬ (9223372036854775807 < (⟨#[83, 74]⟩ : ByteArray).size + hd0.size) := by rw [sh]; decide
  have F4' : ¬ (9223372036854775807 < 2 + hd0.size) := by rw [sh]; decide
  have F5 : ¬ (9223372036854775807 < ((⟨#[83, 74]⟩ : ByteArray) ++ hd0).size + x5.size) := by omega
  have F5' : ¬ (9223372036854775807 < 2 + hd0.size + x5.size) := by omega
  have F6 : ¬ (9223372036854775807 < ((⟨#[83, 74]⟩ : ByteArray) ++ hd0 ++ x5).size + d.size) := by omega
  have F6' : ¬ (9223372036854775807 < 2 + hd0.size + x5.size + d.size) := by omega
  have HRES := Lib.hid hres
  have C1 := Lib.hid c1; have C2 := Lib.hid c2; have C3 := Lib.hid c3; have C5 := Lib.hid c5; have HF := Lib.hid hF
  clear c1 c2 c3 c5 hres hh hz hhd hx5 hdl s5 sh hs2 hs3 hm hF
  have HB := Lib.hid (Blk.new w #[.int .i64 ep, .int .i64 sq, .string d] 23)
  go_enter Tryd.func8, Tryd.ntmps8
  go_wp2_with fail
  refine (C1.out _).mono ?_; rintro e w1 ⟨rfl, hb1⟩
  have BB1 := Lib.hid (HB.out.onto hb1)
  obtain ⟨k0, k1, k2, -, -, -⟩ := BB1.out.three
  have HW1 := Lib.hid (((Below.refl w.heap.size w).alloc (Nat.le_refl _) (.cells #[.int .i64 ep, .int .i64 sq, .string d] 23)).trans (hb1.mono (by simp)))
  clear hb1
  go_wp2_with fail
  refine (C2.out _ _ _ (blk_new2 w1 _ _ _)).mono ?_; rintro e w2 ⟨rfl, hb2⟩
  have HW2 := Lib.hid (below_two HW1.out hb2)
  have BB2 := Lib.hid (((BB1.out.alloc _).alloc _).onto hb2)
  have HF2 := Lib.hid (HF.out.onto HW2.out)
  clear hb2 k0 k1 k2 BB1
  obtain ⟨f0, f1, f2⟩ := HF2.out
  go_wp2_with fail
  have LY := Lib.hid (ly_new (U := 44) HW2.out BB2.out)
  obtain ⟨g, hg⟩ : ∃ g, w2.heap.size = g := ⟨_, rfl⟩
  obtain ⟨w3, hw3⟩ : ∃ w3, w2.alloc (.cells #[.int .u8 83, .int .u8 74] 44) = w3 := ⟨_, rfl⟩
  rw [hg, hw3] at LY
  rw [hg, hw3]
  clear hg hw3 f0 f1 f2 HF2 BB2 HW2 HF
  obtain ⟨-, m0, m1, m2, -, -⟩ := LY.out
  have hconv := two_string g
  have zw : IntKind.i64.wrap (z : Int) = (z : Int) := IntWalk.i64_in _ (by omega)
  go_region_held3 (fun w' => Below w.heap.size w w' ∧ w'.cell? ⟨w.heap.size, 2, none⟩ = some (.string d) ∧ w'.cell? ⟨g, 0, none⟩ = some (.int .u8 83) ∧ w'.cell? ⟨g, 1, none⟩ = some (.int .u8 74) ∧ w.heap.size < w'.heap.size ∧ g < w'.heap.size)
    (first | exact ly_drew LY.out | exact ly_call (by assumption) hb1)
    (first
      | (go_at_call 20; refine (C3.out _).mono ?_; rintro e w1 ⟨rfl, hb1⟩)
      | (go_at_call 19; refine (C5.out _).mono ?_; rintro e w1 ⟨rfl, hb1⟩))
  have HL := Lib.hid (show Ly w w.heap.size g d _ by assumption)
  clear F4 F4' F5 F5' F6 F6' zw m0 m1 m2 hconv
  go_wp2
  go_ret2
  exact ⟨ret_si HRES.out rfl, HL.out.1⟩
theorem flay_any (ep sq : Int) (d : ByteArray) (hd : d.size ≤ maxLen) (w : World) (hF : First w) :
    Calls Tryd.prog 8 #[.agg #[.int .i64 ep, .int .i64 sq, .string d]] w fun e w' => e = .returned (.tuple #[.string (layS ep sq d), .int .i64 (layE ep sq d.size)]) ∧ Below w.heap.size w w' := by
  have hl : d.data.toList.length = d.size := by simp
  by_cases h : mayB ep sq = true
  · by_cases h5 : d.size ≤ 1024
    · obtain ⟨e1, e2⟩ := layS_ok d.data.toList (mayB_yes.1 h) (by omega)
      unfold layS; rw [hl] at e1; rw [e1, e2]
      exact flay_ok ep sq d h h5 w hF
    · obtain ⟨e1, e2⟩ := layS_long d.data.toList (mayB_yes.1 h) (by omega)
      unfold layS; rw [hl] at e1; rw [e1, e2]
      exact flay_long ep sq d hd h (by omega) w
  · have h' : mayB ep sq = false := by simpa using h
    obtain ⟨e1, e2⟩ := layS_no d.data.toList (mayB_no.1 h')
    unfold layS; rw [hl] at e1; rw [e1, e2]
    exact flay_no ep sq d h' w
end Go.Proofs.YtnbhdlcjpcbkbaaDoor
