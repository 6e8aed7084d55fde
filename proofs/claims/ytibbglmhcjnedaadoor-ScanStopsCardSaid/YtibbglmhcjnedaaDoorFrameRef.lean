/-
  Contracts of the document's frames: Size, Lay, One.
-/
import Derived.Test.YtibbglmhcjnedaaDoorFrameMath
import Derived.Test.YtibbglmhcjnedaaDoorNumRef
import Derived.Deep.RegionHeld3
import Derived.BigQuiet
namespace Go.Proofs.YtibbglmhcjnedaaDoor
open Go.RowKit
set_option linter.unusedVariables false

theorem ret_si {a b : ByteArray} {n m : Int} (h1 : a = b) (h2 : n = m) : Ending.returned (.tuple #[.string a, .int .i64 n]) = .returned (.tuple #[.string b, .int .i64 m]) := by rw [h1, h2]
/-- A new block of three cells, and what came of the world since: nothing that was there is another one. -/
def Bx3 (w : World) (x y z : Value) (w' : World) : Prop :=
  Below w.heap.size w w' ∧ w.heap.size + 1 ≤ w'.heap.size ∧ w'.cell? ⟨w.heap.size, 0, none⟩ = some x ∧ w'.cell? ⟨w.heap.size, 1, none⟩ = some y ∧ w'.cell? ⟨w.heap.size, 2, none⟩ = some z
theorem bx3_new (w : World) (x y z : Value) (T : TypeId) : Bx3 w x y z (w.alloc (.cells #[x, y, z] T)) :=
  ⟨(Below.refl _ _).alloc (Nat.le_refl _) _, by simp, by simp [World.cell?_alloc_new], by simp [World.cell?_alloc_new], by simp [World.cell?_alloc_new]⟩
theorem bx3_drew {w w' : World} {x y z : Value} (h : Bx3 w x y z w') : Bx3 w x y z w'.drew := ⟨h.1.drew, h.2.1, h.2.2.1, h.2.2.2.1, h.2.2.2.2⟩
theorem bx3_call {w w' w1 : World} {x y z : Value} (h : Bx3 w x y z w') (hb : Below w'.heap.size w' w1) : Bx3 w x y z w1 := by
  obtain ⟨h0, hz, h1, h2, h3⟩ := h
  refine ⟨h0.trans (hb.mono h0.size), Nat.le_trans hz hb.size, (hb.cell ?_).trans h1, (hb.cell ?_).trans h2, (hb.cell ?_).trans h3⟩ <;> (show w.heap.size < w'.heap.size; omega)

/-- How long a frame of n bytes of data is. -/
def sizI (n : Int) : Int := if n < 0 then 16 else 16 + n
set_option maxRecDepth 100000 in
set_option maxHeartbeats 400000 in
theorem rlay_no (ep sq : Int) (d : ByteArray) (hd : d.size ≤ maxLen) (hm : ¬ (0 ≤ ep ∧ ep ≤ 999999 ∧ 0 ≤ sq ∧ sq ≤ 2147483647)) (w : World) :
    Calls Tryd.prog 22 #[.agg #[.int .i64 ep, .int .i64 sq, .string d]] w fun e w' => e = .returned (.tuple #[.string ⟨#[]⟩, .int .i64 3]) ∧ Below w.heap.size w w' := by
  unfold maxLen at hd
  by_cases h1 : ep < 0
  · go_enter Tryd.func22, Tryd.ntmps22
    go_wp2
    go_ret2
    exact ⟨rfl, (Below.refl _ _).alloc (Nat.le_refl _) _⟩
  by_cases h2 : 999999 < ep
  · go_enter Tryd.func22, Tryd.ntmps22
    go_wp2
    go_ret2
    exact ⟨rfl, (Below.refl _ _).alloc (Nat.le_refl _) _⟩
  by_cases h3 : sq < 0
  · go_enter Tryd.func22, Tryd.ntmps22
    go_wp2
    go_ret2
    exact ⟨rfl, (Below.refl _ _).alloc (Nat.le_refl _) _⟩
  have h4 : 2147483647 < sq := by omega
  clear hm
  go_enter Tryd.func22, Tryd.ntmps22
  go_wp2
  go_ret2
  exact ⟨rfl, (Below.refl _ _).alloc (Nat.le_refl _) _⟩

set_option maxRecDepth 100000 in
set_option maxHeartbeats 400000 in
theorem rlay_long (ep sq : Int) (d : ByteArray) (hd : d.size ≤ maxLen) (h1 : 0 ≤ ep) (h2 : ep ≤ 999999) (h3 : 0 ≤ sq) (h4 : sq ≤ 2147483647) (h5 : 1024 < d.size) (w : World) :
    Calls Tryd.prog 22 #[.agg #[.int .i64 ep, .int .i64 sq, .string d]] w fun e w' => e = .returned (.tuple #[.string ⟨#[]⟩, .int .i64 6]) ∧ Below w.heap.size w w' := by
  unfold maxLen at hd
  go_enter Tryd.func22, Tryd.ntmps22
  go_wp2
  go_ret2
  exact ⟨rfl, (Below.refl _ _).alloc (Nat.le_refl _) _⟩

set_option maxRecDepth 100000 in
set_option maxHeartbeats 800000 in
theorem rlay_ok (ep sq : Int) (d : ByteArray) (h1 : 0 ≤ ep) (h2 : ep ≤ 999999) (h3 : 0 ≤ sq) (h4 : sq ≤ 2147483647) (h5 : d.size ≤ 1024) (w : World) :
    Calls Tryd.prog 22 #[.agg #[.int .i64 ep, .int .i64 sq, .string d]] w fun e w' => e = .returned (.tuple #[.string ⟨(frmL ep.toNat sq.toNat d.data.toList).toArray⟩, .int .i64 0]) ∧ Below w.heap.size w w' := by
  have c1 := rput16_any (d.size : Int)
  have c2 := rput32_any ep
  have c3 := rput32_any sq
  have hdl : d.data.toList.length = d.size := by simp
  rw [u64_nat _ (by omega)] at c1
  rw [show u64 ep = ep.toNat by unfold u64; omega] at c2
  rw [show u64 sq = sq.toNat by unfold u64; omega] at c3
  obtain ⟨x1, hx1⟩ : ∃ x : ByteArray, (⟨(leL d.size 2).toArray⟩ : ByteArray) = x := ⟨_, rfl⟩
  obtain ⟨x2, hx2⟩ : ∃ x : ByteArray, (⟨(leL ep.toNat 4).toArray⟩ : ByteArray) = x := ⟨_, rfl⟩
  obtain ⟨x3, hx3⟩ : ∃ x : ByteArray, (⟨(leL sq.toNat 4).toArray⟩ : ByteArray) = x := ⟨_, rfl⟩
  have s1 : x1.size = 2 := by rw [← hx1]; show (leL d.size 2).toArray.size = 2; rw [List.size_toArray, leL_length]
  have s2 : x2.size = 4 := by rw [← hx2]; show (leL ep.toNat 4).toArray.size = 4; rw [List.size_toArray, leL_length]
  have s3 : x3.size = 4 := by rw [← hx3]; show (leL sq.toNat 4).toArray.size = 4; rw [List.size_toArray, leL_length]
  have hh : headL d.size ep.toNat sq.toNat = (x1 ++ x2 ++ x3).data.toList := by
    rw [app_list, app_list, ← hx1, ← hx2, ← hx3]; rfl
  rw [hx1] at c1; rw [hx2] at c2; rw [hx3] at c3
  obtain ⟨hd0, hhd⟩ : ∃ x, x1 ++ x2 ++ x3 = x := ⟨_, rfl⟩
  have sh : hd0.size = 10 := by rw [← hhd, ByteArray.size_append, ByteArray.size_append]; omega
  have c4 := rof_any (hd0 ++ d) (by unfold maxLen; rw [ByteArray.size_append]; omega)
  obtain ⟨z, hz⟩ : ∃ z, addN 0 (hd0 ++ d).data.toList = z := ⟨_, rfl⟩
  have zl : z < 4294967296 := by rw [← hz]; exact addN_lt 0 _ (by omega)
  rw [hz] at c4
  have c5 := rput32_any (z : Int)
  rw [u64_nat _ (by omega)] at c5
  obtain ⟨x5, hx5⟩ : ∃ x : ByteArray, (⟨(leL z 4).toArray⟩ : ByteArray) = x := ⟨_, rfl⟩
  have s5 : x5.size = 4 := by rw [← hx5]; show (leL z 4).toArray.size = 4; rw [List.size_toArray, leL_length]
  have hres : (⟨#[83, 74]⟩ : ByteArray) ++ hd0 ++ x5 ++ d = ⟨(frmL ep.toNat sq.toNat d.data.toList).toArray⟩ := by
    refine str_ext ?_
    rw [app_list, app_list, app_list]
    show [83, 74] ++ hd0.data.toList ++ x5.data.toList ++ d.data.toList = (frmL ep.toNat sq.toNat d.data.toList).toArray.toList
    unfold frmL
    rw [hdl, hh, hhd, ← app_list, hz, ← hx5]
  rw [hx5] at c5
  have hs1 : (x1 ++ x2).size = 6 := by rw [ByteArray.size_append]; omega
  have hs2 : ((⟨#[83, 74]⟩ : ByteArray) ++ hd0).size = 12 := by rw [ByteArray.size_append, sh]; rfl
  have hs3 : ((⟨#[83, 74]⟩ : ByteArray) ++ hd0 ++ x5).size = 16 := by rw [ByteArray.size_append, hs2, s5]
  have HRES := Lib.hid hres; have HHD := Lib.hid hhd
  have C1 := Lib.hid c1; have C2 := Lib.hid c2; have C3 := Lib.hid c3; have C4 := Lib.hid c4; have C5 := Lib.hid c5
  have F1 : ¬ (9223372036854775807 < x1.size + x2.size) := by omega
  have F2 : ¬ (9223372036854775807 < (x1 ++ x2).size + x3.size) := by omega
  have F2' : ¬ (9223372036854775807 < x1.size + x2.size + x3.size) := by omega
  have F3 : ¬ (9223372036854775807 < hd0.size + d.size) := by omega
  have F4 : ¬ (9223372036854775807 < (⟨#[83, 74]⟩ : ByteArray).size + hd0.size) := by rw [sh]; decide
  have F4' : ¬ (9223372036854775807 < 2 + hd0.size) := by rw [sh]; decide
  have F5 : ¬ (9223372036854775807 < ((⟨#[83, 74]⟩ : ByteArray) ++ hd0).size + x5.size) := by omega
  have F5' : ¬ (9223372036854775807 < 2 + hd0.size + x5.size) := by omega
  have F6 : ¬ (9223372036854775807 < ((⟨#[83, 74]⟩ : ByteArray) ++ hd0 ++ x5).size + d.size) := by omega
  have F6' : ¬ (9223372036854775807 < 2 + hd0.size + x5.size + d.size) := by omega
  have zw : IntKind.i64.wrap (z : Int) = (z : Int) := IntWalk.i64_in _ (by omega)
  clear c1 c2 c3 c4 c5 hres hh hz hx1 hx2 hx3 hx5 hdl s1 s2 s3 s5 sh hs1 hs2 hs3 hhd
  have B0 := Lib.hid (bx3_new w (.int .i64 ep) (.int .i64 sq) (.string d) 40)
  go_enter Tryd.func22, Tryd.ntmps22
  go_wp2_with fail
  go_region_held3 (fun w' => Below w.heap.size w w' ∧ w.heap.size + 1 ≤ w'.heap.size ∧ w'.cell? ⟨w.heap.size, 0, none⟩ = some (.int .i64 ep) ∧ w'.cell? ⟨w.heap.size, 1, none⟩ = some (.int .i64 sq) ∧ w'.cell? ⟨w.heap.size, 2, none⟩ = some (.string d))
    (first | exact bx3_drew B0.out | exact bx3_call (by assumption) hb1)
    (first
      | (go_at_call 29; refine (C1.out _).mono ?_; rintro e w1 ⟨rfl, hb1⟩)
      | (go_at_call 30; (with_reducible refine (C2.out _).mono ?_); rintro e w1 ⟨rfl, hb1⟩)
      | (go_at_call 30; (with_reducible refine (C3.out _).mono ?_); rintro e w1 ⟨rfl, hb1⟩))
  go_wp2_with fail
  rw [HHD.out]
  go_region_held3 (fun w' => Below w.heap.size w w' ∧ w.heap.size + 1 ≤ w'.heap.size ∧ w'.cell? ⟨w.heap.size, 0, none⟩ = some (.int .i64 ep) ∧ w'.cell? ⟨w.heap.size, 1, none⟩ = some (.int .i64 sq) ∧ w'.cell? ⟨w.heap.size, 2, none⟩ = some (.string d))
    (first | exact bx3_drew (by assumption) | exact bx3_call (by assumption) hb1)
    (first
      | (go_at_call 31; refine (C4.out _).mono ?_; rintro e w1 ⟨rfl, rfl⟩)
      | (go_at_call 30; (with_reducible refine (C5.out _).mono ?_); rintro e w1 ⟨rfl, hb1⟩))
  have HB := Lib.hid (show Bx3 w (.int .i64 ep) (.int .i64 sq) (.string d) _ by assumption)
  clear F1 F2 F2' F3 F4 F4' F5 F5' F6 F6' zw
  go_wp2
  go_ret2
  exact ⟨ret_si HRES.out rfl, HB.out.1⟩
theorem layS_no {ep sq : Int} (d : List UInt8) (h : ¬ (0 ≤ ep ∧ ep ≤ 999999 ∧ 0 ≤ sq ∧ sq ≤ 2147483647)) : layE ep sq d.length = 3 ∧ layL ep sq d = [] := by
  have e : layE ep sq d.length = 3 := by unfold layE; rw [if_neg (by rw [mayB_yes]; exact h)]
  exact ⟨e, by unfold layL; rw [e]; rfl⟩
theorem layS_long {ep sq : Int} (d : List UInt8) (h : 0 ≤ ep ∧ ep ≤ 999999 ∧ 0 ≤ sq ∧ sq ≤ 2147483647) (hd : 1024 < d.length) : layE ep sq d.length = 6 ∧ layL ep sq d = [] := by
  have e : layE ep sq d.length = 6 := by unfold layE; rw [if_pos (by rw [mayB_yes]; exact h), if_pos hd]
  exact ⟨e, by unfold layL; rw [e]; rfl⟩
theorem layS_ok {ep sq : Int} (d : List UInt8) (h : 0 ≤ ep ∧ ep ≤ 999999 ∧ 0 ≤ sq ∧ sq ≤ 2147483647) (hd : d.length ≤ 1024) : layE ep sq d.length = 0 ∧ layL ep sq d = frmL ep.toNat sq.toNat d := by
  have e : layE ep sq d.length = 0 := by unfold layE; rw [if_pos (by rw [mayB_yes]; exact h), if_neg (by omega)]
  exact ⟨e, by unfold layL; rw [e]; rfl⟩
/-- A frame's bytes, as a text. -/
def layS (ep sq : Int) (d : ByteArray) : ByteArray := ⟨(layL ep sq d.data.toList).toArray⟩
theorem rlay_any (ep sq : Int) (d : ByteArray) (hd : d.size ≤ maxLen) (w : World) :
    Calls Tryd.prog 22 #[.agg #[.int .i64 ep, .int .i64 sq, .string d]] w fun e w' => e = .returned (.tuple #[.string (layS ep sq d), .int .i64 (layE ep sq d.size)]) ∧ Below w.heap.size w w' := by
  have hl : d.data.toList.length = d.size := by simp
  by_cases h : 0 ≤ ep ∧ ep ≤ 999999 ∧ 0 ≤ sq ∧ sq ≤ 2147483647
  · by_cases h5 : d.size ≤ 1024
    · obtain ⟨e1, e2⟩ := layS_ok d.data.toList h (by omega)
      unfold layS; rw [hl] at e1; rw [e1, e2]
      exact rlay_ok ep sq d h.1 h.2.1 h.2.2.1 h.2.2.2 h5 w
    · obtain ⟨e1, e2⟩ := layS_long d.data.toList h (by omega)
      unfold layS; rw [hl] at e1; rw [e1, e2]
      exact rlay_long ep sq d hd h.1 h.2.1 h.2.2.1 h.2.2.2 (by omega) w
  · obtain ⟨e1, e2⟩ := layS_no d.data.toList h
    unfold layS; rw [hl] at e1; rw [e1, e2]
    exact rlay_no ep sq d hd h w
end Go.Proofs.YtibbglmhcjnedaaDoor
