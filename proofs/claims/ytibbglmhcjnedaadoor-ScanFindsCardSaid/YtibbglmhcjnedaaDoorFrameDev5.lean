/-
  Contracts of the program's frames: One.
-/
import Derived.Test.YtibbglmhcjnedaaDoorFrameDev4
namespace Go.Proofs.YtibbglmhcjnedaaDoor
open Go.RowKit
set_option linter.unusedVariables false

theorem one_bare {s : ByteArray} {e : Nat} (hw : ∀ w, First w → Calls Tryd.prog 37 #[.string s] w fun e' w' => e' = .returned (.tuple #[.int .i64 0, .int .i64 e]) ∧ Below w.heap.size w w') (h0 : e ≠ 0) (w : World) (hF : First w) :
    Calls Tryd.prog 26 #[.string s] w fun e' w' => e' = .returned (oneV 0 0 ⟨#[]⟩ 0 e) ∧ Below w.heap.size w w' := by
  have hF2 : First (w.alloc (.cells #[.int .i64 0, .int .i64 0, .string ⟨#[]⟩] 40)) := hF.onto ((Below.refl _ _).alloc (Nat.le_refl _) _)
  have C1 := Lib.hid (hw _ hF2)
  have HB := Lib.hid (Blk.new w #[.int .i64 0, .int .i64 0, .string ⟨#[]⟩] 40)
  have hz : ((e : Int) != 0) = true := by simp; omega
  have hz1 : ((e : Int) == 0) = false := by simp; omega
  clear hw hF hF2 h0
  go_enter Tryd.func26, Tryd.ntmps26
  go_wp2_with fail
  refine C1.out.mono ?_; rintro e w1 ⟨rfl, hb1⟩
  obtain ⟨k0, k1, k2, z0, z1, z2⟩ := (HB.out.onto hb1).three
  have HW := Lib.hid (below_one (Below.refl _ _) hb1)
  clear hb1
  go_wp2
  exact bodyPost_ret (v := oneV 0 0 ⟨#[]⟩ 0 e) (by simp [results, Tryd.results26, go_sem, k0, k1, k2]) rfl ⟨rfl, ((HW.out.setCell (Nat.le_refl _) _).setCell (Nat.le_refl _) _).setCell (Nat.le_refl _) _⟩

theorem blk_set0 {w : World} {b : Nat} {x y z : Value} {T : TypeId} (h : Blk w b #[x, y, z] T) (u : Value) : Blk (w.setCell ⟨b, 0, none⟩ u) b #[u, y, z] T := by simpa using h.set 0 u
theorem blk_set1 {w : World} {b : Nat} {x y z : Value} {T : TypeId} (h : Blk w b #[x, y, z] T) (u : Value) : Blk (w.setCell ⟨b, 1, none⟩ u) b #[x, u, z] T := by simpa using h.set 1 u
theorem setc_size (w : World) (p : Addr) (u : Value) : (w.setCell p u).heap.size = w.heap.size := by simp
/-- Two blocks of one's own: what was there is as it was. -/
def Own2 (w : World) (b g : Nat) (cs ds : Array Value) (T : TypeId) (w' : World) : Prop := Below w.heap.size w w' ∧ w.heap.size ≤ b ∧ b < g ∧ Blk w' b cs T ∧ Blk w' g ds T
theorem own2_call {w w' w1 : World} {b g : Nat} {cs ds : Array Value} {T : TypeId} (h : Own2 w b g cs ds T w') (hb : Below w'.heap.size w' w1) : Own2 w b g cs ds T w1 :=
  ⟨h.1.trans (hb.mono h.1.size), h.2.1, h.2.2.1, h.2.2.2.1.onto hb, h.2.2.2.2.onto hb⟩
theorem own2_set0 {w w' : World} {b g : Nat} {cs : Array Value} {x y z : Value} {T : TypeId} (h : Own2 w b g cs #[x, y, z] T w') (u : Value) : Own2 w b g cs #[u, y, z] T (w'.setCell ⟨g, 0, none⟩ u) :=
  ⟨h.1.setCell (by show w.heap.size ≤ g; have := h.2.1; have := h.2.2.1; omega) _, h.2.1, h.2.2.1, h.2.2.2.1.other _ (by show g ≠ b; have := h.2.2.1; omega) _, blk_set0 h.2.2.2.2 u⟩
theorem own2_set1 {w w' : World} {b g : Nat} {cs : Array Value} {x y z : Value} {T : TypeId} (h : Own2 w b g cs #[x, y, z] T w') (u : Value) : Own2 w b g cs #[x, u, z] T (w'.setCell ⟨g, 1, none⟩ u) :=
  ⟨h.1.setCell (by show w.heap.size ≤ g; have := h.2.1; have := h.2.2.1; omega) _, h.2.1, h.2.2.1, h.2.2.2.1.other _ (by show g ≠ b; have := h.2.2.1; omega) _, blk_set1 h.2.2.2.2 u⟩
theorem own2_new {w w' : World} {b : Nat} {cs ds : Array Value} {T : TypeId} (h : Below w.heap.size w w') (hb : w.heap.size ≤ b) (hB : Blk w' b cs T) : Own2 w b w'.heap.size cs ds T (w'.alloc (.cells ds T)) :=
  ⟨h.alloc h.size _, hb, hB.lt, hB.alloc _, Blk.new w' ds T⟩
theorem sets_below {w w' : World} {b : Nat} (h : Below w.heap.size w w') (hb : w.heap.size ≤ b) (x y z : Value) : Below w.heap.size w (((w'.setCell ⟨b, 0, none⟩ x).setCell ⟨b, 1, none⟩ y).setCell ⟨b, 2, none⟩ z) :=
  ((h.setCell hb _).setCell hb _).setCell hb _

set_option maxRecDepth 100000 in
set_option maxHeartbeats 1600000 in
theorem fone_sum (s : ByteArray) (hs : s.size ≤ maxLen) (h : 16 ≤ s.size) (hb : begB s.data.toList = true) (n x2 x3 x4 z : Nat) (hn : leN s.data.toList 2 2 = n) (hx2 : leN s.data.toList 4 4 = x2) (hx3 : leN s.data.toList 8 4 = x3) (hx4 : leN s.data.toList 12 4 = x4)
    (hz : addN 0 (s.extract 2 12 ++ s.extract 16 (16 + n)).data.toList = z) (hln : n ≤ 1024) (hla : 16 + n ≤ s.size) (hne : z ≠ x4) (w : World) (hF : First w) :
    Calls Tryd.prog 26 #[.string s] w fun e w' => e = .returned (oneV 0 0 ⟨#[]⟩ 0 19) ∧ Below w.heap.size w w' := by
  have hl : s.data.toList.length = s.size := by simp
  have hF2 : First (w.alloc (.cells #[.int .i64 0, .int .i64 0, .string ⟨#[]⟩] 40)) := hF.onto ((Below.refl _ _).alloc (Nat.le_refl _) _)
  have c1 := fwhole_ok s hs hb h n hn hln hla _ hF2
  have c2 := nget32_b s hs 12
  have c4 := nget32_b s hs 4
  have c5 := nget32_b s hs 8
  rw [show getI s.data.toList 12 4 = (leN s.data.toList 12 4, true) from getI_in _ 12 4 (by omega), hx4] at c2
  rw [show getI s.data.toList 4 4 = (leN s.data.toList 4 4, true) from getI_in _ 4 4 (by omega), hx2] at c4
  rw [show getI s.data.toList 8 4 = (leN s.data.toList 8 4, true) from getI_in _ 8 4 (by omega), hx3] at c5
  have b2 : x2 < 4294967296 := by rw [← hx2]; exact leN_lt _ 4 4
  have b3 : x3 < 4294967296 := by rw [← hx3]; exact leN_lt _ 4 8
  have b4 : x4 < 4294967296 := by rw [← hx4]; exact leN_lt _ 4 12
  have zl : z < 4294967296 := by rw [← hz]; exact addN_lt 0 _ (by omega)
  have c3 := fcheck_any (s.extract 2 12) (s.extract 16 (16 + n)) (by simp; omega) (by simp; omega)
  rw [hz] at c3
  have c6 := fmay_any x2 x3 (s.extract 16 (16 + n))
  obtain ⟨t, ht⟩ : ∃ t, 16 + n = t := ⟨_, rfl⟩
  rw [ht] at c1 c3 c6 hla hz
  have t0 : 16 ≤ t := by omega
  have t1 : (16 : Int) ≤ (t : Int) := by omega
  have t2 : (t : Int) ≤ (s.size : Int) := by omega
  have t3 : (12 : Int) ≤ (s.size : Int) := by omega
  have t4 : 12 ≤ s.size := by omega
  unfold maxLen at hs
  obtain ⟨dt, hdt⟩ : ∃ d, s.extract 16 t = d := ⟨_, rfl⟩
  obtain ⟨ah, hah⟩ : ∃ d, s.extract 2 12 = d := ⟨_, rfl⟩
  rw [hdt] at c3 c6 hz
  rw [hah] at c3 hz
  have HDT := Lib.hid hdt; have HAH := Lib.hid hah
  have C1 := Lib.hid c1; have C2 := Lib.hid c2; have C3 := Lib.hid c3; have C4 := Lib.hid c4; have C5 := Lib.hid c5
  have HB := Lib.hid (Blk.new w #[.int .i64 0, .int .i64 0, .string ⟨#[]⟩] 40)
  have q1 : ((x4 : Int) != (z : Int)) = true := by simp; omega
  clear hne
  clear c1 c2 c3 c4 c5 c6 hz hx2 hx3 hx4 hn hl hF hF2 hb ht hln hdt hah
  go_enter Tryd.func26, Tryd.ntmps26
  go_wp2_with fail
  refine C1.out.mono ?_; rintro e w1 ⟨rfl, hb1⟩
  have BB := Lib.hid (HB.out.onto hb1)
  have HW := Lib.hid (below_one (Below.refl _ _) hb1)
  clear hb1
  go_wp2_with fail
  refine (C2.out _).mono ?_; rintro e w2 ⟨rfl, hb2⟩
  have BB2 := Lib.hid (BB.out.onto hb2)
  have HW2 := Lib.hid (HW.out.trans (hb2.mono HW.out.size))
  clear hb2 BB HW
  go_wp2_with fail
  rw [HDT.out, HAH.out]
  refine (C3.out _).mono ?_; rintro e w3 ⟨rfl, hb3⟩
  have BB3 := Lib.hid (BB2.out.onto hb3)
  have HW3 := Lib.hid (HW2.out.trans (hb3.mono HW2.out.size))
  clear hb3 BB2 HW2
  obtain ⟨k0, k1, k2, z0, z1, z2⟩ := BB3.out.three
  have hb0 := Nat.le_refl w.heap.size
  go_wp2
  exact bodyPost_ret (v := oneV 0 0 ⟨#[]⟩ 0 19) (by simp [results, Tryd.results26, go_sem, k0, k1, k2]) rfl ⟨rfl, sets_below HW3.out hb0 _ _ _⟩

set_option maxRecDepth 100000 in
set_option maxHeartbeats 1600000 in
theorem fone_no (s : ByteArray) (hs : s.size ≤ maxLen) (h : 16 ≤ s.size) (hb : begB s.data.toList = true) (n x2 x3 x4 z : Nat) (hn : leN s.data.toList 2 2 = n) (hx2 : leN s.data.toList 4 4 = x2) (hx3 : leN s.data.toList 8 4 = x3) (hx4 : leN s.data.toList 12 4 = x4)
    (hz : addN 0 (s.extract 2 12 ++ s.extract 16 (16 + n)).data.toList = z) (hln : n ≤ 1024) (hla : 16 + n ≤ s.size) (hne : z = x4) (hm : mayB x2 x3 = false) (w : World) (hF : First w) :
    Calls Tryd.prog 26 #[.string s] w fun e w' => e = .returned (oneV 0 0 ⟨#[]⟩ 0 3) ∧ Below w.heap.size w w' := by
  have hl : s.data.toList.length = s.size := by simp
  have hF2 : First (w.alloc (.cells #[.int .i64 0, .int .i64 0, .string ⟨#[]⟩] 40)) := hF.onto ((Below.refl _ _).alloc (Nat.le_refl _) _)
  have c1 := fwhole_ok s hs hb h n hn hln hla _ hF2
  have c2 := nget32_b s hs 12
  have c4 := nget32_b s hs 4
  have c5 := nget32_b s hs 8
  rw [show getI s.data.toList 12 4 = (leN s.data.toList 12 4, true) from getI_in _ 12 4 (by omega), hx4] at c2
  rw [show getI s.data.toList 4 4 = (leN s.data.toList 4 4, true) from getI_in _ 4 4 (by omega), hx2] at c4
  rw [show getI s.data.toList 8 4 = (leN s.data.toList 8 4, true) from getI_in _ 8 4 (by omega), hx3] at c5
  have b2 : x2 < 4294967296 := by rw [← hx2]; exact leN_lt _ 4 4
  have b3 : x3 < 4294967296 := by rw [← hx3]; exact leN_lt _ 4 8
  have b4 : x4 < 4294967296 := by rw [← hx4]; exact leN_lt _ 4 12
  have zl : z < 4294967296 := by rw [← hz]; exact addN_lt 0 _ (by omega)
  have c3 := fcheck_any (s.extract 2 12) (s.extract 16 (16 + n)) (by simp; omega) (by simp; omega)
  rw [hz] at c3
  have c6 := fmay_any x2 x3 (s.extract 16 (16 + n))
  obtain ⟨t, ht⟩ : ∃ t, 16 + n = t := ⟨_, rfl⟩
  rw [ht] at c1 c3 c6 hla hz
  have t0 : 16 ≤ t := by omega
  have t1 : (16 : Int) ≤ (t : Int) := by omega
  have t2 : (t : Int) ≤ (s.size : Int) := by omega
  have t3 : (12 : Int) ≤ (s.size : Int) := by omega
  have t4 : 12 ≤ s.size := by omega
  unfold maxLen at hs
  obtain ⟨dt, hdt⟩ : ∃ d, s.extract 16 t = d := ⟨_, rfl⟩
  obtain ⟨ah, hah⟩ : ∃ d, s.extract 2 12 = d := ⟨_, rfl⟩
  rw [hdt] at c3 c6 hz
  rw [hah] at c3 hz
  have HDT := Lib.hid hdt; have HAH := Lib.hid hah
  have C1 := Lib.hid c1; have C2 := Lib.hid c2; have C3 := Lib.hid c3; have C4 := Lib.hid c4; have C5 := Lib.hid c5
  have HB := Lib.hid (Blk.new w #[.int .i64 0, .int .i64 0, .string ⟨#[]⟩] 40)
  subst hne
  rw [hm] at c6
  have C6 := Lib.hid c6
  clear hm
  clear c1 c2 c3 c4 c5 c6 hz hx2 hx3 hx4 hn hl hF hF2 hb ht hln hdt hah
  go_enter Tryd.func26, Tryd.ntmps26
  go_wp2_with fail
  refine C1.out.mono ?_; rintro e w1 ⟨rfl, hb1⟩
  have BB := Lib.hid (HB.out.onto hb1)
  have HW := Lib.hid (below_one (Below.refl _ _) hb1)
  clear hb1
  go_wp2_with fail
  refine (C2.out _).mono ?_; rintro e w2 ⟨rfl, hb2⟩
  have BB2 := Lib.hid (BB.out.onto hb2)
  have HW2 := Lib.hid (HW.out.trans (hb2.mono HW.out.size))
  clear hb2 BB HW
  go_wp2_with fail
  rw [HDT.out, HAH.out]
  refine (C3.out _).mono ?_; rintro e w3 ⟨rfl, hb3⟩
  have BB3 := Lib.hid (BB2.out.onto hb3)
  have HW3 := Lib.hid (HW2.out.trans (hb3.mono HW2.out.size))
  clear hb3 BB2 HW2
  obtain ⟨k0, k1, k2, z0, z1, z2⟩ := BB3.out.three
  have O3 := Lib.hid (own2_new (ds := #[.int .i64 0, .int .i64 0, .string dt]) HW3.out (Nat.le_refl _) BB3.out)
  clear HW3 BB3
  go_wp2_with fail
  obtain ⟨g, hg⟩ : ∃ g, w3.heap.size = g := ⟨_, rfl⟩
  obtain ⟨v3, hv3⟩ : ∃ v, w3.alloc (.cells #[.int .i64 0, .int .i64 0, .string dt] 40) = v := ⟨_, rfl⟩
  rw [hg, hv3] at O3
  rw [hg, hv3]
  clear k0 k1 k2 z0 z1 z2 hg hv3
  refine (C4.out _).mono ?_; rintro e w4 ⟨rfl, hb4⟩
  have O4 := Lib.hid (own2_call O3.out hb4)
  clear hb4 O3
  obtain ⟨y0, y1, y2, x0, x1, x2'⟩ := O4.out.2.2.2.2.three
  go_wp2_with fail
  have O5 := Lib.hid (own2_set0 O4.out (.int .i64 x2))
  clear y0 y1 y2 x0 x1 x2' O4
  refine (C5.out _).mono ?_; rintro e w5 ⟨rfl, hb5⟩
  have O6 := Lib.hid (own2_call O5.out hb5)
  clear hb5 O5
  obtain ⟨y0, y1, y2, x0, x1, x2'⟩ := O6.out.2.2.2.2.three
  go_wp2_with fail
  have O7 := Lib.hid (own2_set1 O6.out (.int .i64 x3))
  clear y0 y1 y2 x0 x1 x2' O6
  refine (C6.out _).mono ?_; rintro e w6 ⟨rfl, hb6⟩
  have O8 := Lib.hid (own2_call O7.out hb6)
  clear hb6 O7
  obtain ⟨y0, y1, y2, x0, x1, x2'⟩ := O8.out.2.2.2.2.three
  obtain ⟨k0, k1, k2, z0, z1, z2⟩ := O8.out.2.2.2.1.three
  have hb0 := Nat.le_refl w.heap.size
  go_wp2
  exact bodyPost_ret (v := oneV 0 0 ⟨#[]⟩ 0 3) (by simp [results, Tryd.results26, go_sem, k0, k1, k2]) rfl ⟨rfl, sets_below O8.out.1 hb0 _ _ _⟩

set_option maxRecDepth 100000 in
set_option maxHeartbeats 1600000 in
theorem fone_ok (s : ByteArray) (hs : s.size ≤ maxLen) (h : 16 ≤ s.size) (hb : begB s.data.toList = true) (n x2 x3 x4 z : Nat) (hn : leN s.data.toList 2 2 = n) (hx2 : leN s.data.toList 4 4 = x2) (hx3 : leN s.data.toList 8 4 = x3) (hx4 : leN s.data.toList 12 4 = x4)
    (hz : addN 0 (s.extract 2 12 ++ s.extract 16 (16 + n)).data.toList = z) (hln : n ≤ 1024) (hla : 16 + n ≤ s.size) (hne : z = x4) (hm : mayB x2 x3 = true) (w : World) (hF : First w) :
    Calls Tryd.prog 26 #[.string s] w fun e w' => e = .returned (oneV x2 x3 (s.extract 16 (16 + n)) (16 + n) 0) ∧ Below w.heap.size w w' := by
  have hl : s.data.toList.length = s.size := by simp
  have hF2 : First (w.alloc (.cells #[.int .i64 0, .int .i64 0, .string ⟨#[]⟩] 40)) := hF.onto ((Below.refl _ _).alloc (Nat.le_refl _) _)
  have c1 := fwhole_ok s hs hb h n hn hln hla _ hF2
  have c2 := nget32_b s hs 12
  have c4 := nget32_b s hs 4
  have c5 := nget32_b s hs 8
  rw [show getI s.data.toList 12 4 = (leN s.data.toList 12 4, true) from getI_in _ 12 4 (by omega), hx4] at c2
  rw [show getI s.data.toList 4 4 = (leN s.data.toList 4 4, true) from getI_in _ 4 4 (by omega), hx2] at c4
  rw [show getI s.data.toList 8 4 = (leN s.data.toList 8 4, true) from getI_in _ 8 4 (by omega), hx3] at c5
  have b2 : x2 < 4294967296 := by rw [← hx2]; exact leN_lt _ 4 4
  have b3 : x3 < 4294967296 := by rw [← hx3]; exact leN_lt _ 4 8
  have b4 : x4 < 4294967296 := by rw [← hx4]; exact leN_lt _ 4 12
  have zl : z < 4294967296 := by rw [← hz]; exact addN_lt 0 _ (by omega)
  have c3 := fcheck_any (s.extract 2 12) (s.extract 16 (16 + n)) (by simp; omega) (by simp; omega)
  rw [hz] at c3
  have c6 := fmay_any x2 x3 (s.extract 16 (16 + n))
  obtain ⟨t, ht⟩ : ∃ t, 16 + n = t := ⟨_, rfl⟩
  rw [ht] at c1 c3 c6 hla hz ⊢
  have t0 : 16 ≤ t := by omega
  have t1 : (16 : Int) ≤ (t : Int) := by omega
  have t2 : (t : Int) ≤ (s.size : Int) := by omega
  have t3 : (12 : Int) ≤ (s.size : Int) := by omega
  have t4 : 12 ≤ s.size := by omega
  unfold maxLen at hs
  obtain ⟨dt, hdt⟩ : ∃ d, s.extract 16 t = d := ⟨_, rfl⟩
  obtain ⟨ah, hah⟩ : ∃ d, s.extract 2 12 = d := ⟨_, rfl⟩
  rw [hdt] at c3 c6 hz ⊢
  rw [hah] at c3 hz
  have HDT := Lib.hid hdt; have HAH := Lib.hid hah
  have C1 := Lib.hid c1; have C2 := Lib.hid c2; have C3 := Lib.hid c3; have C4 := Lib.hid c4; have C5 := Lib.hid c5
  have HB := Lib.hid (Blk.new w #[.int .i64 0, .int .i64 0, .string ⟨#[]⟩] 40)
  subst hne
  rw [hm] at c6
  have C6 := Lib.hid c6
  clear hm
  clear c1 c2 c3 c4 c5 c6 hz hx2 hx3 hx4 hn hl hF hF2 hb ht hln hdt hah
  go_enter Tryd.func26, Tryd.ntmps26
  go_wp2_with fail
  refine C1.out.mono ?_; rintro e w1 ⟨rfl, hb1⟩
  have BB := Lib.hid (HB.out.onto hb1)
  have HW := Lib.hid (below_one (Below.refl _ _) hb1)
  clear hb1
  go_wp2_with fail
  refine (C2.out _).mono ?_; rintro e w2 ⟨rfl, hb2⟩
  have BB2 := Lib.hid (BB.out.onto hb2)
  have HW2 := Lib.hid (HW.out.trans (hb2.mono HW.out.size))
  clear hb2 BB HW
  go_wp2_with fail
  rw [HDT.out, HAH.out]
  refine (C3.out _).mono ?_; rintro e w3 ⟨rfl, hb3⟩
  have BB3 := Lib.hid (BB2.out.onto hb3)
  have HW3 := Lib.hid (HW2.out.trans (hb3.mono HW2.out.size))
  clear hb3 BB2 HW2
  obtain ⟨k0, k1, k2, z0, z1, z2⟩ := BB3.out.three
  have O3 := Lib.hid (own2_new (ds := #[.int .i64 0, .int .i64 0, .string dt]) HW3.out (Nat.le_refl _) BB3.out)
  clear HW3 BB3
  go_wp2_with fail
  obtain ⟨g, hg⟩ : ∃ g, w3.heap.size = g := ⟨_, rfl⟩
  obtain ⟨v3, hv3⟩ : ∃ v, w3.alloc (.cells #[.int .i64 0, .int .i64 0, .string dt] 40) = v := ⟨_, rfl⟩
  rw [hg, hv3] at O3
  rw [hg, hv3]
  clear k0 k1 k2 z0 z1 z2 hg hv3
  refine (C4.out _).mono ?_; rintro e w4 ⟨rfl, hb4⟩
  have O4 := Lib.hid (own2_call O3.out hb4)
  clear hb4 O3
  obtain ⟨y0, y1, y2, x0, x1, x2'⟩ := O4.out.2.2.2.2.three
  go_wp2_with fail
  have O5 := Lib.hid (own2_set0 O4.out (.int .i64 x2))
  clear y0 y1 y2 x0 x1 x2' O4
  refine (C5.out _).mono ?_; rintro e w5 ⟨rfl, hb5⟩
  have O6 := Lib.hid (own2_call O5.out hb5)
  clear hb5 O5
  obtain ⟨y0, y1, y2, x0, x1, x2'⟩ := O6.out.2.2.2.2.three
  go_wp2_with fail
  have O7 := Lib.hid (own2_set1 O6.out (.int .i64 x3))
  clear y0 y1 y2 x0 x1 x2' O6
  refine (C6.out _).mono ?_; rintro e w6 ⟨rfl, hb6⟩
  have O8 := Lib.hid (own2_call O7.out hb6)
  clear hb6 O7
  obtain ⟨y0, y1, y2, x0, x1, x2'⟩ := O8.out.2.2.2.2.three
  obtain ⟨k0, k1, k2, z0, z1, z2⟩ := O8.out.2.2.2.1.three
  have hb0 := Nat.le_refl w.heap.size
  go_wp2
  exact bodyPost_ret (v := oneV x2 x3 dt t 0) (by simp [results, Tryd.results26, go_sem, k0, k1, k2]) rfl ⟨rfl, sets_below O8.out.1 hb0 _ _ _⟩

theorem begB_of {s : ByteArray} (h : ¬ begB s.data.toList = false) : begB s.data.toList = true := by simpa using h
theorem begB_two {s : ByteArray} (h0 : ∀ h : 0 < s.size, s[0].toNat = 83) (h1 : ∀ h : 1 < s.size, s[1].toNat = 74) : begB s.data.toList = true := by
  refine begB_of fun h => ?_
  rcases begB_no.1 h with ⟨a, b⟩ | ⟨a, b⟩
  · exact b (h0 a)
  · exact b (h1 a)
theorem fone_any (s : ByteArray) (hs : s.size ≤ maxLen) (w : World) (hF : First w) :
    Calls Tryd.prog 26 #[.string s] w fun e w' => e = .returned (oneV (oneEp s) (oneSq s) (oneD s) (oneN s) (frmE s.data.toList)) ∧ Below w.heap.size w w' := by
  refine one_join (S := First) s (fun h w hw => one_bare (e := 5) (fwhole_form s (begB_no.2 h)) (by omega) w hw)
    (fun a b c w hw => one_bare (e := 18) (fwhole_less s (begB_two b c) a) (by omega) w hw)
    (fun a b c n d e w hw => one_bare (e := 6) (fwhole_long s hs (begB_two (fun _ => b) (fun _ => c)) a n d e) (by omega) w hw)
    (fun a b c n d e f w hw => one_bare (e := 18) (fwhole_lack s hs (begB_two (fun _ => b) (fun _ => c)) a n d e f) (by omega) w hw)
    (fun a b c n x2 x3 x4 z d e f g h i j w hw => ?_) w hF
  have hb := begB_two (fun _ => b) (fun _ => c)
  by_cases k : z = x4
  · rw [if_pos k]
    by_cases m : x2 ≤ 999999 ∧ x3 ≤ 2147483647
    · rw [if_pos m]
      exact fone_ok s hs a hb n x2 x3 x4 z d e f g h i j k (mayB_yes.2 (by omega)) w hw
    · rw [if_neg m]
      exact fone_no s hs a hb n x2 x3 x4 z d e f g h i j k (mayB_no.2 (by omega)) w hw
  · rw [if_neg k]
    exact fone_sum s hs a hb n x2 x3 x4 z d e f g h i j k w hw
end Go.Proofs.YtibbglmhcjnedaaDoor
