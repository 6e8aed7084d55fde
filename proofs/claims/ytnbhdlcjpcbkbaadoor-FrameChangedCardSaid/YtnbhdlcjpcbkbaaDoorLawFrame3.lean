/-
  The law FrameChanged.
-/
import Derived.Test.YtnbhdlcjpcbkbaaDoorLawFrame
import Derived.Test.YtnbhdlcjpcbkbaaDoorOpenChg
namespace Go.Proofs.YtnbhdlcjpcbkbaaDoor
open Go.RowKit
set_option linter.unusedVariables false

theorem rowAt_bytes (w : World) (s : ByteArray) (cap : Nat) (e : TypeId) : RowAt (w.drew.alloc (.cells (bytesRow s cap) e ((bytesRow s cap).size, (bytesRow s cap).size + 1))) w.heap.size s.data.toList := by
  intro i hi
  have hi' : i < s.size := by simpa using hi
  have hsz : (bytesRow s cap).size = s.size + (cap - s.size) := by unfold bytesRow; rw [Array.size_append, Array.size_map, Array.size_replicate]; rfl
  refine ⟨?_, ?_⟩
  · rw [show w.heap.size = w.drew.heap.size from rfl, World.cell?_alloc_mark]
    unfold bytesRow
    rw [Array.getElem?_append_left (by simpa using hi'), Array.getElem?_map]
    have h2 : s.data[i]? = some (s.data.toList.getD i 0) := by
      rw [List.getD_eq_getElem?_getD, Array.getElem?_toList, Array.getElem?_eq_getElem (by simpa using hi')]; rfl
    rw [h2]; rfl
  · rw [show w.heap.size = w.drew.heap.size from rfl, World.frozen?_alloc_mark]
    simp; omega
theorem rowAt_put {W : World} {g : Nat} {l : List UInt8} (h : RowAt W g l) (k : Nat) (hk : k < l.length) (b : UInt8) :
    RowAt (W.setCell ⟨g, k, none⟩ (.int .u8 (b.toNat : Nat))) g (l.set k b) := by
  intro i hi
  obtain ⟨h1, h2⟩ := rowAt_set h k hk b i hi
  exact ⟨by simpa using h1, h2⟩
theorem xor_byte (old : UInt8) (p : Nat) (hp : p < 256) : Go.bits BinOp.xor IntKind.u8 ((old.toNat : Nat) : Int) (p : Int) = (((UInt8.ofNat (old.toNat ^^^ p)).toNat : Nat) : Int) ∧ (UInt8.ofNat (old.toNat ^^^ p)).toNat = old.toNat ^^^ p := by
  have hlt : old.toNat ^^^ p < 256 := Nat.xor_lt_two_pow (n := 8) old.toNat_lt hp
  have e2 : (UInt8.ofNat (old.toNat ^^^ p)).toNat = old.toNat ^^^ p := by show (old.toNat ^^^ p) % 256 = _; omega
  rw [e2]
  exact ⟨u8_xor_nat old.toNat p old.toNat_lt hp, rfl⟩

set_option maxRecDepth 100000 in
set_option maxHeartbeats 1600000 in
theorem frameChg_nn (ep sq : Int) (d : ByteArray) (p : Int) (b : Nat) (left : Int) (hb : b < 256) (hp0 : -9223372036854775808 ≤ p) (hp1 : p ≤ 9223372036854775807) (hl0 : -9223372036854775808 ≤ left) (hl1 : left ≤ 9223372036854775807) (h1 : d.size ≤ 1024) (hE : layE ep sq d.size = 0) (hl2 : left < 0) (hp2 : p < 0) (w : World) (hF : First w) :
    Calls Tryd.prog 6 #[.agg #[.int .i64 ep, .int .i64 sq, .string d], .agg #[.int .i64 p, .int .u8 b], .int .i64 left] w fun e w' => e = .returned (.bool true) ∧ Below w.heap.size w w' := by
  have HW0 := Lib.hid (((box_below w (.cells #[.int .i64 ep, .int .i64 sq, .string d] 23)).alloc (by simp) (.cells #[.int .i64 p, .int .u8 b] 35)).drew)
  have HB := Lib.hid (show Blk ((w.alloc (.cells #[.int .i64 ep, .int .i64 sq, .string d] 23)).alloc (.cells #[.int .i64 p, .int .u8 b] 35)).drew _ _ _ from (Blk.new w #[.int .i64 ep, .int .i64 sq, .string d] 23).alloc (.cells #[.int .i64 p, .int .u8 b] 35))
  have hF1 := hF.onto HW0.out
  have c1 := flay_any ep sq d (by unfold maxLen; omega) _ hF1
  obtain ⟨l1, ⟨l2, l3, l4, l5⟩, l6⟩ := layS_list hE
  have lz := layS_size hE
  rw [hE] at c1
  obtain ⟨y, hy⟩ : ∃ y, layS ep sq d = y := ⟨_, rfl⟩
  rw [hy] at c1 l1 lz
  have q1 : ((y.size : Int) == 16 + (d.size : Int)) = true := by simp; omega
  have q2 : (16 : Int) + (d.size : Int) ≤ (y.size : Int) := by omega
  have q3 : (y.size : Int) ≤ 1040 := by omega
  have q4 : decide ((y.size : Int) < 16 + (d.size : Int)) = false := by simp; omega
  have HF := Lib.hid hF1
  have C1 := Lib.hid c1; have HL := Lib.hid l1; have HZ := Lib.hid lz
  clear c1 l1 lz hy hE hF hF1
  go_enter Tryd.func6, Tryd.ntmps6
  go_wp2_with fail
  go_region
  go_wp2_with fail
  refine C1.out.mono ?_; rintro e w1 ⟨rfl, hb1⟩
  have BB := Lib.hid (HB.out.onto hb1)
  have HW1 := Lib.hid (HW0.out.trans (hb1.mono HW0.out.size))
  have HF1 := Lib.hid (HF.out.onto hb1)
  clear hb1 HF HB HW0
  obtain ⟨k0, k1, k2, -, -, -⟩ := BB.out.three
  go_wp2_with fail
  refine (lives12_any _ HF1.out).mono ?_; rintro e w5 ⟨rfl, hb5⟩
  go_wp2
  go_ret
  exact ⟨by simp, HW1.out.trans (hb5.mono HW1.out.size)⟩

set_option maxRecDepth 100000 in
set_option maxHeartbeats 1600000 in
theorem frameChg_nb (ep sq : Int) (d : ByteArray) (p : Int) (b : Nat) (left : Int) (hb : b < 256) (hp0 : -9223372036854775808 ≤ p) (hp1 : p ≤ 9223372036854775807) (hl0 : -9223372036854775808 ≤ left) (hl1 : left ≤ 9223372036854775807) (h1 : d.size ≤ 1024) (hE : layE ep sq d.size = 0) (hl2 : left < 0) (hp2 : 0 ≤ p) (hp3 : d.size ≤ p) (w : World) (hF : First w) :
    Calls Tryd.prog 6 #[.agg #[.int .i64 ep, .int .i64 sq, .string d], .agg #[.int .i64 p, .int .u8 b], .int .i64 left] w fun e w' => e = .returned (.bool true) ∧ Below w.heap.size w w' := by
  have HW0 := Lib.hid (((box_below w (.cells #[.int .i64 ep, .int .i64 sq, .string d] 23)).alloc (by simp) (.cells #[.int .i64 p, .int .u8 b] 35)).drew)
  have HB := Lib.hid (show Blk ((w.alloc (.cells #[.int .i64 ep, .int .i64 sq, .string d] 23)).alloc (.cells #[.int .i64 p, .int .u8 b] 35)).drew _ _ _ from (Blk.new w #[.int .i64 ep, .int .i64 sq, .string d] 23).alloc (.cells #[.int .i64 p, .int .u8 b] 35))
  have hF1 := hF.onto HW0.out
  have c1 := flay_any ep sq d (by unfold maxLen; omega) _ hF1
  obtain ⟨l1, ⟨l2, l3, l4, l5⟩, l6⟩ := layS_list hE
  have lz := layS_size hE
  rw [hE] at c1
  obtain ⟨y, hy⟩ : ∃ y, layS ep sq d = y := ⟨_, rfl⟩
  rw [hy] at c1 l1 lz
  have q1 : ((y.size : Int) == 16 + (d.size : Int)) = true := by simp; omega
  have q2 : (16 : Int) + (d.size : Int) ≤ (y.size : Int) := by omega
  have q3 : (y.size : Int) ≤ 1040 := by omega
  have q4 : decide ((y.size : Int) < 16 + (d.size : Int)) = false := by simp; omega
  have HF := Lib.hid hF1
  have C1 := Lib.hid c1; have HL := Lib.hid l1; have HZ := Lib.hid lz
  clear c1 l1 lz hy hE hF hF1
  go_enter Tryd.func6, Tryd.ntmps6
  go_wp2_with fail
  go_region
  go_wp2_with fail
  refine C1.out.mono ?_; rintro e w1 ⟨rfl, hb1⟩
  have BB := Lib.hid (HB.out.onto hb1)
  have HW1 := Lib.hid (HW0.out.trans (hb1.mono HW0.out.size))
  have HF1 := Lib.hid (HF.out.onto hb1)
  clear hb1 HF HB HW0
  obtain ⟨k0, k1, k2, -, -, -⟩ := BB.out.three
  go_wp2_with fail
  refine (lives12_any _ HF1.out).mono ?_; rintro e w5 ⟨rfl, hb5⟩
  go_wp2
  go_ret
  exact ⟨by simp, HW1.out.trans (hb5.mono HW1.out.size)⟩

set_option maxRecDepth 100000 in
set_option maxHeartbeats 1600000 in
theorem frameChg_nz (ep sq : Int) (d : ByteArray) (p : Int) (b : Nat) (left : Int) (hb : b < 256) (hp0 : -9223372036854775808 ≤ p) (hp1 : p ≤ 9223372036854775807) (hl0 : -9223372036854775808 ≤ left) (hl1 : left ≤ 9223372036854775807) (h1 : d.size ≤ 1024) (hE : layE ep sq d.size = 0) (hl2 : left < 0) (hp2 : 0 ≤ p) (hp3 : p < d.size) (hb0 : b = 0) (w : World) (hF : First w) :
    Calls Tryd.prog 6 #[.agg #[.int .i64 ep, .int .i64 sq, .string d], .agg #[.int .i64 p, .int .u8 b], .int .i64 left] w fun e w' => e = .returned (.bool true) ∧ Below w.heap.size w w' := by
  have HW0 := Lib.hid (((box_below w (.cells #[.int .i64 ep, .int .i64 sq, .string d] 23)).alloc (by simp) (.cells #[.int .i64 p, .int .u8 b] 35)).drew)
  have HB := Lib.hid (show Blk ((w.alloc (.cells #[.int .i64 ep, .int .i64 sq, .string d] 23)).alloc (.cells #[.int .i64 p, .int .u8 b] 35)).drew _ _ _ from (Blk.new w #[.int .i64 ep, .int .i64 sq, .string d] 23).alloc (.cells #[.int .i64 p, .int .u8 b] 35))
  have hF1 := hF.onto HW0.out
  have c1 := flay_any ep sq d (by unfold maxLen; omega) _ hF1
  obtain ⟨l1, ⟨l2, l3, l4, l5⟩, l6⟩ := layS_list hE
  have lz := layS_size hE
  rw [hE] at c1
  obtain ⟨y, hy⟩ : ∃ y, layS ep sq d = y := ⟨_, rfl⟩
  rw [hy] at c1 l1 lz
  have q1 : ((y.size : Int) == 16 + (d.size : Int)) = true := by simp; omega
  have q2 : (16 : Int) + (d.size : Int) ≤ (y.size : Int) := by omega
  have q3 : (y.size : Int) ≤ 1040 := by omega
  have q4 : decide ((y.size : Int) < 16 + (d.size : Int)) = false := by simp; omega
  have HF := Lib.hid hF1
  have C1 := Lib.hid c1; have HL := Lib.hid l1; have HZ := Lib.hid lz
  subst hb0
  clear c1 l1 lz hy hE hF hF1
  go_enter Tryd.func6, Tryd.ntmps6
  go_wp2_with fail
  go_region
  go_wp2_with fail
  refine C1.out.mono ?_; rintro e w1 ⟨rfl, hb1⟩
  have BB := Lib.hid (HB.out.onto hb1)
  have HW1 := Lib.hid (HW0.out.trans (hb1.mono HW0.out.size))
  have HF1 := Lib.hid (HF.out.onto hb1)
  clear hb1 HF HB HW0
  obtain ⟨k0, k1, k2, -, -, -⟩ := BB.out.three
  go_wp2_with fail
  refine (lives12_any _ HF1.out).mono ?_; rintro e w5 ⟨rfl, hb5⟩
  go_wp2
  go_ret
  exact ⟨by simp, HW1.out.trans (hb5.mono HW1.out.size)⟩

set_option maxRecDepth 100000 in
set_option maxHeartbeats 1600000 in
theorem frameChg_nm (ep sq : Int) (d : ByteArray) (p : Int) (b : Nat) (left : Int) (hb : b < 256) (hp0 : -9223372036854775808 ≤ p) (hp1 : p ≤ 9223372036854775807) (hl0 : -9223372036854775808 ≤ left) (hl1 : left ≤ 9223372036854775807) (h1 : d.size ≤ 1024) (hE : layE ep sq d.size = 0) (hl2 : left < 0) (hp2 : 0 ≤ p) (hp3 : p < d.size) (hb0 : b ≠ 0) (w : World) (hF : First w) :
    Calls Tryd.prog 6 #[.agg #[.int .i64 ep, .int .i64 sq, .string d], .agg #[.int .i64 p, .int .u8 b], .int .i64 left] w fun e w' => e = .returned (.bool true) ∧ Below w.heap.size w w' := by
  have HW0 := Lib.hid (((box_below w (.cells #[.int .i64 ep, .int .i64 sq, .string d] 23)).alloc (by simp) (.cells #[.int .i64 p, .int .u8 b] 35)).drew)
  have HB := Lib.hid (show Blk ((w.alloc (.cells #[.int .i64 ep, .int .i64 sq, .string d] 23)).alloc (.cells #[.int .i64 p, .int .u8 b] 35)).drew _ _ _ from (Blk.new w #[.int .i64 ep, .int .i64 sq, .string d] 23).alloc (.cells #[.int .i64 p, .int .u8 b] 35))
  have hF1 := hF.onto HW0.out
  have c1 := flay_any ep sq d (by unfold maxLen; omega) _ hF1
  obtain ⟨l1, ⟨l2, l3, l4, l5⟩, l6⟩ := layS_list hE
  have lz := layS_size hE
  rw [hE] at c1
  obtain ⟨y, hy⟩ : ∃ y, layS ep sq d = y := ⟨_, rfl⟩
  rw [hy] at c1 l1 lz
  have q1 : ((y.size : Int) == 16 + (d.size : Int)) = true := by simp; omega
  have q2 : (16 : Int) + (d.size : Int) ≤ (y.size : Int) := by omega
  have q3 : (y.size : Int) ≤ 1040 := by omega
  have q4 : decide ((y.size : Int) < 16 + (d.size : Int)) = false := by simp; omega
  have HF := Lib.hid hF1
  have C1 := Lib.hid c1; have HL := Lib.hid l1; have HZ := Lib.hid lz
  obtain ⟨i, rfl⟩ := Int.eq_ofNat_of_zero_le hp2
  have hi : i < d.size := by omega
  obtain ⟨old, hold⟩ : ∃ old, y.data.toList.getD (16 + i) 0 = old := ⟨_, rfl⟩
  obtain ⟨f1, f2⟩ := xor_byte old b hb
  obtain ⟨nb, hnb⟩ : ∃ nb, UInt8.ofNat (old.toNat ^^^ b) = nb := ⟨_, rfl⟩
  rw [hnb] at f1 f2
  have hset : frmE (y.data.toList.set (16 + i) nb) = 19 := by
    rw [l1]
    refine frm_changed _ _ _ (by simpa using h1) i b nb (by simpa using hi) hb0 hb ?_
    rw [f2, ← hold, l1]
    congr 2
    unfold frmL
    rw [List.getD_eq_getElem?_getD, List.getD_eq_getElem?_getD, List.getElem?_append_right (by simp [headL_length, leL_length])]
    congr 2
    simp [headL_length, leL_length]
  have e2 : (⟨(y.data.toList.set (16 + i) nb).toArray⟩ : ByteArray).data.toList = y.data.toList.set (16 + i) nb := by simp
  have c3 := fone_any ⟨(y.data.toList.set (16 + i) nb).toArray⟩ (by unfold maxLen; show (y.data.toList.set (16 + i) nb).toArray.size ≤ _; simp; omega)
  obtain ⟨g1, g2, g3, g4⟩ := one_no (s := ⟨(y.data.toList.set (16 + i) nb).toArray⟩) (e := 19) hset (by omega)
  rw [g1, g2, g3, g4, e2, hset] at c3
  have C3 := Lib.hid c3; have HOLD := Lib.hid hold
  have zb : ((b : Int) == 0) = false := by simp; omega
  have hi2 : 16 + i < y.size := by omega
  have hi3 : (16 : Int) + (i : Int) < (y.size : Int) := by omega
  clear c3 hset e2 g1 g2 g3 g4 hnb f2 hold
  clear c1 l1 lz hy hE hF hF1
  go_enter Tryd.func6, Tryd.ntmps6
  go_wp2_with fail
  go_region
  go_wp2_with fail
  refine C1.out.mono ?_; rintro e w1 ⟨rfl, hb1⟩
  have BB := Lib.hid (HB.out.onto hb1)
  have HW1 := Lib.hid (HW0.out.trans (hb1.mono HW0.out.size))
  have HF1 := Lib.hid (HF.out.onto hb1)
  clear hb1 HF HB HW0
  obtain ⟨k0, k1, k2, -, -, -⟩ := BB.out.three
  go_wp2_with fail
  obtain ⟨wq, hwq⟩ : ∃ wq, w1 = wq := ⟨_, rfl⟩
  rw [hwq] at HW1 HF1 BB ⊢
  clear hwq k0 k1 k2
  have hcv := run_bytes_of_string (P := Tryd.prog) wq 9 36 5 y Tryd.underlying9 Tryd.underlying36 Tryd.underlying5
  obtain ⟨W3, hW3⟩ : ∃ W3, (wq.drew.alloc (.cells (bytesRow y (grownCap wq y.size 0 5)) 5 ((bytesRow y (grownCap wq y.size 0 5)).size, (bytesRow y (grownCap wq y.size 0 5)).size + 1))) = W3 := ⟨_, rfl⟩
  have hR : RowAt W3 wq.heap.size y.data.toList := by rw [← hW3]; exact rowAt_bytes wq y _ _
  have hbel : Below wq.heap.size wq W3 := by rw [← hW3]; exact (Below.refl _ _).drew.alloc (Nat.le_refl _) _
  rw [hW3] at hcv
  obtain ⟨cap, hcap⟩ : ∃ cap, grownCap wq y.size 0 5 = cap := ⟨_, rfl⟩
  rw [hcap] at hcv
  clear hcap hW3
  obtain ⟨g, hg⟩ : ∃ g, wq.heap.size = g := ⟨_, rfl⟩
  have hbb := Lib.hid (BB.out.onto hbel)
  have HW3 := Lib.hid (HW1.out.trans (hbel.mono HW1.out.size))
  have hgw : w.heap.size ≤ g := by rw [← hg]; exact HW1.out.size
  rw [hg] at hcv hR hbel
  rw [hcv]
  have HF3 := Lib.hid (HF1.out.below hbel (by rw [← hg]; exact HF1.out.2.2))
  have hfg : 0 < g := by rw [← hg]; exact HF1.out.2.2
  obtain ⟨hc, hf⟩ := hR (16 + i) (by simpa using hi2)
  rw [HOLD.out] at hc
  have HR2 := Lib.hid (rowAt_put hR (16 + i) (by simpa using hi2) nb)
  have HW4 := Lib.hid (HW3.out.setCell (p := ⟨g, 16 + i, none⟩) hgw (.int .u8 (nb.toNat : Nat)))
  have HF4 := Lib.hid (HF3.out.below (B := g) ((Below.refl g W3).setCell (p := ⟨g, 16 + i, none⟩) (Nat.le_refl _) (.int .u8 (nb.toNat : Nat))) hfg)
  clear hcv hR hbel hg HF3 HW3 HW1 HF1 BB hbb
  simp only [Result.andThen]
  rw [Oper.upon_value]
  go_wp2_with fail
  have hc2 := row_string HR2.out y.size cap (by simp)
  rw [hc2]
  clear hc2 hc hf
  simp only [Result.andThen]
  rw [Oper.upon_value]
  go_wp2_with fail
  refine (C3.out _ HF4.out).mono ?_; rintro e w5 ⟨rfl, hb5⟩
  have HW5 := Lib.hid ((HW4.out.trans (hb5.mono HW4.out.size)).alloc (HW4.out.trans (hb5.mono HW4.out.size)).size (.cells #[.int .i64 0, .int .i64 0, .string ⟨#[]⟩] 23))
  have HF5 := Lib.hid (HF4.out.onto ((hb5.alloc hb5.size (.cells #[.int .i64 0, .int .i64 0, .string ⟨#[]⟩] 23))))
  clear hb5 HF4 HW4
  go_wp2_with fail
  refine (lives12_any _ HF5.out).mono ?_; rintro e w6 ⟨rfl, hb6⟩
  go_wp2
  go_ret
  exact ⟨by simp, HW5.out.trans (hb6.mono HW5.out.size)⟩

set_option maxRecDepth 100000 in
set_option maxHeartbeats 1600000 in
theorem frameChg_bn (ep sq : Int) (d : ByteArray) (p : Int) (b : Nat) (left : Int) (hb : b < 256) (hp0 : -9223372036854775808 ≤ p) (hp1 : p ≤ 9223372036854775807) (hl0 : -9223372036854775808 ≤ left) (hl1 : left ≤ 9223372036854775807) (h1 : d.size ≤ 1024) (hE : layE ep sq d.size = 0) (hl2 : 0 ≤ left) (hl3 : 16 + d.size ≤ left) (hp2 : p < 0) (w : World) (hF : First w) :
    Calls Tryd.prog 6 #[.agg #[.int .i64 ep, .int .i64 sq, .string d], .agg #[.int .i64 p, .int .u8 b], .int .i64 left] w fun e w' => e = .returned (.bool true) ∧ Below w.heap.size w w' := by
  have HW0 := Lib.hid (((box_below w (.cells #[.int .i64 ep, .int .i64 sq, .string d] 23)).alloc (by simp) (.cells #[.int .i64 p, .int .u8 b] 35)).drew)
  have HB := Lib.hid (show Blk ((w.alloc (.cells #[.int .i64 ep, .int .i64 sq, .string d] 23)).alloc (.cells #[.int .i64 p, .int .u8 b] 35)).drew _ _ _ from (Blk.new w #[.int .i64 ep, .int .i64 sq, .string d] 23).alloc (.cells #[.int .i64 p, .int .u8 b] 35))
  have hF1 := hF.onto HW0.out
  have c1 := flay_any ep sq d (by unfold maxLen; omega) _ hF1
  obtain ⟨l1, ⟨l2, l3, l4, l5⟩, l6⟩ := layS_list hE
  have lz := layS_size hE
  rw [hE] at c1
  obtain ⟨y, hy⟩ : ∃ y, layS ep sq d = y := ⟨_, rfl⟩
  rw [hy] at c1 l1 lz
  have q1 : ((y.size : Int) == 16 + (d.size : Int)) = true := by simp; omega
  have q2 : (16 : Int) + (d.size : Int) ≤ (y.size : Int) := by omega
  have q3 : (y.size : Int) ≤ 1040 := by omega
  have q4 : decide ((y.size : Int) < 16 + (d.size : Int)) = false := by simp; omega
  have HF := Lib.hid hF1
  have C1 := Lib.hid c1; have HL := Lib.hid l1; have HZ := Lib.hid lz
  have hl4 : (y.size : Int) ≤ left := by omega
  clear c1 l1 lz hy hE hF hF1
  go_enter Tryd.func6, Tryd.ntmps6
  go_wp2_with fail
  go_region
  go_wp2_with fail
  refine C1.out.mono ?_; rintro e w1 ⟨rfl, hb1⟩
  have BB := Lib.hid (HB.out.onto hb1)
  have HW1 := Lib.hid (HW0.out.trans (hb1.mono HW0.out.size))
  have HF1 := Lib.hid (HF.out.onto hb1)
  clear hb1 HF HB HW0
  obtain ⟨k0, k1, k2, -, -, -⟩ := BB.out.three
  go_wp2_with fail
  refine (lives12_any _ HF1.out).mono ?_; rintro e w5 ⟨rfl, hb5⟩
  go_wp2
  go_ret
  exact ⟨by simp, HW1.out.trans (hb5.mono HW1.out.size)⟩

set_option maxRecDepth 100000 in
set_option maxHeartbeats 1600000 in
theorem frameChg_bb (ep sq : Int) (d : ByteArray) (p : Int) (b : Nat) (left : Int) (hb : b < 256) (hp0 : -9223372036854775808 ≤ p) (hp1 : p ≤ 9223372036854775807) (hl0 : -9223372036854775808 ≤ left) (hl1 : left ≤ 9223372036854775807) (h1 : d.size ≤ 1024) (hE : layE ep sq d.size = 0) (hl2 : 0 ≤ left) (hl3 : 16 + d.size ≤ left) (hp2 : 0 ≤ p) (hp3 : d.size ≤ p) (w : World) (hF : First w) :
    Calls Tryd.prog 6 #[.agg #[.int .i64 ep, .int .i64 sq, .string d], .agg #[.int .i64 p, .int .u8 b], .int .i64 left] w fun e w' => e = .returned (.bool true) ∧ Below w.heap.size w w' := by
  have HW0 := Lib.hid (((box_below w (.cells #[.int .i64 ep, .int .i64 sq, .string d] 23)).alloc (by simp) (.cells #[.int .i64 p, .int .u8 b] 35)).drew)
  have HB := Lib.hid (show Blk ((w.alloc (.cells #[.int .i64 ep, .int .i64 sq, .string d] 23)).alloc (.cells #[.int .i64 p, .int .u8 b] 35)).drew _ _ _ from (Blk.new w #[.int .i64 ep, .int .i64 sq, .string d] 23).alloc (.cells #[.int .i64 p, .int .u8 b] 35))
  have hF1 := hF.onto HW0.out
  have c1 := flay_any ep sq d (by unfold maxLen; omega) _ hF1
  obtain ⟨l1, ⟨l2, l3, l4, l5⟩, l6⟩ := layS_list hE
  have lz := layS_size hE
  rw [hE] at c1
  obtain ⟨y, hy⟩ : ∃ y, layS ep sq d = y := ⟨_, rfl⟩
  rw [hy] at c1 l1 lz
  have q1 : ((y.size : Int) == 16 + (d.size : Int)) = true := by simp; omega
  have q2 : (16 : Int) + (d.size : Int) ≤ (y.size : Int) := by omega
  have q3 : (y.size : Int) ≤ 1040 := by omega
  have q4 : decide ((y.size : Int) < 16 + (d.size : Int)) = false := by simp; omega
  have HF := Lib.hid hF1
  have C1 := Lib.hid c1; have HL := Lib.hid l1; have HZ := Lib.hid lz
  have hl4 : (y.size : Int) ≤ left := by omega
  clear c1 l1 lz hy hE hF hF1
  go_enter Tryd.func6, Tryd.ntmps6
  go_wp2_with fail
  go_region
  go_wp2_with fail
  refine C1.out.mono ?_; rintro e w1 ⟨rfl, hb1⟩
  have BB := Lib.hid (HB.out.onto hb1)
  have HW1 := Lib.hid (HW0.out.trans (hb1.mono HW0.out.size))
  have HF1 := Lib.hid (HF.out.onto hb1)
  clear hb1 HF HB HW0
  obtain ⟨k0, k1, k2, -, -, -⟩ := BB.out.three
  go_wp2_with fail
  refine (lives12_any _ HF1.out).mono ?_; rintro e w5 ⟨rfl, hb5⟩
  go_wp2
  go_ret
  exact ⟨by simp, HW1.out.trans (hb5.mono HW1.out.size)⟩

set_option maxRecDepth 100000 in
set_option maxHeartbeats 1600000 in
theorem frameChg_bz (ep sq : Int) (d : ByteArray) (p : Int) (b : Nat) (left : Int) (hb : b < 256) (hp0 : -9223372036854775808 ≤ p) (hp1 : p ≤ 9223372036854775807) (hl0 : -9223372036854775808 ≤ left) (hl1 : left ≤ 9223372036854775807) (h1 : d.size ≤ 1024) (hE : layE ep sq d.size = 0) (hl2 : 0 ≤ left) (hl3 : 16 + d.size ≤ left) (hp2 : 0 ≤ p) (hp3 : p < d.size) (hb0 : b = 0) (w : World) (hF : First w) :
    Calls Tryd.prog 6 #[.agg #[.int .i64 ep, .int .i64 sq, .string d], .agg #[.int .i64 p, .int .u8 b], .int .i64 left] w fun e w' => e = .returned (.bool true) ∧ Below w.heap.size w w' := by
  have HW0 := Lib.hid (((box_below w (.cells #[.int .i64 ep, .int .i64 sq, .string d] 23)).alloc (by simp) (.cells #[.int .i64 p, .int .u8 b] 35)).drew)
  have HB := Lib.hid (show Blk ((w.alloc (.cells #[.int .i64 ep, .int .i64 sq, .string d] 23)).alloc (.cells #[.int .i64 p, .int .u8 b] 35)).drew _ _ _ from (Blk.new w #[.int .i64 ep, .int .i64 sq, .string d] 23).alloc (.cells #[.int .i64 p, .int .u8 b] 35))
  have hF1 := hF.onto HW0.out
  have c1 := flay_any ep sq d (by unfold maxLen; omega) _ hF1
  obtain ⟨l1, ⟨l2, l3, l4, l5⟩, l6⟩ := layS_list hE
  have lz := layS_size hE
  rw [hE] at c1
  obtain ⟨y, hy⟩ : ∃ y, layS ep sq d = y := ⟨_, rfl⟩
  rw [hy] at c1 l1 lz
  have q1 : ((y.size : Int) == 16 + (d.size : Int)) = true := by simp; omega
  have q2 : (16 : Int) + (d.size : Int) ≤ (y.size : Int) := by omega
  have q3 : (y.size : Int) ≤ 1040 := by omega
  have q4 : decide ((y.size : Int) < 16 + (d.size : Int)) = false := by simp; omega
  have HF := Lib.hid hF1
  have C1 := Lib.hid c1; have HL := Lib.hid l1; have HZ := Lib.hid lz
  have hl4 : (y.size : Int) ≤ left := by omega
  subst hb0
  clear c1 l1 lz hy hE hF hF1
  go_enter Tryd.func6, Tryd.ntmps6
  go_wp2_with fail
  go_region
  go_wp2_with fail
  refine C1.out.mono ?_; rintro e w1 ⟨rfl, hb1⟩
  have BB := Lib.hid (HB.out.onto hb1)
  have HW1 := Lib.hid (HW0.out.trans (hb1.mono HW0.out.size))
  have HF1 := Lib.hid (HF.out.onto hb1)
  clear hb1 HF HB HW0
  obtain ⟨k0, k1, k2, -, -, -⟩ := BB.out.three
  go_wp2_with fail
  refine (lives12_any _ HF1.out).mono ?_; rintro e w5 ⟨rfl, hb5⟩
  go_wp2
  go_ret
  exact ⟨by simp, HW1.out.trans (hb5.mono HW1.out.size)⟩

set_option maxRecDepth 100000 in
set_option maxHeartbeats 1600000 in
theorem frameChg_bm (ep sq : Int) (d : ByteArray) (p : Int) (b : Nat) (left : Int) (hb : b < 256) (hp0 : -9223372036854775808 ≤ p) (hp1 : p ≤ 9223372036854775807) (hl0 : -9223372036854775808 ≤ left) (hl1 : left ≤ 9223372036854775807) (h1 : d.size ≤ 1024) (hE : layE ep sq d.size = 0) (hl2 : 0 ≤ left) (hl3 : 16 + d.size ≤ left) (hp2 : 0 ≤ p) (hp3 : p < d.size) (hb0 : b ≠ 0) (w : World) (hF : First w) :
    Calls Tryd.prog 6 #[.agg #[.int .i64 ep, .int .i64 sq, .string d], .agg #[.int .i64 p, .int .u8 b], .int .i64 left] w fun e w' => e = .returned (.bool true) ∧ Below w.heap.size w w' := by
  have HW0 := Lib.hid (((box_below w (.cells #[.int .i64 ep, .int .i64 sq, .string d] 23)).alloc (by simp) (.cells #[.int .i64 p, .int .u8 b] 35)).drew)
  have HB := Lib.hid (show Blk ((w.alloc (.cells #[.int .i64 ep, .int .i64 sq, .string d] 23)).alloc (.cells #[.int .i64 p, .int .u8 b] 35)).drew _ _ _ from (Blk.new w #[.int .i64 ep, .int .i64 sq, .string d] 23).alloc (.cells #[.int .i64 p, .int .u8 b] 35))
  have hF1 := hF.onto HW0.out
  have c1 := flay_any ep sq d (by unfold maxLen; omega) _ hF1
  obtain ⟨l1, ⟨l2, l3, l4, l5⟩, l6⟩ := layS_list hE
  have lz := layS_size hE
  rw [hE] at c1
  obtain ⟨y, hy⟩ : ∃ y, layS ep sq d = y := ⟨_, rfl⟩
  rw [hy] at c1 l1 lz
  have q1 : ((y.size : Int) == 16 + (d.size : Int)) = true := by simp; omega
  have q2 : (16 : Int) + (d.size : Int) ≤ (y.size : Int) := by omega
  have q3 : (y.size : Int) ≤ 1040 := by omega
  have q4 : decide ((y.size : Int) < 16 + (d.size : Int)) = false := by simp; omega
  have HF := Lib.hid hF1
  have C1 := Lib.hid c1; have HL := Lib.hid l1; have HZ := Lib.hid lz
  have hl4 : (y.size : Int) ≤ left := by omega
  obtain ⟨i, rfl⟩ := Int.eq_ofNat_of_zero_le hp2
  have hi : i < d.size := by omega
  obtain ⟨old, hold⟩ : ∃ old, y.data.toList.getD (16 + i) 0 = old := ⟨_, rfl⟩
  obtain ⟨f1, f2⟩ := xor_byte old b hb
  obtain ⟨nb, hnb⟩ : ∃ nb, UInt8.ofNat (old.toNat ^^^ b) = nb := ⟨_, rfl⟩
  rw [hnb] at f1 f2
  have hset : frmE (y.data.toList.set (16 + i) nb) = 19 := by
    rw [l1]
    refine frm_changed _ _ _ (by simpa using h1) i b nb (by simpa using hi) hb0 hb ?_
    rw [f2, ← hold, l1]
    congr 2
    unfold frmL
    rw [List.getD_eq_getElem?_getD, List.getD_eq_getElem?_getD, List.getElem?_append_right (by simp [headL_length, leL_length])]
    congr 2
    simp [headL_length, leL_length]
  have e2 : (⟨(y.data.toList.set (16 + i) nb).toArray⟩ : ByteArray).data.toList = y.data.toList.set (16 + i) nb := by simp
  have c3 := fone_any ⟨(y.data.toList.set (16 + i) nb).toArray⟩ (by unfold maxLen; show (y.data.toList.set (16 + i) nb).toArray.size ≤ _; simp; omega)
  obtain ⟨g1, g2, g3, g4⟩ := one_no (s := ⟨(y.data.toList.set (16 + i) nb).toArray⟩) (e := 19) hset (by omega)
  rw [g1, g2, g3, g4, e2, hset] at c3
  have C3 := Lib.hid c3; have HOLD := Lib.hid hold
  have zb : ((b : Int) == 0) = false := by simp; omega
  have hi2 : 16 + i < y.size := by omega
  have hi3 : (16 : Int) + (i : Int) < (y.size : Int) := by omega
  clear c3 hset e2 g1 g2 g3 g4 hnb f2 hold
  clear c1 l1 lz hy hE hF hF1
  go_enter Tryd.func6, Tryd.ntmps6
  go_wp2_with fail
  go_region
  go_wp2_with fail
  refine C1.out.mono ?_; rintro e w1 ⟨rfl, hb1⟩
  have BB := Lib.hid (HB.out.onto hb1)
  have HW1 := Lib.hid (HW0.out.trans (hb1.mono HW0.out.size))
  have HF1 := Lib.hid (HF.out.onto hb1)
  clear hb1 HF HB HW0
  obtain ⟨k0, k1, k2, -, -, -⟩ := BB.out.three
  go_wp2_with fail
  obtain ⟨wq, hwq⟩ : ∃ wq, w1 = wq := ⟨_, rfl⟩
  rw [hwq] at HW1 HF1 BB ⊢
  clear hwq k0 k1 k2
  have hcv := run_bytes_of_string (P := Tryd.prog) wq 9 36 5 y Tryd.underlying9 Tryd.underlying36 Tryd.underlying5
  obtain ⟨W3, hW3⟩ : ∃ W3, (wq.drew.alloc (.cells (bytesRow y (grownCap wq y.size 0 5)) 5 ((bytesRow y (grownCap wq y.size 0 5)).size, (bytesRow y (grownCap wq y.size 0 5)).size + 1))) = W3 := ⟨_, rfl⟩
  have hR : RowAt W3 wq.heap.size y.data.toList := by rw [← hW3]; exact rowAt_bytes wq y _ _
  have hbel : Below wq.heap.size wq W3 := by rw [← hW3]; exact (Below.refl _ _).drew.alloc (Nat.le_refl _) _
  rw [hW3] at hcv
  obtain ⟨cap, hcap⟩ : ∃ cap, grownCap wq y.size 0 5 = cap := ⟨_, rfl⟩
  rw [hcap] at hcv
  clear hcap hW3
  obtain ⟨g, hg⟩ : ∃ g, wq.heap.size = g := ⟨_, rfl⟩
  have hbb := Lib.hid (BB.out.onto hbel)
  have HW3 := Lib.hid (HW1.out.trans (hbel.mono HW1.out.size))
  have hgw : w.heap.size ≤ g := by rw [← hg]; exact HW1.out.size
  rw [hg] at hcv hR hbel
  rw [hcv]
  have HF3 := Lib.hid (HF1.out.below hbel (by rw [← hg]; exact HF1.out.2.2))
  have hfg : 0 < g := by rw [← hg]; exact HF1.out.2.2
  obtain ⟨hc, hf⟩ := hR (16 + i) (by simpa using hi2)
  rw [HOLD.out] at hc
  have HR2 := Lib.hid (rowAt_put hR (16 + i) (by simpa using hi2) nb)
  have HW4 := Lib.hid (HW3.out.setCell (p := ⟨g, 16 + i, none⟩) hgw (.int .u8 (nb.toNat : Nat)))
  have HF4 := Lib.hid (HF3.out.below (B := g) ((Below.refl g W3).setCell (p := ⟨g, 16 + i, none⟩) (Nat.le_refl _) (.int .u8 (nb.toNat : Nat))) hfg)
  clear hcv hR hbel hg HF3 HW3 HW1 HF1 BB hbb
  simp only [Result.andThen]
  rw [Oper.upon_value]
  go_wp2_with fail
  have hc2 := row_string HR2.out y.size cap (by simp)
  rw [hc2]
  clear hc2 hc hf
  simp only [Result.andThen]
  rw [Oper.upon_value]
  go_wp2_with fail
  refine (C3.out _ HF4.out).mono ?_; rintro e w5 ⟨rfl, hb5⟩
  have HW5 := Lib.hid ((HW4.out.trans (hb5.mono HW4.out.size)).alloc (HW4.out.trans (hb5.mono HW4.out.size)).size (.cells #[.int .i64 0, .int .i64 0, .string ⟨#[]⟩] 23))
  have HF5 := Lib.hid (HF4.out.onto ((hb5.alloc hb5.size (.cells #[.int .i64 0, .int .i64 0, .string ⟨#[]⟩] 23))))
  clear hb5 HF4 HW4
  go_wp2_with fail
  refine (lives12_any _ HF5.out).mono ?_; rintro e w6 ⟨rfl, hb6⟩
  go_wp2
  go_ret
  exact ⟨by simp, HW5.out.trans (hb6.mono HW5.out.size)⟩

set_option maxRecDepth 100000 in
set_option maxHeartbeats 1600000 in
theorem frameChg_in (ep sq : Int) (d : ByteArray) (p : Int) (b : Nat) (left : Int) (hb : b < 256) (hp0 : -9223372036854775808 ≤ p) (hp1 : p ≤ 9223372036854775807) (hl0 : -9223372036854775808 ≤ left) (hl1 : left ≤ 9223372036854775807) (h1 : d.size ≤ 1024) (hE : layE ep sq d.size = 0) (hl2 : 0 ≤ left) (hl3 : left < 16 + d.size) (hp2 : p < 0) (w : World) (hF : First w) :
    Calls Tryd.prog 6 #[.agg #[.int .i64 ep, .int .i64 sq, .string d], .agg #[.int .i64 p, .int .u8 b], .int .i64 left] w fun e w' => e = .returned (.bool true) ∧ Below w.heap.size w w' := by
  have HW0 := Lib.hid (((box_below w (.cells #[.int .i64 ep, .int .i64 sq, .string d] 23)).alloc (by simp) (.cells #[.int .i64 p, .int .u8 b] 35)).drew)
  have HB := Lib.hid (show Blk ((w.alloc (.cells #[.int .i64 ep, .int .i64 sq, .string d] 23)).alloc (.cells #[.int .i64 p, .int .u8 b] 35)).drew _ _ _ from (Blk.new w #[.int .i64 ep, .int .i64 sq, .string d] 23).alloc (.cells #[.int .i64 p, .int .u8 b] 35))
  have hF1 := hF.onto HW0.out
  have c1 := flay_any ep sq d (by unfold maxLen; omega) _ hF1
  obtain ⟨l1, ⟨l2, l3, l4, l5⟩, l6⟩ := layS_list hE
  have lz := layS_size hE
  rw [hE] at c1
  obtain ⟨y, hy⟩ : ∃ y, layS ep sq d = y := ⟨_, rfl⟩
  rw [hy] at c1 l1 lz
  have q1 : ((y.size : Int) == 16 + (d.size : Int)) = true := by simp; omega
  have q2 : (16 : Int) + (d.size : Int) ≤ (y.size : Int) := by omega
  have q3 : (y.size : Int) ≤ 1040 := by omega
  have q4 : decide ((y.size : Int) < 16 + (d.size : Int)) = false := by simp; omega
  have HF := Lib.hid hF1
  have C1 := Lib.hid c1; have HL := Lib.hid l1; have HZ := Lib.hid lz
  obtain ⟨k, rfl⟩ := Int.eq_ofNat_of_zero_le hl2
  have hk : k < y.size := by omega
  have ez : frmE (y.extract 0 k).data.toList = 18 := by
    rw [extract_list, List.drop_zero, Nat.sub_zero, l1]
    exact frm_short _ _ _ (by simpa using h1) k (by simp; omega)
  have c2 := fone_any (y.extract 0 k) (by unfold maxLen; simp; omega)
  obtain ⟨g1, g2, g3, g4⟩ := one_no ez (by omega)
  rw [g1, g2, g3, g4, ez] at c2
  have C2 := Lib.hid c2
  clear c2 ez g1 g2 g3 g4
  clear c1 l1 lz hy hE hF hF1
  go_enter Tryd.func6, Tryd.ntmps6
  go_wp2_with fail
  go_region
  go_wp2_with fail
  refine C1.out.mono ?_; rintro e w1 ⟨rfl, hb1⟩
  have BB := Lib.hid (HB.out.onto hb1)
  have HW1 := Lib.hid (HW0.out.trans (hb1.mono HW0.out.size))
  have HF1 := Lib.hid (HF.out.onto hb1)
  clear hb1 HF HB HW0
  obtain ⟨k0, k1, k2, -, -, -⟩ := BB.out.three
  go_wp2_with fail
  refine (C2.out _ HF1.out).mono ?_; rintro e w2 ⟨rfl, hb2⟩
  have BB2 := Lib.hid ((BB.out.onto hb2).alloc (.cells #[.int .i64 0, .int .i64 0, .string ⟨#[]⟩] 23))
  have HW2 := Lib.hid ((HW1.out.trans (hb2.mono HW1.out.size)).alloc (HW1.out.trans (hb2.mono HW1.out.size)).size (.cells #[.int .i64 0, .int .i64 0, .string ⟨#[]⟩] 23))
  have HF2 := Lib.hid (HF1.out.onto ((hb2.alloc hb2.size (.cells #[.int .i64 0, .int .i64 0, .string ⟨#[]⟩] 23))))
  clear hb2 HF1 HW1 BB k0 k1 k2
  have HF1 := HF2; have HW1 := HW2; have BB := BB2
  clear HF2 HW2 BB2
  obtain ⟨k0, k1, k2, -, -, -⟩ := BB.out.three
  go_wp2_with fail
  refine (lives12_any _ HF1.out).mono ?_; rintro e w5 ⟨rfl, hb5⟩
  go_wp2
  go_ret
  exact ⟨by simp, HW1.out.trans (hb5.mono HW1.out.size)⟩

set_option maxRecDepth 100000 in
set_option maxHeartbeats 1600000 in
theorem frameChg_ib (ep sq : Int) (d : ByteArray) (p : Int) (b : Nat) (left : Int) (hb : b < 256) (hp0 : -9223372036854775808 ≤ p) (hp1 : p ≤ 9223372036854775807) (hl0 : -9223372036854775808 ≤ left) (hl1 : left ≤ 9223372036854775807) (h1 : d.size ≤ 1024) (hE : layE ep sq d.size = 0) (hl2 : 0 ≤ left) (hl3 : left < 16 + d.size) (hp2 : 0 ≤ p) (hp3 : d.size ≤ p) (w : World) (hF : First w) :
    Calls Tryd.prog 6 #[.agg #[.int .i64 ep, .int .i64 sq, .string d], .agg #[.int .i64 p, .int .u8 b], .int .i64 left] w fun e w' => e = .returned (.bool true) ∧ Below w.heap.size w w' := by
  have HW0 := Lib.hid (((box_below w (.cells #[.int .i64 ep, .int .i64 sq, .string d] 23)).alloc (by simp) (.cells #[.int .i64 p, .int .u8 b] 35)).drew)
  have HB := Lib.hid (show Blk ((w.alloc (.cells #[.int .i64 ep, .int .i64 sq, .string d] 23)).alloc (.cells #[.int .i64 p, .int .u8 b] 35)).drew _ _ _ from (Blk.new w #[.int .i64 ep, .int .i64 sq, .string d] 23).alloc (.cells #[.int .i64 p, .int .u8 b] 35))
  have hF1 := hF.onto HW0.out
  have c1 := flay_any ep sq d (by unfold maxLen; omega) _ hF1
  obtain ⟨l1, ⟨l2, l3, l4, l5⟩, l6⟩ := layS_list hE
  have lz := layS_size hE
  rw [hE] at c1
  obtain ⟨y, hy⟩ : ∃ y, layS ep sq d = y := ⟨_, rfl⟩
  rw [hy] at c1 l1 lz
  have q1 : ((y.size : Int) == 16 + (d.size : Int)) = true := by simp; omega
  have q2 : (16 : Int) + (d.size : Int) ≤ (y.size : Int) := by omega
  have q3 : (y.size : Int) ≤ 1040 := by omega
  have q4 : decide ((y.size : Int) < 16 + (d.size : Int)) = false := by simp; omega
  have HF := Lib.hid hF1
  have C1 := Lib.hid c1; have HL := Lib.hid l1; have HZ := Lib.hid lz
  obtain ⟨k, rfl⟩ := Int.eq_ofNat_of_zero_le hl2
  have hk : k < y.size := by omega
  have ez : frmE (y.extract 0 k).data.toList = 18 := by
    rw [extract_list, List.drop_zero, Nat.sub_zero, l1]
    exact frm_short _ _ _ (by simpa using h1) k (by simp; omega)
  have c2 := fone_any (y.extract 0 k) (by unfold maxLen; simp; omega)
  obtain ⟨g1, g2, g3, g4⟩ := one_no ez (by omega)
  rw [g1, g2, g3, g4, ez] at c2
  have C2 := Lib.hid c2
  clear c2 ez g1 g2 g3 g4
  clear c1 l1 lz hy hE hF hF1
  go_enter Tryd.func6, Tryd.ntmps6
  go_wp2_with fail
  go_region
  go_wp2_with fail
  refine C1.out.mono ?_; rintro e w1 ⟨rfl, hb1⟩
  have BB := Lib.hid (HB.out.onto hb1)
  have HW1 := Lib.hid (HW0.out.trans (hb1.mono HW0.out.size))
  have HF1 := Lib.hid (HF.out.onto hb1)
  clear hb1 HF HB HW0
  obtain ⟨k0, k1, k2, -, -, -⟩ := BB.out.three
  go_wp2_with fail
  refine (C2.out _ HF1.out).mono ?_; rintro e w2 ⟨rfl, hb2⟩
  have BB2 := Lib.hid ((BB.out.onto hb2).alloc (.cells #[.int .i64 0, .int .i64 0, .string ⟨#[]⟩] 23))
  have HW2 := Lib.hid ((HW1.out.trans (hb2.mono HW1.out.size)).alloc (HW1.out.trans (hb2.mono HW1.out.size)).size (.cells #[.int .i64 0, .int .i64 0, .string ⟨#[]⟩] 23))
  have HF2 := Lib.hid (HF1.out.onto ((hb2.alloc hb2.size (.cells #[.int .i64 0, .int .i64 0, .string ⟨#[]⟩] 23))))
  clear hb2 HF1 HW1 BB k0 k1 k2
  have HF1 := HF2; have HW1 := HW2; have BB := BB2
  clear HF2 HW2 BB2
  obtain ⟨k0, k1, k2, -, -, -⟩ := BB.out.three
  go_wp2_with fail
  refine (lives12_any _ HF1.out).mono ?_; rintro e w5 ⟨rfl, hb5⟩
  go_wp2
  go_ret
  exact ⟨by simp, HW1.out.trans (hb5.mono HW1.out.size)⟩

set_option maxRecDepth 100000 in
set_option maxHeartbeats 1600000 in
theorem frameChg_iz (ep sq : Int) (d : ByteArray) (p : Int) (b : Nat) (left : Int) (hb : b < 256) (hp0 : -9223372036854775808 ≤ p) (hp1 : p ≤ 9223372036854775807) (hl0 : -9223372036854775808 ≤ left) (hl1 : left ≤ 9223372036854775807) (h1 : d.size ≤ 1024) (hE : layE ep sq d.size = 0) (hl2 : 0 ≤ left) (hl3 : left < 16 + d.size) (hp2 : 0 ≤ p) (hp3 : p < d.size) (hb0 : b = 0) (w : World) (hF : First w) :
    Calls Tryd.prog 6 #[.agg #[.int .i64 ep, .int .i64 sq, .string d], .agg #[.int .i64 p, .int .u8 b], .int .i64 left] w fun e w' => e = .returned (.bool true) ∧ Below w.heap.size w w' := by
  have HW0 := Lib.hid (((box_below w (.cells #[.int .i64 ep, .int .i64 sq, .string d] 23)).alloc (by simp) (.cells #[.int .i64 p, .int .u8 b] 35)).drew)
  have HB := Lib.hid (show Blk ((w.alloc (.cells #[.int .i64 ep, .int .i64 sq, .string d] 23)).alloc (.cells #[.int .i64 p, .int .u8 b] 35)).drew _ _ _ from (Blk.new w #[.int .i64 ep, .int .i64 sq, .string d] 23).alloc (.cells #[.int .i64 p, .int .u8 b] 35))
  have hF1 := hF.onto HW0.out
  have c1 := flay_any ep sq d (by unfold maxLen; omega) _ hF1
  obtain ⟨l1, ⟨l2, l3, l4, l5⟩, l6⟩ := layS_list hE
  have lz := layS_size hE
  rw [hE] at c1
  obtain ⟨y, hy⟩ : ∃ y, layS ep sq d = y := ⟨_, rfl⟩
  rw [hy] at c1 l1 lz
  have q1 : ((y.size : Int) == 16 + (d.size : Int)) = true := by simp; omega
  have q2 : (16 : Int) + (d.size : Int) ≤ (y.size : Int) := by omega
  have q3 : (y.size : Int) ≤ 1040 := by omega
  have q4 : decide ((y.size : Int) < 16 + (d.size : Int)) = false := by simp; omega
  have HF := Lib.hid hF1
  have C1 := Lib.hid c1; have HL := Lib.hid l1; have HZ := Lib.hid lz
  obtain ⟨k, rfl⟩ := Int.eq_ofNat_of_zero_le hl2
  have hk : k < y.size := by omega
  have ez : frmE (y.extract 0 k).data.toList = 18 := by
    rw [extract_list, List.drop_zero, Nat.sub_zero, l1]
    exact frm_short _ _ _ (by simpa using h1) k (by simp; omega)
  have c2 := fone_any (y.extract 0 k) (by unfold maxLen; simp; omega)
  obtain ⟨g1, g2, g3, g4⟩ := one_no ez (by omega)
  rw [g1, g2, g3, g4, ez] at c2
  have C2 := Lib.hid c2
  clear c2 ez g1 g2 g3 g4
  subst hb0
  clear c1 l1 lz hy hE hF hF1
  go_enter Tryd.func6, Tryd.ntmps6
  go_wp2_with fail
  go_region
  go_wp2_with fail
  refine C1.out.mono ?_; rintro e w1 ⟨rfl, hb1⟩
  have BB := Lib.hid (HB.out.onto hb1)
  have HW1 := Lib.hid (HW0.out.trans (hb1.mono HW0.out.size))
  have HF1 := Lib.hid (HF.out.onto hb1)
  clear hb1 HF HB HW0
  obtain ⟨k0, k1, k2, -, -, -⟩ := BB.out.three
  go_wp2_with fail
  refine (C2.out _ HF1.out).mono ?_; rintro e w2 ⟨rfl, hb2⟩
  have BB2 := Lib.hid ((BB.out.onto hb2).alloc (.cells #[.int .i64 0, .int .i64 0, .string ⟨#[]⟩] 23))
  have HW2 := Lib.hid ((HW1.out.trans (hb2.mono HW1.out.size)).alloc (HW1.out.trans (hb2.mono HW1.out.size)).size (.cells #[.int .i64 0, .int .i64 0, .string ⟨#[]⟩] 23))
  have HF2 := Lib.hid (HF1.out.onto ((hb2.alloc hb2.size (.cells #[.int .i64 0, .int .i64 0, .string ⟨#[]⟩] 23))))
  clear hb2 HF1 HW1 BB k0 k1 k2
  have HF1 := HF2; have HW1 := HW2; have BB := BB2
  clear HF2 HW2 BB2
  obtain ⟨k0, k1, k2, -, -, -⟩ := BB.out.three
  go_wp2_with fail
  refine (lives12_any _ HF1.out).mono ?_; rintro e w5 ⟨rfl, hb5⟩
  go_wp2
  go_ret
  exact ⟨by simp, HW1.out.trans (hb5.mono HW1.out.size)⟩

set_option maxRecDepth 100000 in
set_option maxHeartbeats 1600000 in
theorem frameChg_im (ep sq : Int) (d : ByteArray) (p : Int) (b : Nat) (left : Int) (hb : b < 256) (hp0 : -9223372036854775808 ≤ p) (hp1 : p ≤ 9223372036854775807) (hl0 : -9223372036854775808 ≤ left) (hl1 : left ≤ 9223372036854775807) (h1 : d.size ≤ 1024) (hE : layE ep sq d.size = 0) (hl2 : 0 ≤ left) (hl3 : left < 16 + d.size) (hp2 : 0 ≤ p) (hp3 : p < d.size) (hb0 : b ≠ 0) (w : World) (hF : First w) :
    Calls Tryd.prog 6 #[.agg #[.int .i64 ep, .int .i64 sq, .string d], .agg #[.int .i64 p, .int .u8 b], .int .i64 left] w fun e w' => e = .returned (.bool true) ∧ Below w.heap.size w w' := by
  have HW0 := Lib.hid (((box_below w (.cells #[.int .i64 ep, .int .i64 sq, .string d] 23)).alloc (by simp) (.cells #[.int .i64 p, .int .u8 b] 35)).drew)
  have HB := Lib.hid (show Blk ((w.alloc (.cells #[.int .i64 ep, .int .i64 sq, .string d] 23)).alloc (.cells #[.int .i64 p, .int .u8 b] 35)).drew _ _ _ from (Blk.new w #[.int .i64 ep, .int .i64 sq, .string d] 23).alloc (.cells #[.int .i64 p, .int .u8 b] 35))
  have hF1 := hF.onto HW0.out
  have c1 := flay_any ep sq d (by unfold maxLen; omega) _ hF1
  obtain ⟨l1, ⟨l2, l3, l4, l5⟩, l6⟩ := layS_list hE
  have lz := layS_size hE
  rw [hE] at c1
  obtain ⟨y, hy⟩ : ∃ y, layS ep sq d = y := ⟨_, rfl⟩
  rw [hy] at c1 l1 lz
  have q1 : ((y.size : Int) == 16 + (d.size : Int)) = true := by simp; omega
  have q2 : (16 : Int) + (d.size : Int) ≤ (y.size : Int) := by omega
  have q3 : (y.size : Int) ≤ 1040 := by omega
  have q4 : decide ((y.size : Int) < 16 + (d.size : Int)) = false := by simp; omega
  have HF := Lib.hid hF1
  have C1 := Lib.hid c1; have HL := Lib.hid l1; have HZ := Lib.hid lz
  obtain ⟨k, rfl⟩ := Int.eq_ofNat_of_zero_le hl2
  have hk : k < y.size := by omega
  have ez : frmE (y.extract 0 k).data.toList = 18 := by
    rw [extract_list, List.drop_zero, Nat.sub_zero, l1]
    exact frm_short _ _ _ (by simpa using h1) k (by simp; omega)
  have c2 := fone_any (y.extract 0 k) (by unfold maxLen; simp; omega)
  obtain ⟨g1, g2, g3, g4⟩ := one_no ez (by omega)
  rw [g1, g2, g3, g4, ez] at c2
  have C2 := Lib.hid c2
  clear c2 ez g1 g2 g3 g4
  obtain ⟨i, rfl⟩ := Int.eq_ofNat_of_zero_le hp2
  have hi : i < d.size := by omega
  obtain ⟨old, hold⟩ : ∃ old, y.data.toList.getD (16 + i) 0 = old := ⟨_, rfl⟩
  obtain ⟨f1, f2⟩ := xor_byte old b hb
  obtain ⟨nb, hnb⟩ : ∃ nb, UInt8.ofNat (old.toNat ^^^ b) = nb := ⟨_, rfl⟩
  rw [hnb] at f1 f2
  have hset : frmE (y.data.toList.set (16 + i) nb) = 19 := by
    rw [l1]
    refine frm_changed _ _ _ (by simpa using h1) i b nb (by simpa using hi) hb0 hb ?_
    rw [f2, ← hold, l1]
    congr 2
    unfold frmL
    rw [List.getD_eq_getElem?_getD, List.getD_eq_getElem?_getD, List.getElem?_append_right (by simp [headL_length, leL_length])]
    congr 2
    simp [headL_length, leL_length]
  have e2 : (⟨(y.data.toList.set (16 + i) nb).toArray⟩ : ByteArray).data.toList = y.data.toList.set (16 + i) nb := by simp
  have c3 := fone_any ⟨(y.data.toList.set (16 + i) nb).toArray⟩ (by unfold maxLen; show (y.data.toList.set (16 + i) nb).toArray.size ≤ _; simp; omega)
  obtain ⟨g1, g2, g3, g4⟩ := one_no (s := ⟨(y.data.toList.set (16 + i) nb).toArray⟩) (e := 19) hset (by omega)
  rw [g1, g2, g3, g4, e2, hset] at c3
  have C3 := Lib.hid c3; have HOLD := Lib.hid hold
  have zb : ((b : Int) == 0) = false := by simp; omega
  have hi2 : 16 + i < y.size := by omega
  have hi3 : (16 : Int) + (i : Int) < (y.size : Int) := by omega
  clear c3 hset e2 g1 g2 g3 g4 hnb f2 hold
  clear c1 l1 lz hy hE hF hF1
  go_enter Tryd.func6, Tryd.ntmps6
  go_wp2_with fail
  go_region
  go_wp2_with fail
  refine C1.out.mono ?_; rintro e w1 ⟨rfl, hb1⟩
  have BB := Lib.hid (HB.out.onto hb1)
  have HW1 := Lib.hid (HW0.out.trans (hb1.mono HW0.out.size))
  have HF1 := Lib.hid (HF.out.onto hb1)
  clear hb1 HF HB HW0
  obtain ⟨k0, k1, k2, -, -, -⟩ := BB.out.three
  go_wp2_with fail
  refine (C2.out _ HF1.out).mono ?_; rintro e w2 ⟨rfl, hb2⟩
  have BB2 := Lib.hid ((BB.out.onto hb2).alloc (.cells #[.int .i64 0, .int .i64 0, .string ⟨#[]⟩] 23))
  have HW2 := Lib.hid ((HW1.out.trans (hb2.mono HW1.out.size)).alloc (HW1.out.trans (hb2.mono HW1.out.size)).size (.cells #[.int .i64 0, .int .i64 0, .string ⟨#[]⟩] 23))
  have HF2 := Lib.hid (HF1.out.onto ((hb2.alloc hb2.size (.cells #[.int .i64 0, .int .i64 0, .string ⟨#[]⟩] 23))))
  clear hb2 HF1 HW1 BB k0 k1 k2
  have HF1 := HF2; have HW1 := HW2; have BB := BB2
  clear HF2 HW2 BB2
  obtain ⟨k0, k1, k2, -, -, -⟩ := BB.out.three
  go_wp2_with fail
  obtain ⟨wq, hwq⟩ : ∃ wq, w2.alloc (.cells #[.int .i64 0, .int .i64 0, .string ⟨#[]⟩] 23) = wq := ⟨_, rfl⟩
  rw [hwq] at HW1 HF1 BB ⊢
  clear hwq k0 k1 k2
  have hcv := run_bytes_of_string (P := Tryd.prog) wq 9 36 5 y Tryd.underlying9 Tryd.underlying36 Tryd.underlying5
  obtain ⟨W3, hW3⟩ : ∃ W3, (wq.drew.alloc (.cells (bytesRow y (grownCap wq y.size 0 5)) 5 ((bytesRow y (grownCap wq y.size 0 5)).size, (bytesRow y (grownCap wq y.size 0 5)).size + 1))) = W3 := ⟨_, rfl⟩
  have hR : RowAt W3 wq.heap.size y.data.toList := by rw [← hW3]; exact rowAt_bytes wq y _ _
  have hbel : Below wq.heap.size wq W3 := by rw [← hW3]; exact (Below.refl _ _).drew.alloc (Nat.le_refl _) _
  rw [hW3] at hcv
  obtain ⟨cap, hcap⟩ : ∃ cap, grownCap wq y.size 0 5 = cap := ⟨_, rfl⟩
  rw [hcap] at hcv
  clear hcap hW3
  obtain ⟨g, hg⟩ : ∃ g, wq.heap.size = g := ⟨_, rfl⟩
  have hbb := Lib.hid (BB.out.onto hbel)
  have HW3 := Lib.hid (HW1.out.trans (hbel.mono HW1.out.size))
  have hgw : w.heap.size ≤ g := by rw [← hg]; exact HW1.out.size
  rw [hg] at hcv hR hbel
  rw [hcv]
  have HF3 := Lib.hid (HF1.out.below hbel (by rw [← hg]; exact HF1.out.2.2))
  have hfg : 0 < g := by rw [← hg]; exact HF1.out.2.2
  obtain ⟨hc, hf⟩ := hR (16 + i) (by simpa using hi2)
  rw [HOLD.out] at hc
  have HR2 := Lib.hid (rowAt_put hR (16 + i) (by simpa using hi2) nb)
  have HW4 := Lib.hid (HW3.out.setCell (p := ⟨g, 16 + i, none⟩) hgw (.int .u8 (nb.toNat : Nat)))
  have HF4 := Lib.hid (HF3.out.below (B := g) ((Below.refl g W3).setCell (p := ⟨g, 16 + i, none⟩) (Nat.le_refl _) (.int .u8 (nb.toNat : Nat))) hfg)
  clear hcv hR hbel hg HF3 HW3 HW1 HF1 BB hbb
  simp only [Result.andThen]
  rw [Oper.upon_value]
  go_wp2_with fail
  have hc2 := row_string HR2.out y.size cap (by simp)
  rw [hc2]
  clear hc2 hc hf
  simp only [Result.andThen]
  rw [Oper.upon_value]
  go_wp2_with fail
  refine (C3.out _ HF4.out).mono ?_; rintro e w5 ⟨rfl, hb5⟩
  have HW5 := Lib.hid ((HW4.out.trans (hb5.mono HW4.out.size)).alloc (HW4.out.trans (hb5.mono HW4.out.size)).size (.cells #[.int .i64 0, .int .i64 0, .string ⟨#[]⟩] 23))
  have HF5 := Lib.hid (HF4.out.onto ((hb5.alloc hb5.size (.cells #[.int .i64 0, .int .i64 0, .string ⟨#[]⟩] 23))))
  clear hb5 HF4 HW4
  go_wp2_with fail
  refine (lives12_any _ HF5.out).mono ?_; rintro e w6 ⟨rfl, hb6⟩
  go_wp2
  go_ret
  exact ⟨by simp, HW5.out.trans (hb6.mono HW5.out.size)⟩

set_option maxRecDepth 100000 in
set_option maxHeartbeats 1600000 in
theorem frameChanged_walk (x : Frm) (z : Chg) (left : Int) (w : World) (fx : x.fits) (fz : z.fits) (w2 : (Lit.int .i64 left).wf = true) (hF : First w) :
    Calls Tryd.prog 6 #[x.v, z.v, .int .i64 left] w fun e w' => e = .returned (.bool true) ∧ Below w.heap.size w w' := by
  obtain ⟨ep, sq, d⟩ := x
  obtain ⟨p, b⟩ := z
  obtain ⟨-, -, f0⟩ := fx
  obtain ⟨⟨p0, p1⟩, b0, b1⟩ := fz
  have f0 : d.size ≤ maxLen := f0
  have p0 : -9223372036854775808 ≤ p := p0
  have p1 : p ≤ 9223372036854775807 := p1
  have b0 : 0 ≤ b := b0
  have b1 : b ≤ 255 := b1
  obtain ⟨l0, l1⟩ := bounds_i64 w2
  obtain ⟨b, rfl⟩ := Int.eq_ofNat_of_zero_le b0
  have hb : b < 256 := by omega
  clear b0 b1 w2
  show Calls Tryd.prog 6 #[.agg #[.int .i64 ep, .int .i64 sq, .string d], .agg #[.int .i64 p, .int .u8 b], .int .i64 left] w _
  by_cases h1 : 1024 < d.size
  · have HW0 := Lib.hid (((box_below w (.cells #[.int .i64 ep, .int .i64 sq, .string d] 23)).alloc (by simp) (.cells #[.int .i64 p, .int .u8 b] 35)).drew)
    have C1 := Lib.hid (lives12_any _ (hF.onto HW0.out))
    unfold maxLen at f0
    clear hF
    go_enter Tryd.func6, Tryd.ntmps6
    go_wp2_with fail
    go_region
    go_wp2_with fail
    refine C1.out.mono ?_; rintro e w1 ⟨rfl, hb1⟩
    go_wp2
    go_ret
    exact ⟨rfl, HW0.out.trans (hb1.mono HW0.out.size)⟩
  by_cases hE : layE ep sq d.size = 0
  · by_cases a1 : left < 0
    · by_cases a2 : p < 0
      · exact frameChg_nn ep sq d p b left hb p0 p1 l0 l1 (by omega) hE a1 a2 w hF
      by_cases a3 : d.size ≤ p
      · exact frameChg_nb ep sq d p b left hb p0 p1 l0 l1 (by omega) hE a1 (by omega) a3 w hF
      by_cases a4 : b = 0
      · exact frameChg_nz ep sq d p b left hb p0 p1 l0 l1 (by omega) hE a1 (by omega) (by omega) a4 w hF
      · exact frameChg_nm ep sq d p b left hb p0 p1 l0 l1 (by omega) hE a1 (by omega) (by omega) a4 w hF
    by_cases b1 : 16 + d.size ≤ left
    · by_cases a2 : p < 0
      · exact frameChg_bn ep sq d p b left hb p0 p1 l0 l1 (by omega) hE (by omega) b1 a2 w hF
      by_cases a3 : d.size ≤ p
      · exact frameChg_bb ep sq d p b left hb p0 p1 l0 l1 (by omega) hE (by omega) b1 (by omega) a3 w hF
      by_cases a4 : b = 0
      · exact frameChg_bz ep sq d p b left hb p0 p1 l0 l1 (by omega) hE (by omega) b1 (by omega) (by omega) a4 w hF
      · exact frameChg_bm ep sq d p b left hb p0 p1 l0 l1 (by omega) hE (by omega) b1 (by omega) (by omega) a4 w hF
    · by_cases a2 : p < 0
      · exact frameChg_in ep sq d p b left hb p0 p1 l0 l1 (by omega) hE (by omega) (by omega) a2 w hF
      by_cases a3 : d.size ≤ p
      · exact frameChg_ib ep sq d p b left hb p0 p1 l0 l1 (by omega) hE (by omega) (by omega) (by omega) a3 w hF
      by_cases a4 : b = 0
      · exact frameChg_iz ep sq d p b left hb p0 p1 l0 l1 (by omega) hE (by omega) (by omega) (by omega) (by omega) a4 w hF
      · exact frameChg_im ep sq d p b left hb p0 p1 l0 l1 (by omega) hE (by omega) (by omega) (by omega) (by omega) a4 w hF
  · have HW0 := Lib.hid (((box_below w (.cells #[.int .i64 ep, .int .i64 sq, .string d] 23)).alloc (by simp) (.cells #[.int .i64 p, .int .u8 b] 35)).drew)
    have hF1 := hF.onto HW0.out
    have c1 := flay_any ep sq d f0 _ hF1
    have HF := Lib.hid hF1
    obtain ⟨v, hv⟩ : ∃ v, layE ep sq d.size = v := ⟨_, rfl⟩
    obtain ⟨y, hy⟩ : ∃ y, layS ep sq d = y := ⟨_, rfl⟩
    rw [hv, hy] at c1
    rw [hv] at hE
    have q1 : ((v : Int) == 0) = false := by simp; omega
    have q2 : ((v : Int) != 0) = true := by simp; omega
    have C1 := Lib.hid c1
    unfold maxLen at f0
    clear c1 hv hy hE hF hF1
    go_enter Tryd.func6, Tryd.ntmps6
    go_wp2_with fail
    go_region
    go_wp2_with fail
    refine C1.out.mono ?_; rintro e w1 ⟨rfl, hb1⟩
    have HW1 := Lib.hid (HW0.out.trans (hb1.mono HW0.out.size))
    have HF1 := Lib.hid (HF.out.onto hb1)
    clear hb1
    go_wp2_with fail
    refine (lives12_any _ HF1.out).mono ?_; rintro e w5 ⟨rfl, hb5⟩
    go_wp2
    go_ret
    exact ⟨rfl, HW1.out.trans (hb5.mono HW1.out.size)⟩
end Go.Proofs.YtnbhdlcjpcbkbaaDoor
