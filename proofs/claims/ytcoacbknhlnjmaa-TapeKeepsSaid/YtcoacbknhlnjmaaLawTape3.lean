/-
  The walks of TapeKeeps and TapeNobody (layer 7).
-/
import Derived.Test.YtcoacbknhlnjmaaLawTape
namespace Go.Proofs.Ytcoacbknhlnjmaa
open Go.RowKit
set_option linter.unusedVariables false

theorem slL_pre (o m : List UInt8) (k : Nat) (h : 32 * (k + 1) ≤ o.length) : slL (o ++ m) k = slL o k := by
  unfold slL
  rw [List.drop_append_of_le_length (by omega), List.take_append_of_le_length (by rw [List.length_drop]; omega)]
theorem mixK_pre (o m c : List UInt8) (q : Nat) (hq : o.length = 32 * q) (k : Nat) (hk : k ≤ q) : (mixK o (o ++ m) c k).1 = o.take (32 * k) := by
  induction k with
  | zero => simp [mixK]
  | succ k ih =>
    refine mix_on o _ _ k (ih (by omega)) ?_
    unfold pk
    rw [if_pos (slL_pre o m k (by omega)).symm]
theorem mixK_on (o m c : List UInt8) (q : Nat) (hq : o.length = 32 * q) (j : Nat) : ∃ r, (mixK o (o ++ m) c (q + j)).1 = o ++ r := by
  induction j with
  | zero => exact ⟨[], by rw [Nat.add_zero, mixK_pre o m c q hq q (Nat.le_refl _), List.take_of_length_le (by omega), List.append_nil]⟩
  | succ j ih =>
    obtain ⟨r, hr⟩ := ih
    show ∃ r, (if pk o (o ++ m) c (q + j) (mixK o (o ++ m) c (q + j)).2 = [] then (mixK o (o ++ m) c (q + j)).1 else (mixK o (o ++ m) c (q + j)).1 ++ List.replicate (32 * (q + j) - (mixK o (o ++ m) c (q + j)).1.length) 0 ++ pk o (o ++ m) c (q + j) (mixK o (o ++ m) c (q + j)).2) = o ++ r
    rw [hr]
    split
    · exact ⟨r, rfl⟩
    · exact ⟨r ++ List.replicate (32 * (q + j) - (o ++ r).length) 0 ++ pk o (o ++ m) c (q + j) (mixK o (o ++ m) c (q + j)).2, by simp only [List.append_assoc]⟩
theorem mixL_on (o m c : List UInt8) (q : Nat) (hq : o.length = 32 * q) : ∃ r, (mixL o (o ++ m) c).1 = o ++ r := by
  unfold mixL
  obtain ⟨j, hj⟩ : ∃ j, mixM o (o ++ m) = q + j := ⟨mixM o (o ++ m) - q, by unfold mixM cntN; omega⟩
  rw [hj]
  exact mixK_on o m c q hq j
theorem mixOf_on (o m c : ByteArray) (q : Nat) (hq : o.size = 32 * q) : o.size ≤ (mixOf o (o ++ m) c).size ∧ (mixOf o (o ++ m) c).extract 0 o.size = o := by
  obtain ⟨r, hr⟩ := mixL_on o.data.toList m.data.toList c.data.toList q (by simpa using hq)
  have e : (mixOf o (o ++ m) c).data.toList = o.data.toList ++ r := by rw [mixOf_list, app_list, hr]
  have z : (mixOf o (o ++ m) c).size = o.size + r.length := by
    have := congrArg List.length e
    simpa using this
  refine ⟨by omega, str_ext ?_⟩
  rw [extract_list, e]
  simp

set_option maxRecDepth 100000 in
set_option maxHeartbeats 800000 in
theorem tapeKeeps_walk (s m c : ByteArray) (_w0 : s.size ≤ maxLen) (_w1 : m.size ≤ maxLen) (_w2 : c.size ≤ maxLen) (w : World) :
    Calls Try.prog 4 #[.string s, .string m, .string c] w fun e w' => e = .returned (.bool true) ∧ Below w.heap.size w w' := by
  clear _w0 _w1 _w2
  by_cases hs : s.size ≤ 300 ∧ m.size ≤ 300 ∧ c.size ≤ 100
  · obtain ⟨s0, s1, s2⟩ := hs
    obtain ⟨q, hq⟩ : ∃ q, s.size / 32 = q := ⟨_, rfl⟩
    have e1 : ((s.size : Int) / 32 * 32) = ((32 * q : Nat) : Int) := by omega
    have e2 : 32 * q ≤ s.size := by omega
    go_enter Try.func4, Try.ntmps4
    go_wp2_with fail
    refine (tnew_any _).mono ?_
    rintro e w1 ⟨b, rfl, hb, ht, hb1⟩
    go_wp2_with fail
    obtain ⟨t, hte⟩ : ∃ t, s.extract 0 (32 * q) = t := ⟨_, rfl⟩
    have hts : t.size = 32 * q := by rw [← hte, ByteArray.size_extract]; omega
    rw [hte]
    obtain ⟨hx1, hx2⟩ := mixOf_on t m c q hts
    have hx3 := mixOf_size t (t ++ m) c
    have c2 := tappend_yes ht t (by simp; omega)
    rw [show ByteArray.empty ++ t = t from str_ext (by simp)] at c2
    have b4 : t.size + m.size ≤ 4294967296 := by omega
    have b5 : t.size ≤ 4294967296 := by omega
    have b6 : (t ++ m).size ≤ 4294967296 := by rw [ByteArray.size_append]; omega
    have c4 := fun (W : World) (h : Tap W b t (t ++ m)) => tcrash_yes h b5 b6 c
    have b7 : (mixOf t (t ++ m) c).size ≤ 4294967296 := by rw [ByteArray.size_append] at hx3; omega
    obtain ⟨x, hxe⟩ : ∃ x, mixOf t (t ++ m) c = x := ⟨_, rfl⟩
    rw [hxe] at hx1 hx2 b7
    simp only [hxe] at c4
    have c5 := fun (W : World) (h : Tap W b x x) => tdirty_b b7 b7 h
    rw [(unlL_nil x.data.toList x.data.toList).2 rfl] at c5
    have C2 := Lib.hid c2; have C4 := Lib.hid c4; have C5 := Lib.hid c5; have BB := Lib.hid b4
    clear c2 c4 c5 hq e1 e2 hte hts hx3 hxe b4 b5 b6 b7 ht
    refine C2.out.mono ?_
    rintro e w2 ⟨rfl, t2, a2⟩
    have hB2 := hb1.trans (a2.to_below (by simp; omega) hb1.size)
    have T2 := Lib.hid t2; have HB2 := Lib.hid hB2; clear t2 a2 hB2 C2 hb1
    go_wp2_with fail
    refine (tsync_yes T2.out).mono ?_
    rintro e w3 ⟨rfl, t3, a3⟩
    have hB3 := HB2.out.trans (a3.to_below (by simp; omega) HB2.out.size)
    have T3 := Lib.hid t3; have HB3 := Lib.hid hB3; clear t3 a3 hB3 T2 HB2
    go_wp2_with fail
    refine (tappend_yes T3.out m BB.out).mono ?_
    rintro e w4 ⟨rfl, t4, a4⟩
    have hB4 := HB3.out.trans (a4.to_below (by simp; omega) HB3.out.size)
    have T4 := Lib.hid t4; have HB4 := Lib.hid hB4; clear t4 a4 hB4 T3 HB3
    go_wp2_with fail
    refine (C4.out _ T4.out).mono ?_
    rintro e w5 ⟨rfl, t5, a5⟩
    have hB5 := HB4.out.trans (a5.to_below (by simp; omega) HB4.out.size)
    have T5 := Lib.hid t5; have HB5 := Lib.hid hB5; clear t5 a5 hB5 T4 HB4
    go_wp2_with fail
    refine (tnow_b T5.out).mono ?_
    rintro e w6 ⟨rfl, hb6⟩
    have t6 := T5.out.below hb6
    have hB6 := HB5.out.trans (hb6.mono HB5.out.size)
    have T6 := Lib.hid t6; have HB6 := Lib.hid hB6; clear t6 hb6 hB6 T5 HB5
    go_wp2_with fail
    refine (tnow_b T6.out).mono ?_
    rintro e w7 ⟨rfl, hb7⟩
    have t7 := T6.out.below hb7
    have hB7 := HB6.out.trans (hb7.mono HB6.out.size)
    have T7 := Lib.hid t7; have HB7 := Lib.hid hB7; clear t7 hb7 hB7 T6 HB6
    go_wp2_with fail
    refine (tkept_b T7.out).mono ?_
    rintro e w8 ⟨rfl, hb8⟩
    have t8 := T7.out.below hb8
    have hB8 := HB7.out.trans (hb8.mono HB7.out.size)
    have T8 := Lib.hid t8; have HB8 := Lib.hid hB8; clear t8 hb8 hB8 T7 HB7
    go_wp2_with fail
    refine (tnow_b T8.out).mono ?_
    rintro e w9 ⟨rfl, hb9⟩
    have t9 := T8.out.below hb9
    have hB9 := HB8.out.trans (hb9.mono HB8.out.size)
    have T9 := Lib.hid t9; have HB9 := Lib.hid hB9; clear t9 hb9 hB9 T8 HB8
    go_wp2_with fail
    refine (C5.out _ T9.out).mono ?_
    rintro e w10 ⟨rfl, hb10⟩
    have hB10 := HB9.out.trans (hb10.mono HB9.out.size)
    have HB10 := Lib.hid hB10; clear hb10 hB10 T9 HB9
    go_wp2_with fail
    refine (lives7_any _).mono ?_
    rintro e w11 ⟨rfl, hb11⟩
    go_wp2
    go_ret
    exact ⟨by simp, HB10.out.trans (hb11.mono HB10.out.size)⟩
  · rcases (show 300 < s.size ∨ (s.size ≤ 300 ∧ 300 < m.size) ∨ (s.size ≤ 300 ∧ m.size ≤ 300 ∧ 100 < c.size) by omega) with h | ⟨h1, h⟩ | ⟨h1, h2, h⟩
    all_goals
      clear hs
      go_enter Try.func4, Try.ntmps4
      go_wp2_with fail
      refine (lives7_any _).mono ?_; rintro e w1 ⟨rfl, hb1⟩
      go_wp2
      go_ret
      exact ⟨rfl, hb1⟩

theorem zero_below (w : World) : Below w.heap.size w (w.alloc (.cells #[.string ByteArray.empty, .string ByteArray.empty, .bool false] 44)).drew := ((Below.refl _ _).alloc (Nat.le_refl _) _).drew
theorem tnow_n {w : World} {v : Value} (h : Nob w v) : Calls Try.prog 12 #[v] w fun e w' => e = .returned (.string ByteArray.empty) ∧ Below w.heap.size w w' :=
  (tnow_v (views_nob h)).mono fun e w' ⟨he, hw⟩ => ⟨he, hw ▸ zero_below w⟩
theorem tkept_n {w : World} {v : Value} (h : Nob w v) : Calls Try.prog 13 #[v] w fun e w' => e = .returned (.string ByteArray.empty) ∧ Below w.heap.size w w' :=
  (tkept_v (views_nob h)).mono fun e w' ⟨he, hw⟩ => ⟨he, hw ▸ zero_below w⟩
theorem tdirty_n {w : World} {v : Value} (h : Nob w v) : Calls Try.prog 14 #[v] w fun e w' => e = .returned (.int .i64 0) ∧ Below w.heap.size w w' := by
  have c := tdirty_v (views_nob h) (zero_below w) (by simp) (by simp)
  rw [(unlL_nil ByteArray.empty.data.toList ByteArray.empty.data.toList).2 rfl] at c
  exact c
theorem tsectors_n {w : World} {v : Value} (h : Nob w v) : Calls Try.prog 16 #[v] w fun e w' => e = .returned (.int .i64 0) ∧ Below w.heap.size w w' :=
  tsectors_v (views_nob h) (zero_below w) (by simp) (by simp)
theorem tcopy_n {w : World} {v : Value} (h : Nob w v) : Calls Try.prog 8 #[v] w fun e w' => e = .returned (.pointer none) ∧ Below w.heap.size w w' :=
  (tcopy_nob h).mono fun e w' ⟨he, hw⟩ => ⟨he, hw ▸ Below.refl _ _⟩

set_option maxRecDepth 100000 in
set_option maxHeartbeats 1600000 in
theorem tapeNobody_walk (s : ByteArray) (n : Int) (w0 : s.size ≤ maxLen) (_w1 : (Lit.int .i64 n).wf = true) (w : World) :
    Calls Try.prog 5 #[.string s, .int .i64 n] w fun e w' => e = .returned (.bool true) ∧ Below w.heap.size w w' := by
  have nn : ∀ X : World, Nob X (.pointer none) := fun X => .inl rfl
  have NN := Lib.hid nn; have HS := Lib.hid w0
  clear nn w0 _w1
  go_enter Try.func5, Try.ntmps5
  go_wp2_with fail
  have t0 : Tap3 (w.alloc (.cells #[.string ⟨#[]⟩, .string ⟨#[]⟩, .bool false] 44)) w.heap.size ByteArray.empty ByteArray.empty false := Tap3.new w ByteArray.empty ByteArray.empty false
  have hb0 := (Below.refl w.heap.size w).alloc (Nat.le_refl _) (.cells #[.string ⟨#[]⟩, .string ⟨#[]⟩, .bool false] 44)
  obtain ⟨W0, hW⟩ : ∃ W, w.alloc (.cells #[.string ⟨#[]⟩, .string ⟨#[]⟩, .bool false] 44) = W := ⟨_, rfl⟩
  rw [hW] at t0 hb0 ⊢
  have z0 : Nob W0 (.pointer (some ⟨w.heap.size, 0, none⟩)) := .inr ⟨_, rfl, t0⟩
  have Z0 := Lib.hid z0; have HB0 := Lib.hid hb0
  clear z0 hb0 hW t0
  refine (tappend_nob (NN.out _) s HS.out).mono ?_
  rintro e w1 ⟨rfl, hb1⟩
  have z1 := Z0.out.below hb1
  have hB1 := HB0.out.trans (hb1.mono HB0.out.size)
  have Z1 := Lib.hid z1; have HB1 := Lib.hid hB1; clear z1 hb1 hB1
  go_wp2_with fail
  refine (tappend_nob Z1.out s HS.out).mono ?_
  rintro e w2 ⟨rfl, hb2⟩
  have z2 := Z1.out.below hb2
  have hB2 := HB1.out.trans (hb2.mono HB1.out.size)
  have Z2 := Lib.hid z2; have HB2 := Lib.hid hB2; clear z2 hb2 hB2
  go_wp2_with fail
  refine (tsync_nob (NN.out _)).mono ?_
  rintro e w3 ⟨rfl, hb3⟩
  have z3 := Z2.out.below hb3
  have hB3 := HB2.out.trans (hb3.mono HB2.out.size)
  have Z3 := Lib.hid z3; have HB3 := Lib.hid hB3; clear z3 hb3 hB3
  go_wp2_with fail
  refine (tsync_nob Z3.out).mono ?_
  rintro e w4 ⟨rfl, hb4⟩
  have z4 := Z3.out.below hb4
  have hB4 := HB3.out.trans (hb4.mono HB3.out.size)
  have Z4 := Lib.hid z4; have HB4 := Lib.hid hB4; clear z4 hb4 hB4
  go_wp2_with fail
  refine (tnow_n (NN.out _)).mono ?_
  rintro e w5 ⟨rfl, hb5⟩
  have z5 := Z4.out.below hb5
  have hB5 := HB4.out.trans (hb5.mono HB4.out.size)
  have Z5 := Lib.hid z5; have HB5 := Lib.hid hB5; clear z5 hb5 hB5
  go_wp2_with fail
  refine (tnow_n Z5.out).mono ?_
  rintro e w6 ⟨rfl, hb6⟩
  have z6 := Z5.out.below hb6
  have hB6 := HB5.out.trans (hb6.mono HB5.out.size)
  have Z6 := Lib.hid z6; have HB6 := Lib.hid hB6; clear z6 hb6 hB6
  go_wp2_with fail
  refine (tkept_n (NN.out _)).mono ?_
  rintro e w7 ⟨rfl, hb7⟩
  have z7 := Z6.out.below hb7
  have hB7 := HB6.out.trans (hb7.mono HB6.out.size)
  have Z7 := Lib.hid z7; have HB7 := Lib.hid hB7; clear z7 hb7 hB7
  go_wp2_with fail
  refine (tcut_nob (NN.out _) n).mono ?_
  rintro e w8 ⟨rfl, hb8⟩
  have z8 := Z7.out.below hb8
  have hB8 := HB7.out.trans (hb8.mono HB7.out.size)
  have Z8 := Lib.hid z8; have HB8 := Lib.hid hB8; clear z8 hb8 hB8
  go_wp2_with fail
  refine (tcut_nob Z8.out n).mono ?_
  rintro e w9 ⟨rfl, hb9⟩
  have z9 := Z8.out.below hb9
  have hB9 := HB8.out.trans (hb9.mono HB8.out.size)
  have Z9 := Lib.hid z9; have HB9 := Lib.hid hB9; clear z9 hb9 hB9
  go_wp2_with fail
  refine (tdirty_n (NN.out _)).mono ?_
  rintro e w10 ⟨rfl, hb10⟩
  have z10 := Z9.out.below hb10
  have hB10 := HB9.out.trans (hb10.mono HB9.out.size)
  have Z10 := Lib.hid z10; have HB10 := Lib.hid hB10; clear z10 hb10 hB10
  go_wp2_with fail
  refine (tsectors_n Z10.out).mono ?_
  rintro e w11 ⟨rfl, hb11⟩
  have z11 := Z10.out.below hb11
  have hB11 := HB10.out.trans (hb11.mono HB10.out.size)
  have Z11 := Lib.hid z11; have HB11 := Lib.hid hB11; clear z11 hb11 hB11
  go_wp2_with fail
  refine (tcrash_nob Z11.out s).mono ?_
  rintro e w12 ⟨rfl, hb12⟩
  have z12 := Z11.out.below hb12
  have hB12 := HB11.out.trans (hb12.mono HB11.out.size)
  have Z12 := Lib.hid z12; have HB12 := Lib.hid hB12; clear z12 hb12 hB12
  go_wp2_with fail
  refine (tcopy_n (NN.out _)).mono ?_
  rintro e w13 ⟨rfl, hb13⟩
  have z13 := Z12.out.below hb13
  have hB13 := HB12.out.trans (hb13.mono HB12.out.size)
  have Z13 := Lib.hid z13; have HB13 := Lib.hid hB13; clear z13 hb13 hB13
  go_wp2_with fail
  refine (tcopy_n Z13.out).mono ?_
  rintro e w14 ⟨rfl, hb14⟩
  have z14 := Z13.out.below hb14
  have hB14 := HB13.out.trans (hb14.mono HB13.out.size)
  have Z14 := Lib.hid z14; have HB14 := Lib.hid hB14; clear z14 hb14 hB14
  go_wp2_with fail
  refine (lives7_any _).mono ?_
  rintro e w15 ⟨rfl, hb15⟩
  go_wp2
  go_ret
  exact ⟨by simp, HB14.out.trans (hb15.mono HB14.out.size)⟩
end Go.Proofs.Ytcoacbknhlnjmaa
