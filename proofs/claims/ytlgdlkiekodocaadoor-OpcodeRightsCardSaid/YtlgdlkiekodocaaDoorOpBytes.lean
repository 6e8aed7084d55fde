/-
  Contracts of the program's operations: Bytes.
-/
import Derived.Test.YtlgdlkiekodocaaDoorOpRight
import Derived.Test.YtlgdlkiekodocaaDoorNumDev
namespace Go.Proofs.YtlgdlkiekodocaaDoor
open Go.RowKit
set_option linter.unusedSimpArgs false

/-! Which of the kinds of fields an interface holds. -/
theorem is_num (v : Value) (w : World) : (Instr.typeAssert (.iface 48 v) 38 48 true).run Tryd.prog w = .ok (.tuple #[v, .bool true]) w := by kernel_rfl
theorem not_num_con (v : Value) (w : World) : (Instr.typeAssert (.iface 48 v) 38 50 true).run Tryd.prog w = .ok (.tuple #[.pointer none, .bool false]) w := by kernel_rfl
theorem not_num_nam (v : Value) (w : World) : (Instr.typeAssert (.iface 48 v) 38 52 true).run Tryd.prog w = .ok (.tuple #[.pointer none, .bool false]) w := by kernel_rfl
theorem not_con_num (v : Value) (w : World) : (Instr.typeAssert (.iface 50 v) 38 48 true).run Tryd.prog w = .ok (.tuple #[.pointer none, .bool false]) w := by kernel_rfl
theorem is_con (v : Value) (w : World) : (Instr.typeAssert (.iface 50 v) 38 50 true).run Tryd.prog w = .ok (.tuple #[v, .bool true]) w := by kernel_rfl
theorem not_con_nam (v : Value) (w : World) : (Instr.typeAssert (.iface 50 v) 38 52 true).run Tryd.prog w = .ok (.tuple #[.pointer none, .bool false]) w := by kernel_rfl
theorem not_nam_num (v : Value) (w : World) : (Instr.typeAssert (.iface 52 v) 38 48 true).run Tryd.prog w = .ok (.tuple #[.pointer none, .bool false]) w := by kernel_rfl
theorem not_nam_con (v : Value) (w : World) : (Instr.typeAssert (.iface 52 v) 38 50 true).run Tryd.prog w = .ok (.tuple #[.pointer none, .bool false]) w := by kernel_rfl
theorem is_nam (v : Value) (w : World) : (Instr.typeAssert (.iface 52 v) 38 52 true).run Tryd.prog w = .ok (.tuple #[v, .bool true]) w := by kernel_rfl

theorem laid_num (v : Int) (b o : Nat) (w : World) (hc : w.cell? ⟨b, o, none⟩ = some (.int .i64 v)) :
    Calls Tryd.prog 20 #[.iface 48 (.pointer (some ⟨b, o, none⟩))] w fun e w' => e = .returned (.string ⟨(leL (u64 v) 4).toArray⟩) ∧ Below w.heap.size w w' := by
  have hp := nput32_any v
  obtain ⟨A, hA⟩ : ∃ A : ByteArray, ⟨(leL (u64 v) 4).toArray⟩ = A := ⟨_, rfl⟩
  rw [hA] at hp ⊢
  have HP := Lib.hid hp
  clear hp hA
  have h1 := is_num
  go_enter Tryd.func20, Tryd.ntmps20
  go_wp2_with fail
  refine (HP.out _).mono ?_; rintro e w1 ⟨rfl, hb1⟩
  go_wp2
  go_ret
  exact ⟨rfl, hb1⟩
theorem laid_con (s : ByteArray) (b o : Nat) (w : World) (hc : w.cell? ⟨b, o, none⟩ = some (.string s)) :
    Calls Tryd.prog 20 #[.iface 50 (.pointer (some ⟨b, o, none⟩))] w fun e w' => e = .returned (.string s) ∧ w = w' := by
  have h1 := not_con_num
  have h2 := is_con
  go_enter Tryd.func20, Tryd.ntmps20
  go_wp2
  go_ret
  exact ⟨rfl, rfl⟩
theorem laid_nam (s : ByteArray) (b o : Nat) (w : World) (hc : w.cell? ⟨b, o, none⟩ = some (.string s)) :
    Calls Tryd.prog 20 #[.iface 52 (.pointer (some ⟨b, o, none⟩))] w fun e w' => e = .returned (.string s) ∧ w = w' := by
  have h1 := not_nam_num
  have h2 := not_nam_con
  have h3 := is_nam
  go_enter Tryd.func20, Tryd.ntmps20
  go_wp2
  go_ret
  exact ⟨rfl, rfl⟩

theorem ret_soc {a b : ByteArray} {x : Int} (h : a = b) : Ending.returned (.tuple #[.string a, .int .i64 x]) = .returned (.tuple #[.string b, .int .i64 x]) := by rw [h]
theorem rt_from {w w1 w2 : World} {b g : Nat} {cs fs : Array Value} (hx : Blk w1 b cs 23) (hB : Below w.heap.size w w1) (lo : w.heap.size ≤ b) (hg : Blk w2 g fs 38) (hgl : w1.heap.size ≤ g) (hb : Below w1.heap.size w1 w2) : Rt w b g cs fs w2 :=
  ⟨hx.onto hb, hg, hB.trans (hb.mono hB.size), Nat.lt_of_lt_of_le hx.lt hgl, lo⟩
/-- Where the loop over the fields stands. -/
def Bt2 (two : Bool) (S0 S1 S2 : ByteArray) (w : World) (b g : Nat) (fs cs : Array Value) (t i : Value) (wr : World) : Prop :=
  (t = .string S0 ∧ i = .int .i64 0 ∧ Rt w b g cs fs wr) ∨ (t = .string S1 ∧ i = .int .i64 1 ∧ Rt w b g cs fs wr) ∨ (two = true ∧ t = .string S2 ∧ i = .int .i64 2 ∧ Rt w b g cs fs wr)
-- GEN
set_option maxRecDepth 100000 in
set_option maxHeartbeats 1600000 in
theorem bytes_one (a n : Int) (s : ByteArray) (hs : s.size ≤ 4294967296) (hr : rightB 1 a n s.data.toList = true) (w : World) :
    Calls Tryd.prog 11 #[.agg #[.int .i64 1, .int .i64 a, .int .i64 n, .string s]] w fun e w' => e = .returned (.tuple #[.string ⟨(bodyL 1 a n s.data.toList).toArray⟩, .int .i64 0]) ∧ Below w.heap.size w w' := by
  have hq := op_right_any 1 a n s (by unfold maxLen; omega)
  rw [hr] at hq
  have HR := Lib.hid hq
  have HB := Lib.hid (body_low (k := 1) (a := a) (n := n) s (by decide) (by decide))
  clear hr hq
  have qA := laid_num a
  have zA := leL4_size (u64 a)
  have lA := mk_list (leL (u64 a) 4)
  obtain ⟨A, eA⟩ : ∃ A : ByteArray, ⟨(leL (u64 a) 4).toArray⟩ = A := ⟨_, rfl⟩
  rw [eA] at qA zA lA
  have QA := Lib.hid qA; have LA := Lib.hid lA
  clear qA lA eA
  obtain ⟨K, hK⟩ : ∃ K, strOfNums [1] = K := ⟨_, rfl⟩
  have hcv : ∀ W : World, _ := fun W => conv_one 1 W W.heap.size rfl
  have zK : K.size = 1 := by rw [← hK]; rfl
  have LK := Lib.hid (show K.data.toList = [UInt8.ofNat ((1 : Int) % 256).toNat] by rw [← hK]; rfl)
  rw [hK] at hcv
  have HCV := Lib.hid hcv
  clear hK hcv
  have y1 : (K ++ A).size = 5 := by rw [ByteArray.size_append, zK, zA]
  go_enter Tryd.func11, Tryd.ntmps11
  go_wp2_with fail
  refine (HR.out _).mono ?_; rintro e w1 ⟨rfl, hb1⟩
  have HX := Lib.hid ((Blk.new w #[.int .i64 1, .int .i64 a, .int .i64 n, .string s] 23).onto hb1)
  have HB1 := Lib.hid (((Below.refl w.heap.size w).alloc (Nat.le_refl _) (.cells #[.int .i64 1, .int .i64 a, .int .i64 n, .string s] 23)).trans (hb1.mono (by simp)))
  clear hb1
  obtain ⟨x0, x1, x2, x3, -, -, -, -⟩ := HX.out.four
  have hcv := HCV.out w1
  go_wp2_with fail
  refine (has_one _ _ _ _ _ (HX.out.alloc _)).mono ?_
  rintro e w2 ⟨g, rfl, hg, hgl, hb2⟩
  have HT := Lib.hid (rt_from (HX.out.alloc _) (HB1.out.alloc HB1.out.size _) (Nat.le_refl _) hg hgl hb2)
  clear hg hgl hb2 x0 x1 x2 x3 hcv
  go_wp2
  go_loopw [4, 17] (fun t i wr => Bt2 true (K) (K ++ A) (K ++ A ++ s) w w.heap.size g #[.iface 48 (.pointer (some ⟨w.heap.size, 1, none⟩)), .iface 50 (.pointer (some ⟨w.heap.size, 3, none⟩))] #[.int .i64 1, .int .i64 a, .int .i64 n, .string s] t i wr) (fun _ i _ => 2 - (intOf i).toNat)
  case atStart => exact .inl ⟨rfl, rfl, HT.out⟩
  case round =>
    clear HT
    rcases hrel with ⟨rfl, rfl, ht⟩ | ⟨rfl, rfl, ht⟩ | ⟨hz, rfl, rfl, ht⟩
    · obtain ⟨g0, g1⟩ := ht.f.duo
      obtain ⟨x0, x1, x2, x3, -, -, -, -⟩ := ht.x.four
      have HT := Lib.hid ht
      clear ht
      go_wp2_with fail
      refine (QA.out _ _ _ x1).mono ?_; rintro e w3 ⟨rfl, hb3⟩
      have HT2 := Lib.hid (HT.out.on hb3)
      clear hb3 HT
      go_wp2
      go_roundw
      case rel => exact .inr (.inl ⟨rfl, by go_num, HT2.out⟩)
      case measure => simp [intOf]
    · obtain ⟨g0, g1⟩ := ht.f.duo
      obtain ⟨x0, x1, x2, x3, -, -, -, -⟩ := ht.x.four
      have HT := Lib.hid ht
      clear ht
      go_wp2_with fail
      refine (laid_con _ _ _ _ x3).mono ?_; rintro e w3 ⟨rfl, rfl⟩
      have HT2 := Lib.hid HT.out
      clear HT
      go_wp2
      go_roundw
      case rel => exact .inr (.inr ⟨rfl, rfl, by go_num, HT2.out⟩)
      case measure => simp [intOf]
    · have HT2 := Lib.hid ht
      clear ht
      go_wp2
      go_ret2
      exact ⟨ret_soc (str_ext (by rw [mk_list, HB.out, app_list, app_list, LK.out, LA.out]; simp)), HT2.out.B⟩
set_option maxRecDepth 100000 in
set_option maxHeartbeats 1600000 in
theorem bytes_two (a n : Int) (s : ByteArray) (hs : s.size ≤ 4294967296) (hr : rightB 2 a n s.data.toList = true) (w : World) :
    Calls Tryd.prog 11 #[.agg #[.int .i64 2, .int .i64 a, .int .i64 n, .string s]] w fun e w' => e = .returned (.tuple #[.string ⟨(bodyL 2 a n s.data.toList).toArray⟩, .int .i64 0]) ∧ Below w.heap.size w w' := by
  have hq := op_right_any 2 a n s (by unfold maxLen; omega)
  rw [hr] at hq
  have HR := Lib.hid hq
  have HB := Lib.hid (body_two a n s)
  have hz : s.size = 0 := by
    rw [right2, list_size] at hr
    exact of_decide_eq_true (Bool.and_eq_true_iff.1 hr).2
  have HZ := Lib.hid (nil_size hz)
  clear hz
  clear hr hq
  have qA := laid_num a
  have zA := leL4_size (u64 a)
  have lA := mk_list (leL (u64 a) 4)
  obtain ⟨A, eA⟩ : ∃ A : ByteArray, ⟨(leL (u64 a) 4).toArray⟩ = A := ⟨_, rfl⟩
  rw [eA] at qA zA lA
  have QA := Lib.hid qA; have LA := Lib.hid lA
  clear qA lA eA
  have qN := laid_num n
  have zN := leL4_size (u64 n)
  have lN := mk_list (leL (u64 n) 4)
  obtain ⟨N, eN⟩ : ∃ A : ByteArray, ⟨(leL (u64 n) 4).toArray⟩ = A := ⟨_, rfl⟩
  rw [eN] at qN zN lN
  have QN := Lib.hid qN; have LN := Lib.hid lN
  clear qN lN eN
  obtain ⟨K, hK⟩ : ∃ K, strOfNums [2] = K := ⟨_, rfl⟩
  have hcv : ∀ W : World, _ := fun W => conv_one 2 W W.heap.size rfl
  have zK : K.size = 1 := by rw [← hK]; rfl
  have LK := Lib.hid (show K.data.toList = [UInt8.ofNat ((2 : Int) % 256).toNat] by rw [← hK]; rfl)
  rw [hK] at hcv
  have HCV := Lib.hid hcv
  clear hK hcv
  have y1 : (K ++ A).size = 5 := by rw [ByteArray.size_append, zK, zA]
  have y2 : (K ++ A ++ N).size = 9 := by rw [ByteArray.size_append, y1, zN]
  go_enter Tryd.func11, Tryd.ntmps11
  go_wp2_with fail
  refine (HR.out _).mono ?_; rintro e w1 ⟨rfl, hb1⟩
  have HX := Lib.hid ((Blk.new w #[.int .i64 2, .int .i64 a, .int .i64 n, .string s] 23).onto hb1)
  have HB1 := Lib.hid (((Below.refl w.heap.size w).alloc (Nat.le_refl _) (.cells #[.int .i64 2, .int .i64 a, .int .i64 n, .string s] 23)).trans (hb1.mono (by simp)))
  clear hb1
  obtain ⟨x0, x1, x2, x3, -, -, -, -⟩ := HX.out.four
  have hcv := HCV.out w1
  go_wp2_with fail
  refine (has_two _ _ _ _ _ (HX.out.alloc _)).mono ?_
  rintro e w2 ⟨g, rfl, hg, hgl, hb2⟩
  have HT := Lib.hid (rt_from (HX.out.alloc _) (HB1.out.alloc HB1.out.size _) (Nat.le_refl _) hg hgl hb2)
  clear hg hgl hb2 x0 x1 x2 x3 hcv
  go_wp2
  go_loopw [4, 17] (fun t i wr => Bt2 true (K) (K ++ A) (K ++ A ++ N) w w.heap.size g #[.iface 48 (.pointer (some ⟨w.heap.size, 1, none⟩)), .iface 48 (.pointer (some ⟨w.heap.size, 2, none⟩))] #[.int .i64 2, .int .i64 a, .int .i64 n, .string s] t i wr) (fun _ i _ => 2 - (intOf i).toNat)
  case atStart => exact .inl ⟨rfl, rfl, HT.out⟩
  case round =>
    clear HT
    rcases hrel with ⟨rfl, rfl, ht⟩ | ⟨rfl, rfl, ht⟩ | ⟨hz, rfl, rfl, ht⟩
    · obtain ⟨g0, g1⟩ := ht.f.duo
      obtain ⟨x0, x1, x2, x3, -, -, -, -⟩ := ht.x.four
      have HT := Lib.hid ht
      clear ht
      go_wp2_with fail
      refine (QA.out _ _ _ x1).mono ?_; rintro e w3 ⟨rfl, hb3⟩
      have HT2 := Lib.hid (HT.out.on hb3)
      clear hb3 HT
      go_wp2
      go_roundw
      case rel => exact .inr (.inl ⟨rfl, by go_num, HT2.out⟩)
      case measure => simp [intOf]
    · obtain ⟨g0, g1⟩ := ht.f.duo
      obtain ⟨x0, x1, x2, x3, -, -, -, -⟩ := ht.x.four
      have HT := Lib.hid ht
      clear ht
      go_wp2_with fail
      refine (QN.out _ _ _ x2).mono ?_; rintro e w3 ⟨rfl, hb3⟩
      have HT2 := Lib.hid (HT.out.on hb3)
      clear hb3 HT
      go_wp2
      go_roundw
      case rel => exact .inr (.inr ⟨rfl, rfl, by go_num, HT2.out⟩)
      case measure => simp [intOf]
    · have HT2 := Lib.hid ht
      clear ht
      go_wp2
      go_ret2
      exact ⟨ret_soc (str_ext (by rw [mk_list, HB.out, HZ.out, app_list, app_list, LK.out, LA.out, LN.out]; simp)), HT2.out.B⟩
set_option maxRecDepth 100000 in
set_option maxHeartbeats 1600000 in
theorem bytes_three (a n : Int) (s : ByteArray) (hs : s.size ≤ 4294967296) (hr : rightB 3 a n s.data.toList = true) (w : World) :
    Calls Tryd.prog 11 #[.agg #[.int .i64 3, .int .i64 a, .int .i64 n, .string s]] w fun e w' => e = .returned (.tuple #[.string ⟨(bodyL 3 a n s.data.toList).toArray⟩, .int .i64 0]) ∧ Below w.heap.size w w' := by
  have hq := op_right_any 3 a n s (by unfold maxLen; omega)
  rw [hr] at hq
  have HR := Lib.hid hq
  have HB := Lib.hid (body_low (k := 3) (a := a) (n := n) s (by decide) (by decide))
  clear hr hq
  have qA := laid_num a
  have zA := leL4_size (u64 a)
  have lA := mk_list (leL (u64 a) 4)
  obtain ⟨A, eA⟩ : ∃ A : ByteArray, ⟨(leL (u64 a) 4).toArray⟩ = A := ⟨_, rfl⟩
  rw [eA] at qA zA lA
  have QA := Lib.hid qA; have LA := Lib.hid lA
  clear qA lA eA
  obtain ⟨K, hK⟩ : ∃ K, strOfNums [3] = K := ⟨_, rfl⟩
  have hcv : ∀ W : World, _ := fun W => conv_one 3 W W.heap.size rfl
  have zK : K.size = 1 := by rw [← hK]; rfl
  have LK := Lib.hid (show K.data.toList = [UInt8.ofNat ((3 : Int) % 256).toNat] by rw [← hK]; rfl)
  rw [hK] at hcv
  have HCV := Lib.hid hcv
  clear hK hcv
  have y1 : (K ++ A).size = 5 := by rw [ByteArray.size_append, zK, zA]
  go_enter Tryd.func11, Tryd.ntmps11
  go_wp2_with fail
  refine (HR.out _).mono ?_; rintro e w1 ⟨rfl, hb1⟩
  have HX := Lib.hid ((Blk.new w #[.int .i64 3, .int .i64 a, .int .i64 n, .string s] 23).onto hb1)
  have HB1 := Lib.hid (((Below.refl w.heap.size w).alloc (Nat.le_refl _) (.cells #[.int .i64 3, .int .i64 a, .int .i64 n, .string s] 23)).trans (hb1.mono (by simp)))
  clear hb1
  obtain ⟨x0, x1, x2, x3, -, -, -, -⟩ := HX.out.four
  have hcv := HCV.out w1
  go_wp2_with fail
  refine (has_three _ _ _ _ _ (HX.out.alloc _)).mono ?_
  rintro e w2 ⟨g, rfl, hg, hgl, hb2⟩
  have HT := Lib.hid (rt_from (HX.out.alloc _) (HB1.out.alloc HB1.out.size _) (Nat.le_refl _) hg hgl hb2)
  clear hg hgl hb2 x0 x1 x2 x3 hcv
  go_wp2
  go_loopw [4, 17] (fun t i wr => Bt2 true (K) (K ++ A) (K ++ A ++ s) w w.heap.size g #[.iface 48 (.pointer (some ⟨w.heap.size, 1, none⟩)), .iface 52 (.pointer (some ⟨w.heap.size, 3, none⟩))] #[.int .i64 3, .int .i64 a, .int .i64 n, .string s] t i wr) (fun _ i _ => 2 - (intOf i).toNat)
  case atStart => exact .inl ⟨rfl, rfl, HT.out⟩
  case round =>
    clear HT
    rcases hrel with ⟨rfl, rfl, ht⟩ | ⟨rfl, rfl, ht⟩ | ⟨hz, rfl, rfl, ht⟩
    · obtain ⟨g0, g1⟩ := ht.f.duo
      obtain ⟨x0, x1, x2, x3, -, -, -, -⟩ := ht.x.four
      have HT := Lib.hid ht
      clear ht
      go_wp2_with fail
      refine (QA.out _ _ _ x1).mono ?_; rintro e w3 ⟨rfl, hb3⟩
      have HT2 := Lib.hid (HT.out.on hb3)
      clear hb3 HT
      go_wp2
      go_roundw
      case rel => exact .inr (.inl ⟨rfl, by go_num, HT2.out⟩)
      case measure => simp [intOf]
    · obtain ⟨g0, g1⟩ := ht.f.duo
      obtain ⟨x0, x1, x2, x3, -, -, -, -⟩ := ht.x.four
      have HT := Lib.hid ht
      clear ht
      go_wp2_with fail
      refine (laid_nam _ _ _ _ x3).mono ?_; rintro e w3 ⟨rfl, rfl⟩
      have HT2 := Lib.hid HT.out
      clear HT
      go_wp2
      go_roundw
      case rel => exact .inr (.inr ⟨rfl, rfl, by go_num, HT2.out⟩)
      case measure => simp [intOf]
    · have HT2 := Lib.hid ht
      clear ht
      go_wp2
      go_ret2
      exact ⟨ret_soc (str_ext (by rw [mk_list, HB.out, app_list, app_list, LK.out, LA.out]; simp)), HT2.out.B⟩
set_option maxRecDepth 100000 in
set_option maxHeartbeats 1600000 in
theorem bytes_four (a n : Int) (s : ByteArray) (hs : s.size ≤ 4294967296) (hr : rightB 4 a n s.data.toList = true) (w : World) :
    Calls Tryd.prog 11 #[.agg #[.int .i64 4, .int .i64 a, .int .i64 n, .string s]] w fun e w' => e = .returned (.tuple #[.string ⟨(bodyL 4 a n s.data.toList).toArray⟩, .int .i64 0]) ∧ Below w.heap.size w w' := by
  have hq := op_right_any 4 a n s (by unfold maxLen; omega)
  rw [hr] at hq
  have HR := Lib.hid hq
  have HB := Lib.hid (body_high (k := 4) (a := a) (n := n) s (by decide))
  clear hr hq
  obtain ⟨K, hK⟩ : ∃ K, strOfNums [4] = K := ⟨_, rfl⟩
  have hcv : ∀ W : World, _ := fun W => conv_one 4 W W.heap.size rfl
  have zK : K.size = 1 := by rw [← hK]; rfl
  have LK := Lib.hid (show K.data.toList = [UInt8.ofNat ((4 : Int) % 256).toNat] by rw [← hK]; rfl)
  rw [hK] at hcv
  have HCV := Lib.hid hcv
  clear hK hcv
  go_enter Tryd.func11, Tryd.ntmps11
  go_wp2_with fail
  refine (HR.out _).mono ?_; rintro e w1 ⟨rfl, hb1⟩
  have HX := Lib.hid ((Blk.new w #[.int .i64 4, .int .i64 a, .int .i64 n, .string s] 23).onto hb1)
  have HB1 := Lib.hid (((Below.refl w.heap.size w).alloc (Nat.le_refl _) (.cells #[.int .i64 4, .int .i64 a, .int .i64 n, .string s] 23)).trans (hb1.mono (by simp)))
  clear hb1
  obtain ⟨x0, x1, x2, x3, -, -, -, -⟩ := HX.out.four
  have hcv := HCV.out w1
  go_wp2_with fail
  refine (has_four _ _ _ _ _ (HX.out.alloc _)).mono ?_
  rintro e w2 ⟨g, rfl, hg, hgl, hb2⟩
  have HT := Lib.hid (rt_from (HX.out.alloc _) (HB1.out.alloc HB1.out.size _) (Nat.le_refl _) hg hgl hb2)
  clear hg hgl hb2 x0 x1 x2 x3 hcv
  go_wp2
  go_loopw [4, 17] (fun t i wr => Bt2 false (K) (K ++ s) (K) w w.heap.size g #[.iface 52 (.pointer (some ⟨w.heap.size, 3, none⟩))] #[.int .i64 4, .int .i64 a, .int .i64 n, .string s] t i wr) (fun _ i _ => 2 - (intOf i).toNat)
  case atStart => exact .inl ⟨rfl, rfl, HT.out⟩
  case round =>
    clear HT
    rcases hrel with ⟨rfl, rfl, ht⟩ | ⟨rfl, rfl, ht⟩ | ⟨hz, rfl, rfl, ht⟩
    · have g0 := ht.f.lone
      obtain ⟨x0, x1, x2, x3, -, -, -, -⟩ := ht.x.four
      have HT := Lib.hid ht
      clear ht
      go_wp2_with fail
      refine (laid_nam _ _ _ _ x3).mono ?_; rintro e w3 ⟨rfl, rfl⟩
      have HT2 := Lib.hid HT.out
      clear HT
      go_wp2
      go_roundw
      case rel => exact .inr (.inl ⟨rfl, by go_num, HT2.out⟩)
      case measure => simp [intOf]
    · have HT2 := Lib.hid ht
      clear ht
      go_wp2
      go_ret2
      exact ⟨ret_soc (str_ext (by rw [mk_list, HB.out, app_list, LK.out]; simp)), HT2.out.B⟩
    · cases hz
-- END GEN
set_option maxRecDepth 100000 in
set_option maxHeartbeats 1600000 in
theorem bytes_bare (k a n : Int) (hk : 5 ≤ k) (hk2 : k ≤ 8) (s : ByteArray) (hs : s.size ≤ 4294967296) (hr : rightB k a n s.data.toList = true) (w : World) :
    Calls Tryd.prog 11 #[.agg #[.int .i64 k, .int .i64 a, .int .i64 n, .string s]] w fun e w' => e = .returned (.tuple #[.string ⟨(bodyL k a n s.data.toList).toArray⟩, .int .i64 0]) ∧ Below w.heap.size w w' := by
  have hq := op_right_any k a n s (by unfold maxLen; omega)
  rw [hr] at hq
  have HR := Lib.hid hq
  have HB := Lib.hid (body_high (k := k) (a := a) (n := n) s (by omega))
  have hz : s.size = 0 := by
    rw [right5 hk hk2, list_size] at hr
    exact of_decide_eq_true (Bool.and_eq_true_iff.1 hr).2
  have HZ := Lib.hid (nil_size hz)
  clear hz hr hq
  obtain ⟨K, hK⟩ : ∃ K, strOfNums [k] = K := ⟨_, rfl⟩
  have hcv : ∀ W : World, _ := fun W => conv_one k W W.heap.size rfl
  have LK := Lib.hid (show K.data.toList = [UInt8.ofNat (k % 256).toNat] by rw [← hK, one_list, show k % 256 = k by omega])
  rw [hK] at hcv
  have HCV := Lib.hid hcv
  clear hK hcv
  go_enter Tryd.func11, Tryd.ntmps11
  go_wp2_with fail
  refine (HR.out _).mono ?_; rintro e w1 ⟨rfl, hb1⟩
  have HX := Lib.hid ((Blk.new w #[.int .i64 k, .int .i64 a, .int .i64 n, .string s] 23).onto hb1)
  have HB1 := Lib.hid (((Below.refl w.heap.size w).alloc (Nat.le_refl _) (.cells #[.int .i64 k, .int .i64 a, .int .i64 n, .string s] 23)).trans (hb1.mono (by simp)))
  clear hb1
  obtain ⟨x0, x1, x2, x3, -, -, -, -⟩ := HX.out.four
  have hcv := HCV.out w1
  go_wp2_with fail
  refine (has_none k (.inr (by omega)) _ _ _ _ _ (HX.out.alloc _)).mono ?_
  rintro e w2 ⟨rfl, hw2⟩
  have HB2 := Lib.hid (show Below w.heap.size w w2 by rw [← hw2]; exact (HB1.out.alloc HB1.out.size _).drew)
  clear hw2 x0 x1 x2 x3 hcv
  go_wp2
  go_loopw [4, 17] (fun t i wr => t = .string K ∧ i = .int .i64 0 ∧ wr = w2) (fun _ _ _ => 0)
  case atStart => exact ⟨rfl, rfl, rfl⟩
  case round =>
    obtain ⟨rfl, rfl, rfl⟩ := hrel
    go_wp2
    go_ret2
    exact ⟨ret_soc (str_ext (by rw [mk_list, HB.out, HZ.out, LK.out])), HB2.out⟩
theorem bytes_no (k a n : Int) (s : ByteArray) (hs : s.size ≤ 4294967296) (hr : rightB k a n s.data.toList = false) (w : World) :
    Calls Tryd.prog 11 #[.agg #[.int .i64 k, .int .i64 a, .int .i64 n, .string s]] w fun e w' => e = .returned (.tuple #[.string ⟨#[]⟩, .int .i64 2]) ∧ Below w.heap.size w w' := by
  have hq := op_right_any k a n s (by unfold maxLen; omega)
  rw [hr] at hq
  have HR := Lib.hid hq
  clear hr hq
  go_enter Tryd.func11, Tryd.ntmps11
  go_wp2_with fail
  refine (HR.out _).mono ?_; rintro e w1 ⟨rfl, hb1⟩
  go_wp2
  go_ret2
  exact ⟨rfl, ((Below.refl _ _).alloc (Nat.le_refl _) _).trans (hb1.mono (by simp))⟩
/-- Bytes: an operation's, or that it may not be. -/
theorem op_bytes_any (k a n : Int) (s : ByteArray) (hs : s.size ≤ 4294967296) (w : World) :
    Calls Tryd.prog 11 #[.agg #[.int .i64 k, .int .i64 a, .int .i64 n, .string s]] w fun e w' =>
      e = .returned (.tuple #[.string (bytesR k a n s).1, .int .i64 (bytesR k a n s).2]) ∧ Below w.heap.size w w' := by
  unfold bytesR
  cases hr : rightB k a n s.data.toList
  · exact bytes_no k a n s hs hr w
  · rw [if_pos rfl]
    rcases opKinds k with rfl | rfl | rfl | rfl | g | g
    · exact bytes_one a n s hs hr w
    · exact bytes_two a n s hs hr w
    · exact bytes_three a n s hs hr w
    · exact bytes_four a n s hs hr w
    · exact bytes_bare k a n g.1 g.2 s hs hr w
    · rw [right_off g] at hr; cases hr
end Go.Proofs.YtlgdlkiekodocaaDoor
