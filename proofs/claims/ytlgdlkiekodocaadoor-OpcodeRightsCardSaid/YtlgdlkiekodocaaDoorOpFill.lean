/-
  Contracts of the program's operations: Read.
-/
import Derived.Test.YtlgdlkiekodocaaDoorOpBytes
import Derived.Test.YtlgdlkiekodocaaDoorOpRef3
namespace Go.Proofs.YtlgdlkiekodocaaDoor
open Go.RowKit
set_option linter.unusedSimpArgs false

/-- A number was filled in: what Get32 made, then the cell. -/
def FillN (b o : Nat) (x : Int) (ok : Bool) (w : World) (e : Ending) (w' : World) : Prop :=
  ∃ w1, e = .returned (.tuple #[.int .i64 4, .bool ok]) ∧ Below w.heap.size w w1 ∧ w' = w1.setCell ⟨b, o, none⟩ (.int .i64 x)
theorem fill_num (v : Int) (s : ByteArray) (hs : s.size ≤ maxLen) (b o : Nat) (w : World) (hlt : b < w.heap.size) (hc : w.cell? ⟨b, o, none⟩ = some (.int .i64 v)) (hf : w.frozen? ⟨b, o, none⟩ = false) :
    Calls Tryd.prog 21 #[.iface 48 (.pointer (some ⟨b, o, none⟩)), .string s] w (FillN b o (getI s.data.toList 0 4).1 (getI s.data.toList 0 4).2 w) := by
  have hg := nget32_b s hs 0
  obtain ⟨⟨x, ok⟩, hx⟩ : ∃ x, getI s.data.toList 0 4 = x := ⟨_, rfl⟩
  rw [hx] at hg ⊢
  have HG := Lib.hid hg
  clear hg hx
  have h1 := is_num
  have HL := Lib.hid hlt; have HC := Lib.hid hc; have HF := Lib.hid hf
  clear hlt hc hf
  go_enter Tryd.func21, Tryd.ntmps21
  go_wp2_with fail
  refine (HG.out _).mono ?_; rintro e w1 ⟨rfl, hb1⟩
  have c1 : w1.cell? ⟨b, o, none⟩ = some (.int .i64 v) := (hb1.cell (p := ⟨b, o, none⟩) HL.out).trans HC.out
  have f1 : w1.frozen? ⟨b, o, none⟩ = false := (hb1.frozen (p := ⟨b, o, none⟩) HL.out).trans HF.out
  have HB := Lib.hid hb1
  clear hb1
  go_wp2
  go_ret2
  exact ⟨w1, rfl, HB.out, rfl⟩
theorem fill_con (v : Value) (s : ByteArray) (b o : Nat) (w : World) (hc : w.cell? ⟨b, o, none⟩ = some v) (hf : w.frozen? ⟨b, o, none⟩ = false) :
    Calls Tryd.prog 21 #[.iface 50 (.pointer (some ⟨b, o, none⟩)), .string s] w fun e w' => e = .returned (.tuple #[.int .i64 s.size, .bool true]) ∧ w' = w.setCell ⟨b, o, none⟩ (.string s) := by
  have h1 := not_con_num
  have h2 := is_con
  go_enter Tryd.func21, Tryd.ntmps21
  go_wp2
  go_ret2
  exact ⟨rfl, rfl⟩
theorem fill_nam (v : Value) (s : ByteArray) (b o : Nat) (w : World) (hc : w.cell? ⟨b, o, none⟩ = some v) (hf : w.frozen? ⟨b, o, none⟩ = false) :
    Calls Tryd.prog 21 #[.iface 52 (.pointer (some ⟨b, o, none⟩)), .string s] w fun e w' => e = .returned (.tuple #[.int .i64 s.size, .bool true]) ∧ w' = w.setCell ⟨b, o, none⟩ (.string s) := by
  have h1 := not_nam_num
  have h2 := not_nam_con
  have h3 := is_nam
  go_enter Tryd.func21, Tryd.ntmps21
  go_wp2
  go_ret2
  exact ⟨rfl, rfl⟩

theorem right_full {k : Int} (hk : k < 1 ∨ 4 < k) (a n : Int) {s : ByteArray} (h : s.size ≠ 0) : rightB k a n s.data.toList = false := by
  rcases opKinds k with g | g | g | g | g | g
  · omega
  · omega
  · omega
  · omega
  · rw [right5 g.1 g.2, list_size, decide_eq_false h, Bool.and_false]
  · exact right_off g _ _ _
/-- Behind the last call: the result's block, the operation's, what was there. -/
theorem rd_end {w w0 wr w5 : World} {b g : Nat} {cs fs : Array Value} (hw : w0 = w.alloc (.cells #[.int .i64 0, .int .i64 0, .int .i64 0, .string ⟨#[]⟩] 23)) (h : Rt w0 b g cs fs wr) (hb : Below wr.heap.size wr w5) :
    Blk w5 w.heap.size #[.int .i64 0, .int .i64 0, .int .i64 0, .string ⟨#[]⟩] 23 ∧ Blk w5 b cs 23 ∧ Below w.heap.size w w5 := by
  subst hw
  have hB := h.B.trans (hb.mono h.B.size)
  exact ⟨(Blk.new w _ _).onto hB, h.x.onto hb, ((Below.refl _ _).alloc (Nat.le_refl _) _).trans (hB.mono (by simp))⟩

theorem ret_rd {a b : OpRd} (h : a = b) : Ending.returned (rdV a) = .returned (rdV b) := by rw [h]
/-- Where the loop that fills stands. -/
def Ft2 (two : Bool) (S0 S1 S2 : ByteArray) (w : World) (b g : Nat) (fs c0 c1 c2 : Array Value) (t i : Value) (wr : World) : Prop :=
  (t = .string S0 ∧ i = .int .i64 0 ∧ Rt w b g c0 fs wr) ∨ (t = .string S1 ∧ i = .int .i64 1 ∧ Rt w b g c1 fs wr) ∨ (two = true ∧ t = .string S2 ∧ i = .int .i64 2 ∧ Rt w b g c2 fs wr)
set_option maxRecDepth 100000 in
set_option maxHeartbeats 1600000 in
theorem read_empty (w : World) :
    Calls Tryd.prog 12 #[.string ⟨#[]⟩] w fun e w' => e = .returned (rdV (OpRd.none 18)) ∧ Below w.heap.size w w' := by
  go_enter Tryd.func12, Tryd.ntmps12
  go_wp2
  exact bodyPost_ret (v := rdV (OpRd.none 18)) (by simp [results, Tryd.results12, go_sem, rdV, OpRd.none]) rfl ⟨rfl, (Below.refl _ _).alloc (Nat.le_refl _) _⟩
set_option maxRecDepth 100000 in
set_option maxHeartbeats 1600000 in
/-- A kind that is none, or has nothing. -/
theorem read_bare (s T : ByteArray) (k : Nat) (hs : s.size ≤ 4294967296) (h0 : 0 < s.size) (hk : s[0].toNat = k) (hT : s.extract 1 s.size = T) (hk1 : k < 1 ∨ 4 < k) (w : World) :
    Calls Tryd.prog 12 #[.string s] w fun e w' => e = .returned (rdV (rdEnd k 0 0 T)) ∧ Below w.heap.size w w' := by
  obtain ⟨R, hR⟩ : ∃ R, rdEnd k 0 0 T = R := ⟨_, rfl⟩
  rw [hR]
  have HRD := Lib.hid hR
  clear hR
  have he := isEmpty_size s
  rw [decide_eq_false (by omega)] at he
  have hk255 : k < 256 := by rw [← hk]; exact s[0].toNat_lt
  have hz : w.heap.size + 1 = (w.alloc (.cells #[.int .i64 0, .int .i64 0, .int .i64 0, .string ⟨#[]⟩] 23)).heap.size := by simp
  have hX := Blk.new (w.alloc (.cells #[.int .i64 0, .int .i64 0, .int .i64 0, .string ⟨#[]⟩] 23)) #[.int .i64 k, .int .i64 0, .int .i64 0, .string ⟨#[]⟩] 23
  rw [← hz] at hX
  have HH := Lib.hid (has_none k (by omega) _ _ _ _ _ hX)
  have HX := Lib.hid hX
  have HB := Lib.hid (((Below.refl w.heap.size w).alloc (Nat.le_refl _) (.cells #[.int .i64 0, .int .i64 0, .int .i64 0, .string ⟨#[]⟩] 23)).alloc (by simp) (.cells #[.int .i64 k, .int .i64 0, .int .i64 0, .string ⟨#[]⟩] 23))
  have HR0 := Lib.hid ((Blk.new w #[.int .i64 0, .int .i64 0, .int .i64 0, .string ⟨#[]⟩] 23).alloc (.cells #[.int .i64 k, .int .i64 0, .int .i64 0, .string ⟨#[]⟩] 23))
  clear hX hz
  have he2 := isEmpty_size T
  by_cases hz : T.size = 0
  · have hT0 := nil_size hz
    subst hT0
    have hr := op_right_any k 0 0 ⟨#[]⟩ (by unfold maxLen; decide)
    obtain ⟨r, hr1⟩ : ∃ r, rightB k 0 0 (⟨#[]⟩ : ByteArray).data.toList = r := ⟨_, rfl⟩
    rw [hr1] at hr
    have HR1 := Lib.hid hr1; have HR := Lib.hid hr
    clear hr hr1 hz he2
    go_enter Tryd.func12, Tryd.ntmps12
    go_wp2_with fail
    refine HH.out.mono ?_
    rintro e w2 ⟨rfl, hw2⟩
    have HB2 := Lib.hid (show Below w.heap.size w w2 by rw [← hw2]; exact HB.out.drew)
    have HX2 := Lib.hid (show Blk w2 (w.heap.size + 1) #[.int .i64 k, .int .i64 0, .int .i64 0, .string ⟨#[]⟩] 23 by rw [← hw2]; exact HX.out)
    have HR2 := Lib.hid (show Blk w2 w.heap.size #[.int .i64 0, .int .i64 0, .int .i64 0, .string ⟨#[]⟩] 23 by rw [← hw2]; exact HR0.out)
    clear hw2
    go_wp2
    go_loopw [5, 21] (fun t i wr => t = .string ⟨#[]⟩ ∧ i = .int .i64 0 ∧ wr = w2) (fun _ _ _ => 0)
    case atStart => exact ⟨rfl, rfl, rfl⟩
    case round =>
      obtain ⟨rfl, rfl, rfl⟩ := hrel
      obtain ⟨x0, x1, x2, x3, -, -, -, -⟩ := HX2.out.four
      cases r
      · go_wp2_with fail
        refine (HR.out _).mono ?_; rintro e w5 ⟨rfl, hb5⟩
        obtain ⟨c0, c1, c2, c3, f0, f1, f2, f3⟩ := (HR2.out.onto hb5).four
        have HB5 := Lib.hid (HB2.out.trans (hb5.mono HB2.out.size))
        clear hb5
        go_wp2
        exact bodyPost_ret (v := rdV (OpRd.none 5)) (by simp [results, Tryd.results12, go_sem, rdV, OpRd.none, c0, c1, c2, c3]) rfl ⟨ret_rd (by rw [← HRD.out, rdEnd_no HR1.out]), sets4_below HB5.out (Nat.le_refl _) _ _ _ _⟩
      · go_wp2_with fail
        refine (HR.out _).mono ?_; rintro e w5 ⟨rfl, hb5⟩
        obtain ⟨c0, c1, c2, c3, f0, f1, f2, f3⟩ := (HR2.out.onto hb5).four
        obtain ⟨d0, d1, d2, d3, -, -, -, -⟩ := (HX2.out.onto hb5).four
        have HB5 := Lib.hid (HB2.out.trans (hb5.mono HB2.out.size))
        clear hb5 x0 x1 x2 x3
        go_wp2
        exact bodyPost_ret (v := rdV ⟨k, 0, 0, ⟨#[]⟩, 0⟩) (by simp [results, Tryd.results12, go_sem, rdV, c0, c1, c2, c3]) rfl ⟨ret_rd (by rw [← HRD.out, rdEnd_yes HR1.out]), sets4_below HB5.out (Nat.le_refl _) _ _ _ _⟩
  · rw [decide_eq_false hz] at he2
    have HRZ := Lib.hid (rdEnd_no (right_full (k := k) (by omega) 0 0 hz))
    go_enter Tryd.func12, Tryd.ntmps12
    go_wp2_with fail
    refine HH.out.mono ?_
    rintro e w2 ⟨rfl, hw2⟩
    have HB2 := Lib.hid (show Below w.heap.size w w2 by rw [← hw2]; exact HB.out.drew)
    have HR2 := Lib.hid (show Blk w2 w.heap.size #[.int .i64 0, .int .i64 0, .int .i64 0, .string ⟨#[]⟩] 23 by rw [← hw2]; exact HR0.out)
    clear hw2
    go_wp2
    go_loopw [5, 21] (fun t i wr => t = .string T ∧ i = .int .i64 0 ∧ wr = w2) (fun _ _ _ => 0)
    case atStart => exact ⟨rfl, rfl, rfl⟩
    case round =>
      obtain ⟨rfl, rfl, rfl⟩ := hrel
      obtain ⟨c0, c1, c2, c3, f0, f1, f2, f3⟩ := HR2.out.four
      go_wp2
      exact bodyPost_ret (v := rdV (OpRd.none 5)) (by simp [results, Tryd.results12, go_sem, rdV, OpRd.none, c0, c1, c2, c3]) rfl ⟨ret_rd (by rw [← HRD.out, HRZ.out]), sets4_below HB2.out (Nat.le_refl _) _ _ _ _⟩
-- GEN
set_option maxRecDepth 100000 in
set_option maxHeartbeats 1600000 in
theorem read_one_short (s T : ByteArray) (hs : s.size ≤ 4294967296) (h0 : 0 < s.size) (hk : s[0].toNat = 1) (hT : s.extract 1 s.size = T) (h4 : T.size < 4) (w : World) :
    Calls Tryd.prog 12 #[.string s] w fun e w' => e = .returned (rdV (OpRd.none 18)) ∧ Below w.heap.size w w' := by
  have he := isEmpty_size s
  rw [decide_eq_false (by omega)] at he
  obtain ⟨W0, hW0⟩ : ∃ W0, w.alloc (.cells #[.int .i64 0, .int .i64 0, .int .i64 0, .string ⟨#[]⟩] 23) = W0 := ⟨_, rfl⟩
  have hz : W0.heap.size = w.heap.size + 1 := by rw [← hW0]; simp
  have HW0 := Lib.hid hW0
  have hX := Blk.new W0 #[.int .i64 1, .int .i64 0, .int .i64 0, .string ⟨#[]⟩] 23
  rw [hz] at hX
  have HX := Lib.hid hX
  have HH := Lib.hid (has_one _ _ _ _ _ hX)
  have hlo : W0.heap.size ≤ w.heap.size + 1 := Nat.le_of_eq hz
  have HL := Lib.hid hlo
  rw [← hW0] at HH HX
  clear hX hz hlo hW0
  have hq := fill_num 0 T (by unfold maxLen; omega)
  rw [getI_short T h4] at hq
  have Q0 := Lib.hid hq
  clear hq
  go_enter Tryd.func12, Tryd.ntmps12
  go_wp2_with fail
  refine HH.out.mono ?_
  rintro e w2 ⟨g, rfl, hg, hgl, hb2⟩
  rw [HW0.out] at hgl hb2 HX
  have HT := Lib.hid (rt_from (w := W0) HX.out ((Below.refl W0.heap.size W0).alloc (Nat.le_refl _) _) HL.out hg hgl hb2)
  clear hg hgl hb2
  go_wp2
  go_loopw [5, 21] (fun t i wr => t = .string T ∧ i = .int .i64 0 ∧ Rt W0 (w.heap.size + 1) g #[.int .i64 1, .int .i64 0, .int .i64 0, .string ⟨#[]⟩] #[.iface 48 (.pointer (some ⟨w.heap.size + 1, 1, none⟩)), .iface 50 (.pointer (some ⟨w.heap.size + 1, 3, none⟩))] wr) (fun _ i _ => 2 - (intOf i).toNat)
  case atStart => exact ⟨rfl, rfl, HT.out⟩
  case round =>
      clear HT
      obtain ⟨rfl, rfl, ht⟩ := hrel
      obtain ⟨g0, g1⟩ := ht.f.duo
      obtain ⟨x0, x1, x2, x3, y0, y1, y2, y3⟩ := ht.x.four
      have HT := Lib.hid ht
      clear ht
      go_wp2_with fail
      refine (Q0.out _ _ _ HT.out.x.lt x1 y1).mono ?_
      rintro e w3 ⟨w4, rfl, hb4, rfl⟩
      have hR := Lib.hid ((HT.out.on hb4).set 1 (.int .i64 0))
      obtain ⟨B0, -, hbw⟩ := rd_end HW0.out.symm hR.out (Below.refl _ _)
      have HB := Lib.hid hbw
      obtain ⟨c0, c1, c2, c3, f0, f1, f2, f3⟩ := B0.four
      clear hbw hb4
      go_wp2
      exact bodyPost_ret (v := rdV (OpRd.none 18)) (by simp [results, Tryd.results12, go_sem, rdV, OpRd.none, c0, c1, c2, c3]) rfl ⟨rfl, sets4_below HB.out (Nat.le_refl _) _ _ _ _⟩
set_option maxRecDepth 100000 in
set_option maxHeartbeats 1600000 in
theorem read_one (s T : ByteArray) (hs : s.size ≤ 4294967296) (h0 : 0 < s.size) (hk : s[0].toNat = 1) (hT : s.extract 1 s.size = T) (h4 : 4 ≤ T.size) (w : World) :
    Calls Tryd.prog 12 #[.string s] w fun e w' => e = .returned (rdV (rdEnd 1 (headN T) 0 (restN T))) ∧ Below w.heap.size w w' := by
  have hts : T.size ≤ 4294967296 := by rw [← hT]; simp; omega
  obtain ⟨R, hR⟩ : ∃ R, rdEnd 1 (headN T) 0 (restN T) = R := ⟨_, rfl⟩
  rw [hR]
  have he := isEmpty_size s
  rw [decide_eq_false (by omega)] at he
  obtain ⟨W0, hW0⟩ : ∃ W0, w.alloc (.cells #[.int .i64 0, .int .i64 0, .int .i64 0, .string ⟨#[]⟩] 23) = W0 := ⟨_, rfl⟩
  have hz : W0.heap.size = w.heap.size + 1 := by rw [← hW0]; simp
  have HW0 := Lib.hid hW0
  have hX := Blk.new W0 #[.int .i64 1, .int .i64 0, .int .i64 0, .string ⟨#[]⟩] 23
  rw [hz] at hX
  have HX := Lib.hid hX
  have HH := Lib.hid (has_one _ _ _ _ _ hX)
  have hlo : W0.heap.size ≤ w.heap.size + 1 := Nat.le_of_eq hz
  have HL := Lib.hid hlo
  rw [← hW0] at HH HX
  clear hX hz hlo hW0
  have hq := fill_num 0 T (by unfold maxLen; omega)
  rw [getI_long T (by omega)] at hq
  unfold headN at hR
  obtain ⟨x, hx1⟩ : ∃ x, leN T.data.toList 0 4 = x := ⟨_, rfl⟩
  rw [hx1] at hq hR
  have hu : (restN T).size ≤ 4294967296 := by unfold restN; simp; omega
  obtain ⟨U, hU⟩ : ∃ U, restN T = U := ⟨_, rfl⟩
  rw [hU] at hR hu
  have hU2 : T.extract 4 T.size = U := hU
  have Q0 := Lib.hid hq
  clear hq hx1 hU
  have hE : U.extract U.size U.size = ⟨#[]⟩ := nil_size (by simp)
  have hr := op_right_any 1 x 0 U (by unfold maxLen; omega)
  obtain ⟨r, hr1⟩ : ∃ r, rightB 1 x 0 U.data.toList = r := ⟨_, rfl⟩
  rw [hr1] at hr
  have HR1 := Lib.hid hr1; have HR := Lib.hid hr; have HRD := Lib.hid hR
  clear hr1 hr hR
  go_enter Tryd.func12, Tryd.ntmps12
  go_wp2_with fail
  refine HH.out.mono ?_
  rintro e w2 ⟨g, rfl, hg, hgl, hb2⟩
  rw [HW0.out] at hgl hb2 HX
  have HT := Lib.hid (rt_from (w := W0) HX.out ((Below.refl W0.heap.size W0).alloc (Nat.le_refl _) _) HL.out hg hgl hb2)
  clear hg hgl hb2
  go_wp2
  go_loopw [5, 21] (fun t i wr => Ft2 true T U ⟨#[]⟩ W0 (w.heap.size + 1) g #[.iface 48 (.pointer (some ⟨w.heap.size + 1, 1, none⟩)), .iface 50 (.pointer (some ⟨w.heap.size + 1, 3, none⟩))] #[.int .i64 1, .int .i64 0, .int .i64 0, .string ⟨#[]⟩] #[.int .i64 1, .int .i64 x, .int .i64 0, .string ⟨#[]⟩] #[.int .i64 1, .int .i64 x, .int .i64 0, .string U] t i wr) (fun _ i _ => 2 - (intOf i).toNat)
  case atStart => exact .inl ⟨rfl, rfl, HT.out⟩
  case round =>
    clear HT
    rcases hrel with ⟨rfl, rfl, ht⟩ | ⟨rfl, rfl, ht⟩ | ⟨hq, rfl, rfl, ht⟩
    · obtain ⟨g0, g1⟩ := ht.f.duo
      obtain ⟨x0, x1, x2, x3, y0, y1, y2, y3⟩ := ht.x.four
      have HT := Lib.hid ht
      clear ht
      go_wp2_with fail
      refine (Q0.out _ _ _ HT.out.x.lt x1 y1).mono ?_
      rintro e w3 ⟨w4, rfl, hb4, rfl⟩
      have hR := Lib.hid ((HT.out.on hb4).set 1 (.int .i64 x))
      clear hb4
      go_wp2
      go_roundw
      case rel => exact .inr (.inl ⟨rfl, by go_num, by simpa using hR.out⟩)
      case measure => simp [intOf]
    · obtain ⟨g0, g1⟩ := ht.f.duo
      obtain ⟨x0, x1, x2, x3, y0, y1, y2, y3⟩ := ht.x.four
      have HT := Lib.hid ht
      clear ht
      go_wp2_with fail
      refine (fill_con _ U _ _ _ x3 y3).mono ?_; rintro e w3 ⟨rfl, rfl⟩
      have hR := Lib.hid (HT.out.set 3 (.string U))
      go_wp2
      go_roundw
      case rel => exact .inr (.inr ⟨rfl, rfl, by go_num, by simpa using hR.out⟩)
      case measure => simp [intOf]
    · obtain ⟨x0, x1, x2, x3, -, -, -, -⟩ := ht.x.four
      have HT := Lib.hid ht
      clear ht
      cases r
      · go_wp2_with fail
        refine (HR.out _).mono ?_; rintro e w5 ⟨rfl, hb5⟩
        obtain ⟨B0, -, hbw⟩ := rd_end HW0.out.symm HT.out hb5
        have HB := Lib.hid hbw
        obtain ⟨c0, c1, c2, c3, f0, f1, f2, f3⟩ := B0.four
        clear hbw hb5
        go_wp2
        exact bodyPost_ret (v := rdV (OpRd.none 5)) (by simp [results, Tryd.results12, go_sem, rdV, OpRd.none, c0, c1, c2, c3]) rfl ⟨ret_rd (by rw [← HRD.out, rdEnd_no HR1.out]), sets4_below HB.out (Nat.le_refl _) _ _ _ _⟩
      · go_wp2_with fail
        refine (HR.out _).mono ?_; rintro e w5 ⟨rfl, hb5⟩
        obtain ⟨B0, B1, hbw⟩ := rd_end HW0.out.symm HT.out hb5
        have HB := Lib.hid hbw
        obtain ⟨c0, c1, c2, c3, f0, f1, f2, f3⟩ := B0.four
        obtain ⟨d0, d1, d2, d3, -, -, -, -⟩ := B1.four
        clear hbw hb5 x0 x1 x2 x3
        go_wp2
        exact bodyPost_ret (v := rdV ⟨1, x, 0, U, 0⟩) (by simp [results, Tryd.results12, go_sem, rdV, OpRd.none, c0, c1, c2, c3]) rfl ⟨ret_rd (by rw [← HRD.out, rdEnd_yes HR1.out]), sets4_below HB.out (Nat.le_refl _) _ _ _ _⟩
set_option maxRecDepth 100000 in
set_option maxHeartbeats 1600000 in
theorem read_two_short (s T : ByteArray) (hs : s.size ≤ 4294967296) (h0 : 0 < s.size) (hk : s[0].toNat = 2) (hT : s.extract 1 s.size = T) (h4 : T.size < 4) (w : World) :
    Calls Tryd.prog 12 #[.string s] w fun e w' => e = .returned (rdV (OpRd.none 18)) ∧ Below w.heap.size w w' := by
  have he := isEmpty_size s
  rw [decide_eq_false (by omega)] at he
  obtain ⟨W0, hW0⟩ : ∃ W0, w.alloc (.cells #[.int .i64 0, .int .i64 0, .int .i64 0, .string ⟨#[]⟩] 23) = W0 := ⟨_, rfl⟩
  have hz : W0.heap.size = w.heap.size + 1 := by rw [← hW0]; simp
  have HW0 := Lib.hid hW0
  have hX := Blk.new W0 #[.int .i64 2, .int .i64 0, .int .i64 0, .string ⟨#[]⟩] 23
  rw [hz] at hX
  have HX := Lib.hid hX
  have HH := Lib.hid (has_two _ _ _ _ _ hX)
  have hlo : W0.heap.size ≤ w.heap.size + 1 := Nat.le_of_eq hz
  have HL := Lib.hid hlo
  rw [← hW0] at HH HX
  clear hX hz hlo hW0
  have hq := fill_num 0 T (by unfold maxLen; omega)
  rw [getI_short T h4] at hq
  have Q0 := Lib.hid hq
  clear hq
  go_enter Tryd.func12, Tryd.ntmps12
  go_wp2_with fail
  refine HH.out.mono ?_
  rintro e w2 ⟨g, rfl, hg, hgl, hb2⟩
  rw [HW0.out] at hgl hb2 HX
  have HT := Lib.hid (rt_from (w := W0) HX.out ((Below.refl W0.heap.size W0).alloc (Nat.le_refl _) _) HL.out hg hgl hb2)
  clear hg hgl hb2
  go_wp2
  go_loopw [5, 21] (fun t i wr => t = .string T ∧ i = .int .i64 0 ∧ Rt W0 (w.heap.size + 1) g #[.int .i64 2, .int .i64 0, .int .i64 0, .string ⟨#[]⟩] #[.iface 48 (.pointer (some ⟨w.heap.size + 1, 1, none⟩)), .iface 48 (.pointer (some ⟨w.heap.size + 1, 2, none⟩))] wr) (fun _ i _ => 2 - (intOf i).toNat)
  case atStart => exact ⟨rfl, rfl, HT.out⟩
  case round =>
      clear HT
      obtain ⟨rfl, rfl, ht⟩ := hrel
      obtain ⟨g0, g1⟩ := ht.f.duo
      obtain ⟨x0, x1, x2, x3, y0, y1, y2, y3⟩ := ht.x.four
      have HT := Lib.hid ht
      clear ht
      go_wp2_with fail
      refine (Q0.out _ _ _ HT.out.x.lt x1 y1).mono ?_
      rintro e w3 ⟨w4, rfl, hb4, rfl⟩
      have hR := Lib.hid ((HT.out.on hb4).set 1 (.int .i64 0))
      obtain ⟨B0, -, hbw⟩ := rd_end HW0.out.symm hR.out (Below.refl _ _)
      have HB := Lib.hid hbw
      obtain ⟨c0, c1, c2, c3, f0, f1, f2, f3⟩ := B0.four
      clear hbw hb4
      go_wp2
      exact bodyPost_ret (v := rdV (OpRd.none 18)) (by simp [results, Tryd.results12, go_sem, rdV, OpRd.none, c0, c1, c2, c3]) rfl ⟨rfl, sets4_below HB.out (Nat.le_refl _) _ _ _ _⟩
set_option maxRecDepth 100000 in
set_option maxHeartbeats 1600000 in
theorem read_two_short2 (s T : ByteArray) (hs : s.size ≤ 4294967296) (h0 : 0 < s.size) (hk : s[0].toNat = 2) (hT : s.extract 1 s.size = T) (h4 : 4 ≤ T.size) (h8 : T.size < 8) (w : World) :
    Calls Tryd.prog 12 #[.string s] w fun e w' => e = .returned (rdV (OpRd.none 18)) ∧ Below w.heap.size w w' := by
  have hts : T.size ≤ 4294967296 := by rw [← hT]; simp; omega
  have he := isEmpty_size s
  rw [decide_eq_false (by omega)] at he
  obtain ⟨W0, hW0⟩ : ∃ W0, w.alloc (.cells #[.int .i64 0, .int .i64 0, .int .i64 0, .string ⟨#[]⟩] 23) = W0 := ⟨_, rfl⟩
  have hz : W0.heap.size = w.heap.size + 1 := by rw [← hW0]; simp
  have HW0 := Lib.hid hW0
  have hX := Blk.new W0 #[.int .i64 2, .int .i64 0, .int .i64 0, .string ⟨#[]⟩] 23
  rw [hz] at hX
  have HX := Lib.hid hX
  have HH := Lib.hid (has_two _ _ _ _ _ hX)
  have hlo : W0.heap.size ≤ w.heap.size + 1 := Nat.le_of_eq hz
  have HL := Lib.hid hlo
  rw [← hW0] at HH HX
  clear hX hz hlo hW0
  have hq := fill_num 0 T (by unfold maxLen; omega)
  rw [getI_long T h4] at hq
  have hu : (restN T).size < 4 := by unfold restN; simp; omega
  have hq2 := fill_num 0 (restN T) (by unfold maxLen; omega)
  rw [getI_short _ hu] at hq2
  obtain ⟨U, hU⟩ : ∃ U, restN T = U := ⟨_, rfl⟩
  rw [hU] at hq2 hu
  have hU2 : T.extract 4 T.size = U := hU
  obtain ⟨x, hx1⟩ : ∃ x, leN T.data.toList 0 4 = x := ⟨_, rfl⟩
  rw [hx1] at hq
  have Q0 := Lib.hid hq; have Q1 := Lib.hid hq2
  clear hq hq2 hU hx1
  go_enter Tryd.func12, Tryd.ntmps12
  go_wp2_with fail
  refine HH.out.mono ?_
  rintro e w2 ⟨g, rfl, hg, hgl, hb2⟩
  rw [HW0.out] at hgl hb2 HX
  have HT := Lib.hid (rt_from (w := W0) HX.out ((Below.refl W0.heap.size W0).alloc (Nat.le_refl _) _) HL.out hg hgl hb2)
  clear hg hgl hb2
  go_wp2
  go_loopw [5, 21] (fun t i wr => Ft2 false T U U W0 (w.heap.size + 1) g #[.iface 48 (.pointer (some ⟨w.heap.size + 1, 1, none⟩)), .iface 48 (.pointer (some ⟨w.heap.size + 1, 2, none⟩))] #[.int .i64 2, .int .i64 0, .int .i64 0, .string ⟨#[]⟩] #[.int .i64 2, .int .i64 x, .int .i64 0, .string ⟨#[]⟩] #[] t i wr) (fun _ i _ => 2 - (intOf i).toNat)
  case atStart => exact .inl ⟨rfl, rfl, HT.out⟩
  case round =>
    clear HT
    rcases hrel with ⟨rfl, rfl, ht⟩ | ⟨rfl, rfl, ht⟩ | ⟨hq, rfl, rfl, ht⟩
    · obtain ⟨g0, g1⟩ := ht.f.duo
      obtain ⟨x0, x1, x2, x3, y0, y1, y2, y3⟩ := ht.x.four
      have HT := Lib.hid ht
      clear ht
      go_wp2_with fail
      refine (Q0.out _ _ _ HT.out.x.lt x1 y1).mono ?_
      rintro e w3 ⟨w4, rfl, hb4, rfl⟩
      have hR := Lib.hid ((HT.out.on hb4).set 1 (.int .i64 x))
      clear hb4
      go_wp2
      go_roundw
      case rel => exact .inr (.inl ⟨rfl, by go_num, by simpa using hR.out⟩)
      case measure => simp [intOf]
    · obtain ⟨g0, g1⟩ := ht.f.duo
      obtain ⟨x0, x1, x2, x3, y0, y1, y2, y3⟩ := ht.x.four
      have HT := Lib.hid ht
      clear ht
      go_wp2_with fail
      refine (Q1.out _ _ _ HT.out.x.lt x2 y2).mono ?_
      rintro e w3 ⟨w4, rfl, hb4, rfl⟩
      have hR := Lib.hid ((HT.out.on hb4).set 2 (.int .i64 0))
      obtain ⟨B0, -, hbw⟩ := rd_end HW0.out.symm hR.out (Below.refl _ _)
      have HB := Lib.hid hbw
      obtain ⟨c0, c1, c2, c3, f0, f1, f2, f3⟩ := B0.four
      clear hbw hb4
      go_wp2
      exact bodyPost_ret (v := rdV (OpRd.none 18)) (by simp [results, Tryd.results12, go_sem, rdV, OpRd.none, c0, c1, c2, c3]) rfl ⟨rfl, sets4_below HB.out (Nat.le_refl _) _ _ _ _⟩
    · cases hq
set_option maxRecDepth 100000 in
set_option maxHeartbeats 1600000 in
theorem read_two (s T : ByteArray) (hs : s.size ≤ 4294967296) (h0 : 0 < s.size) (hk : s[0].toNat = 2) (hT : s.extract 1 s.size = T) (h8 : 8 ≤ T.size) (w : World) :
    Calls Tryd.prog 12 #[.string s] w fun e w' => e = .returned (rdV (rdEnd 2 (headN T) (headN (restN T)) (restN (restN T)))) ∧ Below w.heap.size w w' := by
  have hts : T.size ≤ 4294967296 := by rw [← hT]; simp; omega
  obtain ⟨R, hR⟩ : ∃ R, rdEnd 2 (headN T) (headN (restN T)) (restN (restN T)) = R := ⟨_, rfl⟩
  rw [hR]
  have he := isEmpty_size s
  rw [decide_eq_false (by omega)] at he
  obtain ⟨W0, hW0⟩ : ∃ W0, w.alloc (.cells #[.int .i64 0, .int .i64 0, .int .i64 0, .string ⟨#[]⟩] 23) = W0 := ⟨_, rfl⟩
  have hz : W0.heap.size = w.heap.size + 1 := by rw [← hW0]; simp
  have HW0 := Lib.hid hW0
  have hX := Blk.new W0 #[.int .i64 2, .int .i64 0, .int .i64 0, .string ⟨#[]⟩] 23
  rw [hz] at hX
  have HX := Lib.hid hX
  have HH := Lib.hid (has_two _ _ _ _ _ hX)
  have hlo : W0.heap.size ≤ w.heap.size + 1 := Nat.le_of_eq hz
  have HL := Lib.hid hlo
  rw [← hW0] at HH HX
  clear hX hz hlo hW0
  have hq := fill_num 0 T (by unfold maxLen; omega)
  rw [getI_long T (by omega)] at hq
  unfold headN at hR
  obtain ⟨x, hx1⟩ : ∃ x, leN T.data.toList 0 4 = x := ⟨_, rfl⟩
  rw [hx1] at hq hR
  have hu : (restN T).size ≤ 4294967296 := by unfold restN; simp; omega
  have hu4 : 4 ≤ (restN T).size := by unfold restN; simp; omega
  obtain ⟨U, hU⟩ : ∃ U, restN T = U := ⟨_, rfl⟩
  rw [hU] at hR hu hu4
  have hU2 : T.extract 4 T.size = U := hU
  have Q0 := Lib.hid hq
  clear hq hx1 hU
  have hq2 := fill_num 0 U (by unfold maxLen; omega)
  rw [getI_long U (by omega)] at hq2
  obtain ⟨y, hy1⟩ : ∃ y, leN U.data.toList 0 4 = y := ⟨_, rfl⟩
  rw [hy1] at hq2 hR
  obtain ⟨V, hV⟩ : ∃ V, restN U = V := ⟨_, rfl⟩
  rw [hV] at hR
  have hV2 : U.extract 4 U.size = V := hV
  have Q1 := Lib.hid hq2
  clear hq2 hy1 hV
  have he2 := isEmpty_size V
  have hr := op_right_any 2 x y ⟨#[]⟩ (by unfold maxLen; decide)
  obtain ⟨r, hr1⟩ : ∃ r, rightB 2 x y (⟨#[]⟩ : ByteArray).data.toList = r := ⟨_, rfl⟩
  rw [hr1] at hr
  have HR1 := Lib.hid hr1; have HR := Lib.hid hr; have HRD := Lib.hid hR
  clear hr1 hr hR
  go_enter Tryd.func12, Tryd.ntmps12
  go_wp2_with fail
  refine HH.out.mono ?_
  rintro e w2 ⟨g, rfl, hg, hgl, hb2⟩
  rw [HW0.out] at hgl hb2 HX
  have HT := Lib.hid (rt_from (w := W0) HX.out ((Below.refl W0.heap.size W0).alloc (Nat.le_refl _) _) HL.out hg hgl hb2)
  clear hg hgl hb2
  go_wp2
  go_loopw [5, 21] (fun t i wr => Ft2 true T U V W0 (w.heap.size + 1) g #[.iface 48 (.pointer (some ⟨w.heap.size + 1, 1, none⟩)), .iface 48 (.pointer (some ⟨w.heap.size + 1, 2, none⟩))] #[.int .i64 2, .int .i64 0, .int .i64 0, .string ⟨#[]⟩] #[.int .i64 2, .int .i64 x, .int .i64 0, .string ⟨#[]⟩] #[.int .i64 2, .int .i64 x, .int .i64 y, .string ⟨#[]⟩] t i wr) (fun _ i _ => 2 - (intOf i).toNat)
  case atStart => exact .inl ⟨rfl, rfl, HT.out⟩
  case round =>
    clear HT
    rcases hrel with ⟨rfl, rfl, ht⟩ | ⟨rfl, rfl, ht⟩ | ⟨hq, rfl, rfl, ht⟩
    · obtain ⟨g0, g1⟩ := ht.f.duo
      obtain ⟨x0, x1, x2, x3, y0, y1, y2, y3⟩ := ht.x.four
      have HT := Lib.hid ht
      clear ht
      go_wp2_with fail
      refine (Q0.out _ _ _ HT.out.x.lt x1 y1).mono ?_
      rintro e w3 ⟨w4, rfl, hb4, rfl⟩
      have hR := Lib.hid ((HT.out.on hb4).set 1 (.int .i64 x))
      clear hb4
      go_wp2
      go_roundw
      case rel => exact .inr (.inl ⟨rfl, by go_num, by simpa using hR.out⟩)
      case measure => simp [intOf]
    · obtain ⟨g0, g1⟩ := ht.f.duo
      obtain ⟨x0, x1, x2, x3, y0, y1, y2, y3⟩ := ht.x.four
      have HT := Lib.hid ht
      clear ht
      go_wp2_with fail
      refine (Q1.out _ _ _ HT.out.x.lt x2 y2).mono ?_
      rintro e w3 ⟨w4, rfl, hb4, rfl⟩
      have hR := Lib.hid ((HT.out.on hb4).set 2 (.int .i64 y))
      clear hb4
      go_wp2
      go_roundw
      case rel => exact .inr (.inr ⟨rfl, rfl, by go_num, by simpa using hR.out⟩)
      case measure => simp [intOf]
    · by_cases hz : V.size = 0
      · have hV0 := nil_size hz
        subst hV0
        clear hz he2
        obtain ⟨x0, x1, x2, x3, -, -, -, -⟩ := ht.x.four
        have HT := Lib.hid ht
        clear ht
        cases r
        · go_wp2_with fail
          refine (HR.out _).mono ?_; rintro e w5 ⟨rfl, hb5⟩
          obtain ⟨B0, -, hbw⟩ := rd_end HW0.out.symm HT.out hb5
          have HB := Lib.hid hbw
          obtain ⟨c0, c1, c2, c3, f0, f1, f2, f3⟩ := B0.four
          clear hbw hb5
          go_wp2
          exact bodyPost_ret (v := rdV (OpRd.none 5)) (by simp [results, Tryd.results12, go_sem, rdV, OpRd.none, c0, c1, c2, c3]) rfl ⟨ret_rd (by rw [← HRD.out, rdEnd_no HR1.out]), sets4_below HB.out (Nat.le_refl _) _ _ _ _⟩
        · go_wp2_with fail
          refine (HR.out _).mono ?_; rintro e w5 ⟨rfl, hb5⟩
          obtain ⟨B0, B1, hbw⟩ := rd_end HW0.out.symm HT.out hb5
          have HB := Lib.hid hbw
          obtain ⟨c0, c1, c2, c3, f0, f1, f2, f3⟩ := B0.four
          obtain ⟨d0, d1, d2, d3, -, -, -, -⟩ := B1.four
          clear hbw hb5 x0 x1 x2 x3
          go_wp2
          exact bodyPost_ret (v := rdV ⟨2, x, y, ⟨#[]⟩, 0⟩) (by simp [results, Tryd.results12, go_sem, rdV, OpRd.none, c0, c1, c2, c3]) rfl ⟨ret_rd (by rw [← HRD.out, rdEnd_yes HR1.out]), sets4_below HB.out (Nat.le_refl _) _ _ _ _⟩
      · have HRZ := Lib.hid (rdEnd_no (k := 2) (a := x) (n := y) (s := V) (by rw [right2, list_size, decide_eq_false hz, Bool.and_false]))
        rw [decide_eq_false hz] at he2
        have HT := Lib.hid ht
        obtain ⟨B0, -, hbw⟩ := rd_end HW0.out.symm ht (Below.refl _ _)
        have HB := Lib.hid hbw
        obtain ⟨c0, c1, c2, c3, f0, f1, f2, f3⟩ := B0.four
        clear hbw ht
        go_wp2
        exact bodyPost_ret (v := rdV (OpRd.none 5)) (by simp [results, Tryd.results12, go_sem, rdV, OpRd.none, c0, c1, c2, c3]) rfl ⟨ret_rd (by rw [← HRD.out, HRZ.out]), sets4_below HB.out (Nat.le_refl _) _ _ _ _⟩
set_option maxRecDepth 100000 in
set_option maxHeartbeats 1600000 in
theorem read_three_short (s T : ByteArray) (hs : s.size ≤ 4294967296) (h0 : 0 < s.size) (hk : s[0].toNat = 3) (hT : s.extract 1 s.size = T) (h4 : T.size < 4) (w : World) :
    Calls Tryd.prog 12 #[.string s] w fun e w' => e = .returned (rdV (OpRd.none 18)) ∧ Below w.heap.size w w' := by
  have he := isEmpty_size s
  rw [decide_eq_false (by omega)] at he
  obtain ⟨W0, hW0⟩ : ∃ W0, w.alloc (.cells #[.int .i64 0, .int .i64 0, .int .i64 0, .string ⟨#[]⟩] 23) = W0 := ⟨_, rfl⟩
  have hz : W0.heap.size = w.heap.size + 1 := by rw [← hW0]; simp
  have HW0 := Lib.hid hW0
  have hX := Blk.new W0 #[.int .i64 3, .int .i64 0, .int .i64 0, .string ⟨#[]⟩] 23
  rw [hz] at hX
  have HX := Lib.hid hX
  have HH := Lib.hid (has_three _ _ _ _ _ hX)
  have hlo : W0.heap.size ≤ w.heap.size + 1 := Nat.le_of_eq hz
  have HL := Lib.hid hlo
  rw [← hW0] at HH HX
  clear hX hz hlo hW0
  have hq := fill_num 0 T (by unfold maxLen; omega)
  rw [getI_short T h4] at hq
  have Q0 := Lib.hid hq
  clear hq
  go_enter Tryd.func12, Tryd.ntmps12
  go_wp2_with fail
  refine HH.out.mono ?_
  rintro e w2 ⟨g, rfl, hg, hgl, hb2⟩
  rw [HW0.out] at hgl hb2 HX
  have HT := Lib.hid (rt_from (w := W0) HX.out ((Below.refl W0.heap.size W0).alloc (Nat.le_refl _) _) HL.out hg hgl hb2)
  clear hg hgl hb2
  go_wp2
  go_loopw [5, 21] (fun t i wr => t = .string T ∧ i = .int .i64 0 ∧ Rt W0 (w.heap.size + 1) g #[.int .i64 3, .int .i64 0, .int .i64 0, .string ⟨#[]⟩] #[.iface 48 (.pointer (some ⟨w.heap.size + 1, 1, none⟩)), .iface 52 (.pointer (some ⟨w.heap.size + 1, 3, none⟩))] wr) (fun _ i _ => 2 - (intOf i).toNat)
  case atStart => exact ⟨rfl, rfl, HT.out⟩
  case round =>
      clear HT
      obtain ⟨rfl, rfl, ht⟩ := hrel
      obtain ⟨g0, g1⟩ := ht.f.duo
      obtain ⟨x0, x1, x2, x3, y0, y1, y2, y3⟩ := ht.x.four
      have HT := Lib.hid ht
      clear ht
      go_wp2_with fail
      refine (Q0.out _ _ _ HT.out.x.lt x1 y1).mono ?_
      rintro e w3 ⟨w4, rfl, hb4, rfl⟩
      have hR := Lib.hid ((HT.out.on hb4).set 1 (.int .i64 0))
      obtain ⟨B0, -, hbw⟩ := rd_end HW0.out.symm hR.out (Below.refl _ _)
      have HB := Lib.hid hbw
      obtain ⟨c0, c1, c2, c3, f0, f1, f2, f3⟩ := B0.four
      clear hbw hb4
      go_wp2
      exact bodyPost_ret (v := rdV (OpRd.none 18)) (by simp [results, Tryd.results12, go_sem, rdV, OpRd.none, c0, c1, c2, c3]) rfl ⟨rfl, sets4_below HB.out (Nat.le_refl _) _ _ _ _⟩
set_option maxRecDepth 100000 in
set_option maxHeartbeats 1600000 in
theorem read_three (s T : ByteArray) (hs : s.size ≤ 4294967296) (h0 : 0 < s.size) (hk : s[0].toNat = 3) (hT : s.extract 1 s.size = T) (h4 : 4 ≤ T.size) (w : World) :
    Calls Tryd.prog 12 #[.string s] w fun e w' => e = .returned (rdV (rdEnd 3 (headN T) 0 (restN T))) ∧ Below w.heap.size w w' := by
  have hts : T.size ≤ 4294967296 := by rw [← hT]; simp; omega
  obtain ⟨R, hR⟩ : ∃ R, rdEnd 3 (headN T) 0 (restN T) = R := ⟨_, rfl⟩
  rw [hR]
  have he := isEmpty_size s
  rw [decide_eq_false (by omega)] at he
  obtain ⟨W0, hW0⟩ : ∃ W0, w.alloc (.cells #[.int .i64 0, .int .i64 0, .int .i64 0, .string ⟨#[]⟩] 23) = W0 := ⟨_, rfl⟩
  have hz : W0.heap.size = w.heap.size + 1 := by rw [← hW0]; simp
  have HW0 := Lib.hid hW0
  have hX := Blk.new W0 #[.int .i64 3, .int .i64 0, .int .i64 0, .string ⟨#[]⟩] 23
  rw [hz] at hX
  have HX := Lib.hid hX
  have HH := Lib.hid (has_three _ _ _ _ _ hX)
  have hlo : W0.heap.size ≤ w.heap.size + 1 := Nat.le_of_eq hz
  have HL := Lib.hid hlo
  rw [← hW0] at HH HX
  clear hX hz hlo hW0
  have hq := fill_num 0 T (by unfold maxLen; omega)
  rw [getI_long T (by omega)] at hq
  unfold headN at hR
  obtain ⟨x, hx1⟩ : ∃ x, leN T.data.toList 0 4 = x := ⟨_, rfl⟩
  rw [hx1] at hq hR
  have hu : (restN T).size ≤ 4294967296 := by unfold restN; simp; omega
  obtain ⟨U, hU⟩ : ∃ U, restN T = U := ⟨_, rfl⟩
  rw [hU] at hR hu
  have hU2 : T.extract 4 T.size = U := hU
  have Q0 := Lib.hid hq
  clear hq hx1 hU
  have hE : U.extract U.size U.size = ⟨#[]⟩ := nil_size (by simp)
  have hr := op_right_any 3 x 0 U (by unfold maxLen; omega)
  obtain ⟨r, hr1⟩ : ∃ r, rightB 3 x 0 U.data.toList = r := ⟨_, rfl⟩
  rw [hr1] at hr
  have HR1 := Lib.hid hr1; have HR := Lib.hid hr; have HRD := Lib.hid hR
  clear hr1 hr hR
  go_enter Tryd.func12, Tryd.ntmps12
  go_wp2_with fail
  refine HH.out.mono ?_
  rintro e w2 ⟨g, rfl, hg, hgl, hb2⟩
  rw [HW0.out] at hgl hb2 HX
  have HT := Lib.hid (rt_from (w := W0) HX.out ((Below.refl W0.heap.size W0).alloc (Nat.le_refl _) _) HL.out hg hgl hb2)
  clear hg hgl hb2
  go_wp2
  go_loopw [5, 21] (fun t i wr => Ft2 true T U ⟨#[]⟩ W0 (w.heap.size + 1) g #[.iface 48 (.pointer (some ⟨w.heap.size + 1, 1, none⟩)), .iface 52 (.pointer (some ⟨w.heap.size + 1, 3, none⟩))] #[.int .i64 3, .int .i64 0, .int .i64 0, .string ⟨#[]⟩] #[.int .i64 3, .int .i64 x, .int .i64 0, .string ⟨#[]⟩] #[.int .i64 3, .int .i64 x, .int .i64 0, .string U] t i wr) (fun _ i _ => 2 - (intOf i).toNat)
  case atStart => exact .inl ⟨rfl, rfl, HT.out⟩
  case round =>
    clear HT
    rcases hrel with ⟨rfl, rfl, ht⟩ | ⟨rfl, rfl, ht⟩ | ⟨hq, rfl, rfl, ht⟩
    · obtain ⟨g0, g1⟩ := ht.f.duo
      obtain ⟨x0, x1, x2, x3, y0, y1, y2, y3⟩ := ht.x.four
      have HT := Lib.hid ht
      clear ht
      go_wp2_with fail
      refine (Q0.out _ _ _ HT.out.x.lt x1 y1).mono ?_
      rintro e w3 ⟨w4, rfl, hb4, rfl⟩
      have hR := Lib.hid ((HT.out.on hb4).set 1 (.int .i64 x))
      clear hb4
      go_wp2
      go_roundw
      case rel => exact .inr (.inl ⟨rfl, by go_num, by simpa using hR.out⟩)
      case measure => simp [intOf]
    · obtain ⟨g0, g1⟩ := ht.f.duo
      obtain ⟨x0, x1, x2, x3, y0, y1, y2, y3⟩ := ht.x.four
      have HT := Lib.hid ht
      clear ht
      go_wp2_with fail
      refine (fill_nam _ U _ _ _ x3 y3).mono ?_; rintro e w3 ⟨rfl, rfl⟩
      have hR := Lib.hid (HT.out.set 3 (.string U))
      go_wp2
      go_roundw
      case rel => exact .inr (.inr ⟨rfl, rfl, by go_num, by simpa using hR.out⟩)
      case measure => simp [intOf]
    · obtain ⟨x0, x1, x2, x3, -, -, -, -⟩ := ht.x.four
      have HT := Lib.hid ht
      clear ht
      cases r
      · go_wp2_with fail
        refine (HR.out _).mono ?_; rintro e w5 ⟨rfl, hb5⟩
        obtain ⟨B0, -, hbw⟩ := rd_end HW0.out.symm HT.out hb5
        have HB := Lib.hid hbw
        obtain ⟨c0, c1, c2, c3, f0, f1, f2, f3⟩ := B0.four
        clear hbw hb5
        go_wp2
        exact bodyPost_ret (v := rdV (OpRd.none 5)) (by simp [results, Tryd.results12, go_sem, rdV, OpRd.none, c0, c1, c2, c3]) rfl ⟨ret_rd (by rw [← HRD.out, rdEnd_no HR1.out]), sets4_below HB.out (Nat.le_refl _) _ _ _ _⟩
      · go_wp2_with fail
        refine (HR.out _).mono ?_; rintro e w5 ⟨rfl, hb5⟩
        obtain ⟨B0, B1, hbw⟩ := rd_end HW0.out.symm HT.out hb5
        have HB := Lib.hid hbw
        obtain ⟨c0, c1, c2, c3, f0, f1, f2, f3⟩ := B0.four
        obtain ⟨d0, d1, d2, d3, -, -, -, -⟩ := B1.four
        clear hbw hb5 x0 x1 x2 x3
        go_wp2
        exact bodyPost_ret (v := rdV ⟨3, x, 0, U, 0⟩) (by simp [results, Tryd.results12, go_sem, rdV, OpRd.none, c0, c1, c2, c3]) rfl ⟨ret_rd (by rw [← HRD.out, rdEnd_yes HR1.out]), sets4_below HB.out (Nat.le_refl _) _ _ _ _⟩
set_option maxRecDepth 100000 in
set_option maxHeartbeats 1600000 in
theorem read_four (s T : ByteArray) (hs : s.size ≤ 4294967296) (h0 : 0 < s.size) (hk : s[0].toNat = 4) (hT : s.extract 1 s.size = T) (w : World) :
    Calls Tryd.prog 12 #[.string s] w fun e w' => e = .returned (rdV (rdEnd 4 0 0 T)) ∧ Below w.heap.size w w' := by
  have hts : T.size ≤ 4294967296 := by rw [← hT]; simp; omega
  obtain ⟨R, hR⟩ : ∃ R, rdEnd 4 0 0 T = R := ⟨_, rfl⟩
  rw [hR]
  have he := isEmpty_size s
  rw [decide_eq_false (by omega)] at he
  obtain ⟨W0, hW0⟩ : ∃ W0, w.alloc (.cells #[.int .i64 0, .int .i64 0, .int .i64 0, .string ⟨#[]⟩] 23) = W0 := ⟨_, rfl⟩
  have hz : W0.heap.size = w.heap.size + 1 := by rw [← hW0]; simp
  have HW0 := Lib.hid hW0
  have hX := Blk.new W0 #[.int .i64 4, .int .i64 0, .int .i64 0, .string ⟨#[]⟩] 23
  rw [hz] at hX
  have HX := Lib.hid hX
  have HH := Lib.hid (has_four _ _ _ _ _ hX)
  have hlo : W0.heap.size ≤ w.heap.size + 1 := Nat.le_of_eq hz
  have HL := Lib.hid hlo
  rw [← hW0] at HH HX
  clear hX hz hlo hW0
  have hE : T.extract T.size T.size = ⟨#[]⟩ := nil_size (by simp)
  have hr := op_right_any 4 0 0 T (by unfold maxLen; omega)
  obtain ⟨r, hr1⟩ : ∃ r, rightB 4 0 0 T.data.toList = r := ⟨_, rfl⟩
  rw [hr1] at hr
  have HR1 := Lib.hid hr1; have HR := Lib.hid hr; have HRD := Lib.hid hR
  clear hr1 hr hR
  go_enter Tryd.func12, Tryd.ntmps12
  go_wp2_with fail
  refine HH.out.mono ?_
  rintro e w2 ⟨g, rfl, hg, hgl, hb2⟩
  rw [HW0.out] at hgl hb2 HX
  have HT := Lib.hid (rt_from (w := W0) HX.out ((Below.refl W0.heap.size W0).alloc (Nat.le_refl _) _) HL.out hg hgl hb2)
  clear hg hgl hb2
  go_wp2
  go_loopw [5, 21] (fun t i wr => Ft2 false T ⟨#[]⟩ ⟨#[]⟩ W0 (w.heap.size + 1) g #[.iface 52 (.pointer (some ⟨w.heap.size + 1, 3, none⟩))] #[.int .i64 4, .int .i64 0, .int .i64 0, .string ⟨#[]⟩] #[.int .i64 4, .int .i64 0, .int .i64 0, .string T] #[] t i wr) (fun _ i _ => 2 - (intOf i).toNat)
  case atStart => exact .inl ⟨rfl, rfl, HT.out⟩
  case round =>
    clear HT
    rcases hrel with ⟨rfl, rfl, ht⟩ | ⟨rfl, rfl, ht⟩ | ⟨hq, rfl, rfl, ht⟩
    · have g0 := ht.f.lone
      obtain ⟨x0, x1, x2, x3, y0, y1, y2, y3⟩ := ht.x.four
      have HT := Lib.hid ht
      clear ht
      go_wp2_with fail
      refine (fill_nam _ T _ _ _ x3 y3).mono ?_; rintro e w3 ⟨rfl, rfl⟩
      have hR := Lib.hid (HT.out.set 3 (.string T))
      go_wp2
      go_roundw
      case rel => exact .inr (.inl ⟨rfl, by go_num, by simpa using hR.out⟩)
      case measure => simp [intOf]
    · obtain ⟨x0, x1, x2, x3, -, -, -, -⟩ := ht.x.four
      have HT := Lib.hid ht
      clear ht
      cases r
      · go_wp2_with fail
        refine (HR.out _).mono ?_; rintro e w5 ⟨rfl, hb5⟩
        obtain ⟨B0, -, hbw⟩ := rd_end HW0.out.symm HT.out hb5
        have HB := Lib.hid hbw
        obtain ⟨c0, c1, c2, c3, f0, f1, f2, f3⟩ := B0.four
        clear hbw hb5
        go_wp2
        exact bodyPost_ret (v := rdV (OpRd.none 5)) (by simp [results, Tryd.results12, go_sem, rdV, OpRd.none, c0, c1, c2, c3]) rfl ⟨ret_rd (by rw [← HRD.out, rdEnd_no HR1.out]), sets4_below HB.out (Nat.le_refl _) _ _ _ _⟩
      · go_wp2_with fail
        refine (HR.out _).mono ?_; rintro e w5 ⟨rfl, hb5⟩
        obtain ⟨B0, B1, hbw⟩ := rd_end HW0.out.symm HT.out hb5
        have HB := Lib.hid hbw
        obtain ⟨c0, c1, c2, c3, f0, f1, f2, f3⟩ := B0.four
        obtain ⟨d0, d1, d2, d3, -, -, -, -⟩ := B1.four
        clear hbw hb5 x0 x1 x2 x3
        go_wp2
        exact bodyPost_ret (v := rdV ⟨4, 0, 0, T, 0⟩) (by simp [results, Tryd.results12, go_sem, rdV, OpRd.none, c0, c1, c2, c3]) rfl ⟨ret_rd (by rw [← HRD.out, rdEnd_yes HR1.out]), sets4_below HB.out (Nat.le_refl _) _ _ _ _⟩
    · cases hq
-- END GEN
/-- Read: the operation of bytes, or why there is none. -/
theorem op_read_any (s : ByteArray) (hs : s.size ≤ 4294967296) (w : World) :
    Calls Tryd.prog 12 #[.string s] w fun e w' => e = .returned (rdV (readR s)) ∧ Below w.heap.size w w' := by
  unfold readR
  by_cases h0 : 0 < s.size
  · rw [dif_pos h0]
    obtain ⟨k, hk⟩ : ∃ k, s[0].toNat = k := ⟨_, rfl⟩
    obtain ⟨T, hT⟩ : ∃ T, s.extract 1 s.size = T := ⟨_, rfl⟩
    rw [hk, hT]
    unfold rdKind
    by_cases ho : k < 1 ∨ 8 < k
    · rw [if_pos (by omega), ← rdEnd_no (k := k) (a := 0) (n := 0) (s := T) (right_off (by omega) _ _ _)]
      exact read_bare s T k hs h0 hk hT (by omega) w
    rw [if_neg (by omega)]
    by_cases h13 : k = 1 ∨ k = 3
    · rw [if_pos (by omega)]
      by_cases h4 : T.size < 4
      · rw [if_pos h4]
        rcases h13 with rfl | rfl
        · exact read_one_short s T hs h0 hk hT h4 w
        · exact read_three_short s T hs h0 hk hT h4 w
      · rw [if_neg h4]
        rcases h13 with rfl | rfl
        · exact read_one s T hs h0 hk hT (by omega) w
        · exact read_three s T hs h0 hk hT (by omega) w
    rw [if_neg (by omega)]
    by_cases h2 : k = 2
    · subst h2
      rw [if_pos (by omega)]
      by_cases h8 : T.size < 8
      · rw [if_pos h8]
        by_cases h4 : T.size < 4
        · exact read_two_short s T hs h0 hk hT h4 w
        · exact read_two_short2 s T hs h0 hk hT (by omega) h8 w
      · rw [if_neg h8]; exact read_two s T hs h0 hk hT (by omega) w
    · rw [if_neg (by omega)]
      by_cases h4 : k = 4
      · subst h4; exact read_four s T hs h0 hk hT w
      · exact read_bare s T k hs h0 hk hT (by omega) w
  · rw [dif_neg h0, nil_size (show s.size = 0 by omega)]
    exact read_empty w
end Go.Proofs.YtlgdlkiekodocaaDoor
