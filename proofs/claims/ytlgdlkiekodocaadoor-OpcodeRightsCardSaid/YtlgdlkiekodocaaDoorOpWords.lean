/-
  Contracts of the program's operations: Text.
-/
import Derived.Test.YtlgdlkiekodocaaDoorOpTell
namespace Go.Proofs.YtlgdlkiekodocaaDoor
open Go.RowKit
set_option linter.unusedSimpArgs false

/-- Where the words' loop stands: the operation, its fields, the words so far. -/
structure Tw (w : World) (g : Nat) (cs fs : Array Value) (v : Value) (ws : List ByteArray) (wr : World) : Prop where
  r : Rt w w.heap.size g cs fs wr
  o : Words wr w.heap.size v ws
def Tw2 (two : Bool) (w : World) (g : Nat) (fs cs : Array Value) (w0 w1 w2 : List ByteArray) (v i : Value) (wr : World) : Prop :=
  (i = .int .i64 0 ∧ Tw w g cs fs v w0 wr) ∨ (i = .int .i64 1 ∧ Tw w g cs fs v w1 wr) ∨ (two = true ∧ i = .int .i64 2 ∧ Tw w g cs fs v w2 wr)
theorem own_far {w : World} {base b : Nat} {v : Value} {ws : List ByteArray} {cs : Array Value} {T : TypeId} (h : Words w base v ws) (hb : Blk w b cs T) (hT : T ≠ 9) : some b ≠ v.ownBlock := by
  intro e
  rcases h.2 with ⟨rfl, -⟩ | ⟨g, cap, cur, rfl, -, hB, -⟩
  · simp [Value.ownBlock] at e
  · simp [Value.ownBlock] at e
    subst e
    unfold Blk at hb
    rw [hB] at hb
    simp at hb
    exact hT hb.2.symm
theorem Tw.tell {w wr w' : World} {g : Nat} {cs fs : Array Value} {v v' : Value} {ws ws' : List ByteArray} (h : Tw w g cs fs v ws wr) (ho : Words w' w.heap.size v' ws') (hg : wr.grownBy w' v.ownBlock) : Tw w g cs fs v' ws' w' :=
  ⟨⟨(hg.block _ h.r.x.lt (own_far h.o h.r.x (by decide))).trans h.r.x, (hg.block _ h.r.f.lt (own_far h.o h.r.f (by decide))).trans h.r.f, h.r.B.grown hg h.r.B.size (fun k hk => (h.o.lt k hk).1), h.r.ne, h.r.lo⟩, ho⟩
theorem tw_start {w w1 w2 w3 : World} {g : Nat} {cs fs : Array Value} {x : ByteArray} (hx : Blk w1 w.heap.size cs 23) (hB : Below w.heap.size w w1) (hb2 : Below w1.heap.size w1 w2)
    (hg : Blk w3 g fs 38) (hgl : (w2.alloc (.cells #[.string x] 9)).heap.size ≤ g) (hb : Below (w2.alloc (.cells #[.string x] 9)).heap.size (w2.alloc (.cells #[.string x] 9)) w3) :
    Tw w g cs fs (.slice (some ⟨w2.heap.size, 0, none⟩) 1 1) [x] w3 := by
  have hB2 := hB.trans (hb2.mono hB.size)
  refine ⟨rt_from ((hx.onto hb2).alloc _) (hB2.alloc hB2.size _) (Nat.le_refl _) hg hgl hb, ?_⟩
  exact words_mk (ws := [x]) (cur := #[.string x]) hB2.size ((Blk.new w2 _ _).onto hb) (by simp) (by unfold maxLen; decide) rfl rfl
/-- The words, one behind the other. -/
theorem join_any (v : Value) (ws : List ByteArray) (R : ByteArray) (base : Nat) (w : World) (hw : Words w base v ws) (h1 : 0 < ws.length) (h9 : ws.length ≤ 9) (hR : Lib.join (ws.map (·.data.toList)) [32] = R.data.toList) (hs : R.size ≤ 140737488355328) :
    Calls Tryd.prog 18 #[v, .string ⟨#[32]⟩] w fun e w' => e = .returned (.string R) ∧ Below w.heap.size w w' := by
  obtain ⟨g, cap, cur, rfl, hb, hB, hn, hm, hz, ht⟩ := words_open hw h1
  refine (Tryd.strings_Join g 0 cap ws ⟨#[32]⟩ w (fun j x hj => ?_) hB.lt (by omega) hn ?_).mono ?_
  · rw [Nat.zero_add]
    refine hB.cell j _ ?_
    have h2 : (ws.map Value.string)[j]? = some (.string x) := by rw [List.getElem?_map, hj]; rfl
    rw [← ht, List.getElem?_take] at h2
    split at h2
    · simpa using h2
    · cases h2
  · have e : Lib.join (ws.map (·.data.toList)) (⟨#[32]⟩ : ByteArray).data.toList = R.data.toList := hR
    rw [e, list_size]; exact hs
  · rintro e w' ⟨rfl, hb'⟩
    have e : Lib.join (ws.map (·.data.toList)) (⟨#[32]⟩ : ByteArray).data.toList = R.data.toList := hR
    exact ⟨ret_str (by rw [e]), hb'⟩
theorem wj1 (a n : Int) (s : ByteArray) : Lib.join ([verbS 1, decS a, s].map (·.data.toList)) [32] = (wordsS 1 a n s).data.toList := by
  simp [Lib.join, List.intercalate, verbS, wordsS]
theorem wj2 (a n : Int) (s : ByteArray) : Lib.join ([verbS 2, decS a, decS n].map (·.data.toList)) [32] = (wordsS 2 a n s).data.toList := by
  simp [Lib.join, List.intercalate, verbS, wordsS]
theorem wj3 (a n : Int) (s : ByteArray) : Lib.join ([verbS 3, s, decS a].map (·.data.toList)) [32] = (wordsS 3 a n s).data.toList := by
  simp [Lib.join, List.intercalate, verbS, wordsS]
theorem wj4 (a n : Int) (s : ByteArray) : Lib.join ([verbS 4, s].map (·.data.toList)) [32] = (wordsS 4 a n s).data.toList := by
  simp [Lib.join, List.intercalate, verbS, wordsS]
theorem wj5 {k : Int} (hk : k = 5 ∨ k = 6 ∨ k = 7 ∨ k = 8) (a n : Int) (s : ByteArray) : Lib.join ([verbS k].map (·.data.toList)) [32] = (wordsS k a n s).data.toList := by
  rcases hk with rfl | rfl | rfl | rfl <;> simp [Lib.join, List.intercalate, verbS, wordsS]
theorem words_size {k a n : Int} {s : ByteArray} (hr : rightB k a n s.data.toList = true) (hs : s.size ≤ 4294967296) : (wordsS k a n s).size ≤ 140737488355328 := by
  rcases opKinds k with rfl | rfl | rfl | rfl | g | g
  · rw [right1] at hr
    simp only [Bool.and_eq_true, decide_eq_true_eq] at hr
    obtain ⟨p0, p1⟩ := plB_in hr.1.1
    have z1 := decS_size p0 (by omega)
    rw [show wordsS 1 a n s = ⟨#[105, 110, 115, 101, 114, 116, 32]⟩ ++ decS a ++ ⟨#[32]⟩ ++ s from rfl, ByteArray.size_append, ByteArray.size_append, ByteArray.size_append]
    show 7 + (decS a).size + 1 + s.size ≤ _
    omega
  · rw [right2] at hr
    simp only [Bool.and_eq_true, decide_eq_true_eq] at hr
    obtain ⟨p0, p1⟩ := plB_in hr.1.1
    obtain ⟨p2, p3⟩ := plB_in hr.1.2
    have z1 := decS_size p0 (by omega)
    have z2 := decS_size p2 (by omega)
    rw [show wordsS 2 a n s = ⟨#[100, 101, 108, 101, 116, 101, 32]⟩ ++ decS a ++ ⟨#[32]⟩ ++ decS n from rfl, ByteArray.size_append, ByteArray.size_append, ByteArray.size_append]
    show 7 + (decS a).size + 1 + (decS n).size ≤ _
    omega
  · rw [right3] at hr
    simp only [Bool.and_eq_true, decide_eq_true_eq] at hr
    obtain ⟨p0, p1⟩ := plB_in hr.1.1
    have z1 := decS_size p0 (by omega)
    rw [show wordsS 3 a n s = ⟨#[109, 97, 114, 107, 32]⟩ ++ s ++ ⟨#[32]⟩ ++ decS a from rfl, ByteArray.size_append, ByteArray.size_append, ByteArray.size_append]
    show 5 + s.size + 1 + (decS a).size ≤ _
    omega
  · rw [show wordsS 4 a n s = ⟨#[117, 110, 109, 97, 114, 107, 32]⟩ ++ s from rfl, ByteArray.size_append]
    show 7 + s.size ≤ _
    omega
  · have hk : k = 5 ∨ k = 6 ∨ k = 7 ∨ k = 8 := by omega
    have h5 : (wordsS k a n s).size ≤ 5 := by
      rcases hk with rfl | rfl | rfl | rfl
      · exact Nat.le_trans (Nat.le_of_eq (show (wordsS 5 a n s).size = 4 from rfl)) (by decide)
      · exact Nat.le_trans (Nat.le_of_eq (show (wordsS 6 a n s).size = 4 from rfl)) (by decide)
      · exact Nat.le_of_eq (show (wordsS 7 a n s).size = 5 from rfl)
      · exact Nat.le_trans (Nat.le_of_eq (show (wordsS 8 a n s).size = 3 from rfl)) (by decide)
    omega
  · rw [right_off g] at hr; cases hr

set_option maxRecDepth 100000 in
set_option maxHeartbeats 1600000 in
theorem text_one (a n : Int) (s : ByteArray) (ha : -9223372036854775808 ≤ a) (ha2 : a ≤ 9223372036854775807) (hs : s.size ≤ 4294967296) (hr : rightB 1 a n s.data.toList = true) (w : World) (hp : Pow w.heap.size w) :
    Calls Tryd.prog 7 #[.agg #[.int .i64 1, .int .i64 a, .int .i64 n, .string s]] w fun e w' => e = .returned (.string (wordsS 1 a n s)) ∧ Below w.heap.size w w' := by
  have hq := op_right_any 1 a n s (by unfold maxLen; omega)
  rw [hr] at hq
  have HQ := Lib.hid hq; have HP := Lib.hid hp; have HS := Lib.hid (words_size hr hs); have HV := Lib.hid (verb_any 1 (by decide) (by decide))
  have HA := Lib.hid ha; have HA2 := Lib.hid ha2
  obtain ⟨vb, hvb⟩ : ∃ x, verbS 1 = x := ⟨_, rfl⟩
  rw [hvb] at HV
  have HVB := Lib.hid hvb
  clear hq hr hp hs hvb ha ha2
  go_enter Tryd.func7, Tryd.ntmps7
  go_wp2_with fail
  refine (HQ.out _).mono ?_; rintro e w1 ⟨rfl, hb1⟩
  have HX := Lib.hid ((Blk.new w #[.int .i64 1, .int .i64 a, .int .i64 n, .string s] 23).onto hb1)
  have HB1 := Lib.hid (((Below.refl w.heap.size w).alloc (Nat.le_refl _) (.cells #[.int .i64 1, .int .i64 a, .int .i64 n, .string s] 23)).trans (hb1.mono (by simp)))
  clear hb1
  obtain ⟨x0, -, -, -, -, -, -, -⟩ := HX.out.four
  go_wp2_with fail
  refine (HV.out _).mono ?_; rintro e w2 ⟨rfl, hb2⟩
  have HB2 := Lib.hid hb2
  clear hb2 x0
  go_wp2_with fail
  refine (has_one _ _ _ _ _ ((HX.out.onto HB2.out).alloc _)).mono ?_
  rintro e w3 ⟨g, rfl, hg, hgl, hb3⟩
  have HT := Lib.hid (tw_start HX.out HB1.out HB2.out hg hgl hb3)
  rw [← HVB.out] at HT
  clear hg hgl hb3
  go_wp2
  go_loopw [3, 15] (fun v i wr => Tw2 true w g #[.iface 48 (.pointer (some ⟨w.heap.size, 1, none⟩)), .iface 50 (.pointer (some ⟨w.heap.size, 3, none⟩))] #[.int .i64 1, .int .i64 a, .int .i64 n, .string s] ([verbS 1]) ([verbS 1, decS a]) ([verbS 1, decS a, s]) v i wr) (fun _ i _ => 2 - (intOf i).toNat)
  case atStart => exact .inl ⟨rfl, HT.out⟩
  case round =>
    clear HT
    rcases hrel with ⟨rfl, ht⟩ | ⟨rfl, ht⟩ | ⟨hz, rfl, ht⟩
    · obtain ⟨g0, g1⟩ := ht.r.f.duo
      obtain ⟨x0, x1, x2, x3, -, -, -, -⟩ := ht.r.x.four
      have HT := Lib.hid ht
      clear ht
      go_wp2_with fail
      refine (tell_num _ _ a HA.out HA2.out _ _ w.heap.size w.heap.size _ HT.out.o (by simp) HT.out.r.B.size (HP.out.on HT.out.r.B) x1).mono ?_
      rintro e w4 ⟨v', rfl, hown, hgr⟩
      have HT2 := Lib.hid (HT.out.tell hown hgr)
      clear hown hgr HT
      go_wp2
      go_roundw
      case rel => exact .inr (.inl ⟨by go_num, HT2.out⟩)
      case measure => simp [intOf]
    · obtain ⟨g0, g1⟩ := ht.r.f.duo
      obtain ⟨x0, x1, x2, x3, -, -, -, -⟩ := ht.r.x.four
      have HT := Lib.hid ht
      clear ht
      go_wp2_with fail
      refine (tell_con _ _ s _ _ w.heap.size _ HT.out.o (by simp) HT.out.r.B.size x3).mono ?_
      rintro e w4 ⟨v', rfl, hown, hgr⟩
      have HT2 := Lib.hid (HT.out.tell hown hgr)
      clear hown hgr HT
      go_wp2
      go_roundw
      case rel => exact .inr (.inr ⟨rfl, by go_num, HT2.out⟩)
      case measure => simp [intOf]
    · have HT := Lib.hid ht
      clear ht
      go_wp2_with fail
      refine (join_any _ _ _ w.heap.size _ HT.out.o (by simp) (by simp) (wj1 a n s) HS.out).mono ?_; rintro e w4 ⟨rfl, hb4⟩
      go_wp2
      go_ret
      exact ⟨rfl, HT.out.r.B.trans (hb4.mono HT.out.r.B.size)⟩
set_option maxRecDepth 100000 in
set_option maxHeartbeats 1600000 in
theorem text_two (a n : Int) (s : ByteArray) (ha : -9223372036854775808 ≤ a) (ha2 : a ≤ 9223372036854775807) (hn : -9223372036854775808 ≤ n) (hn2 : n ≤ 9223372036854775807) (hs : s.size ≤ 4294967296) (hr : rightB 2 a n s.data.toList = true) (w : World) (hp : Pow w.heap.size w) :
    Calls Tryd.prog 7 #[.agg #[.int .i64 2, .int .i64 a, .int .i64 n, .string s]] w fun e w' => e = .returned (.string (wordsS 2 a n s)) ∧ Below w.heap.size w w' := by
  have hq := op_right_any 2 a n s (by unfold maxLen; omega)
  rw [hr] at hq
  have HQ := Lib.hid hq; have HP := Lib.hid hp; have HS := Lib.hid (words_size hr hs); have HV := Lib.hid (verb_any 2 (by decide) (by decide))
  have HA := Lib.hid ha; have HA2 := Lib.hid ha2
  have HN := Lib.hid hn; have HN2 := Lib.hid hn2
  obtain ⟨vb, hvb⟩ : ∃ x, verbS 2 = x := ⟨_, rfl⟩
  rw [hvb] at HV
  have HVB := Lib.hid hvb
  clear hq hr hp hs hvb ha ha2 hn hn2
  go_enter Tryd.func7, Tryd.ntmps7
  go_wp2_with fail
  refine (HQ.out _).mono ?_; rintro e w1 ⟨rfl, hb1⟩
  have HX := Lib.hid ((Blk.new w #[.int .i64 2, .int .i64 a, .int .i64 n, .string s] 23).onto hb1)
  have HB1 := Lib.hid (((Below.refl w.heap.size w).alloc (Nat.le_refl _) (.cells #[.int .i64 2, .int .i64 a, .int .i64 n, .string s] 23)).trans (hb1.mono (by simp)))
  clear hb1
  obtain ⟨x0, -, -, -, -, -, -, -⟩ := HX.out.four
  go_wp2_with fail
  refine (HV.out _).mono ?_; rintro e w2 ⟨rfl, hb2⟩
  have HB2 := Lib.hid hb2
  clear hb2 x0
  go_wp2_with fail
  refine (has_two _ _ _ _ _ ((HX.out.onto HB2.out).alloc _)).mono ?_
  rintro e w3 ⟨g, rfl, hg, hgl, hb3⟩
  have HT := Lib.hid (tw_start HX.out HB1.out HB2.out hg hgl hb3)
  rw [← HVB.out] at HT
  clear hg hgl hb3
  go_wp2
  go_loopw [3, 15] (fun v i wr => Tw2 true w g #[.iface 48 (.pointer (some ⟨w.heap.size, 1, none⟩)), .iface 48 (.pointer (some ⟨w.heap.size, 2, none⟩))] #[.int .i64 2, .int .i64 a, .int .i64 n, .string s] ([verbS 2]) ([verbS 2, decS a]) ([verbS 2, decS a, decS n]) v i wr) (fun _ i _ => 2 - (intOf i).toNat)
  case atStart => exact .inl ⟨rfl, HT.out⟩
  case round =>
    clear HT
    rcases hrel with ⟨rfl, ht⟩ | ⟨rfl, ht⟩ | ⟨hz, rfl, ht⟩
    · obtain ⟨g0, g1⟩ := ht.r.f.duo
      obtain ⟨x0, x1, x2, x3, -, -, -, -⟩ := ht.r.x.four
      have HT := Lib.hid ht
      clear ht
      go_wp2_with fail
      refine (tell_num _ _ a HA.out HA2.out _ _ w.heap.size w.heap.size _ HT.out.o (by simp) HT.out.r.B.size (HP.out.on HT.out.r.B) x1).mono ?_
      rintro e w4 ⟨v', rfl, hown, hgr⟩
      have HT2 := Lib.hid (HT.out.tell hown hgr)
      clear hown hgr HT
      go_wp2
      go_roundw
      case rel => exact .inr (.inl ⟨by go_num, HT2.out⟩)
      case measure => simp [intOf]
    · obtain ⟨g0, g1⟩ := ht.r.f.duo
      obtain ⟨x0, x1, x2, x3, -, -, -, -⟩ := ht.r.x.four
      have HT := Lib.hid ht
      clear ht
      go_wp2_with fail
      refine (tell_num _ _ n HN.out HN2.out _ _ w.heap.size w.heap.size _ HT.out.o (by simp) HT.out.r.B.size (HP.out.on HT.out.r.B) x2).mono ?_
      rintro e w4 ⟨v', rfl, hown, hgr⟩
      have HT2 := Lib.hid (HT.out.tell hown hgr)
      clear hown hgr HT
      go_wp2
      go_roundw
      case rel => exact .inr (.inr ⟨rfl, by go_num, HT2.out⟩)
      case measure => simp [intOf]
    · have HT := Lib.hid ht
      clear ht
      go_wp2_with fail
      refine (join_any _ _ _ w.heap.size _ HT.out.o (by simp) (by simp) (wj2 a n s) HS.out).mono ?_; rintro e w4 ⟨rfl, hb4⟩
      go_wp2
      go_ret
      exact ⟨rfl, HT.out.r.B.trans (hb4.mono HT.out.r.B.size)⟩
set_option maxRecDepth 100000 in
set_option maxHeartbeats 1600000 in
theorem text_three (a n : Int) (s : ByteArray) (ha : -9223372036854775808 ≤ a) (ha2 : a ≤ 9223372036854775807) (hs : s.size ≤ 4294967296) (hr : rightB 3 a n s.data.toList = true) (w : World) (hp : Pow w.heap.size w) :
    Calls Tryd.prog 7 #[.agg #[.int .i64 3, .int .i64 a, .int .i64 n, .string s]] w fun e w' => e = .returned (.string (wordsS 3 a n s)) ∧ Below w.heap.size w w' := by
  have hq := op_right_any 3 a n s (by unfold maxLen; omega)
  rw [hr] at hq
  have HQ := Lib.hid hq; have HP := Lib.hid hp; have HS := Lib.hid (words_size hr hs); have HV := Lib.hid (verb_any 3 (by decide) (by decide))
  have HA := Lib.hid ha; have HA2 := Lib.hid ha2
  obtain ⟨vb, hvb⟩ : ∃ x, verbS 3 = x := ⟨_, rfl⟩
  rw [hvb] at HV
  have HVB := Lib.hid hvb
  clear hq hr hp hs hvb ha ha2
  go_enter Tryd.func7, Tryd.ntmps7
  go_wp2_with fail
  refine (HQ.out _).mono ?_; rintro e w1 ⟨rfl, hb1⟩
  have HX := Lib.hid ((Blk.new w #[.int .i64 3, .int .i64 a, .int .i64 n, .string s] 23).onto hb1)
  have HB1 := Lib.hid (((Below.refl w.heap.size w).alloc (Nat.le_refl _) (.cells #[.int .i64 3, .int .i64 a, .int .i64 n, .string s] 23)).trans (hb1.mono (by simp)))
  clear hb1
  obtain ⟨x0, -, -, -, -, -, -, -⟩ := HX.out.four
  go_wp2_with fail
  refine (HV.out _).mono ?_; rintro e w2 ⟨rfl, hb2⟩
  have HB2 := Lib.hid hb2
  clear hb2 x0
  go_wp2_with fail
  refine (has_three _ _ _ _ _ ((HX.out.onto HB2.out).alloc _)).mono ?_
  rintro e w3 ⟨g, rfl, hg, hgl, hb3⟩
  have HT := Lib.hid (tw_start HX.out HB1.out HB2.out hg hgl hb3)
  rw [← HVB.out] at HT
  clear hg hgl hb3
  go_wp2
  go_loopw [3, 15] (fun v i wr => Tw2 true w g #[.iface 48 (.pointer (some ⟨w.heap.size, 1, none⟩)), .iface 52 (.pointer (some ⟨w.heap.size, 3, none⟩))] #[.int .i64 3, .int .i64 a, .int .i64 n, .string s] ([verbS 3]) ([verbS 3, decS a]) ([verbS 3, s, decS a]) v i wr) (fun _ i _ => 2 - (intOf i).toNat)
  case atStart => exact .inl ⟨rfl, HT.out⟩
  case round =>
    clear HT
    rcases hrel with ⟨rfl, ht⟩ | ⟨rfl, ht⟩ | ⟨hz, rfl, ht⟩
    · obtain ⟨g0, g1⟩ := ht.r.f.duo
      obtain ⟨x0, x1, x2, x3, -, -, -, -⟩ := ht.r.x.four
      have HT := Lib.hid ht
      clear ht
      go_wp2_with fail
      refine (tell_num _ _ a HA.out HA2.out _ _ w.heap.size w.heap.size _ HT.out.o (by simp) HT.out.r.B.size (HP.out.on HT.out.r.B) x1).mono ?_
      rintro e w4 ⟨v', rfl, hown, hgr⟩
      have HT2 := Lib.hid (HT.out.tell hown hgr)
      clear hown hgr HT
      go_wp2
      go_roundw
      case rel => exact .inr (.inl ⟨by go_num, HT2.out⟩)
      case measure => simp [intOf]
    · obtain ⟨g0, g1⟩ := ht.r.f.duo
      obtain ⟨x0, x1, x2, x3, -, -, -, -⟩ := ht.r.x.four
      have HT := Lib.hid ht
      clear ht
      go_wp2_with fail
      refine (tell_nam_two _ _ _ s _ _ w.heap.size _ HT.out.o HT.out.r.B.size x3).mono ?_
      rintro e w4 ⟨v', rfl, hown, hgr⟩
      have HT2 := Lib.hid (HT.out.tell hown hgr)
      clear hown hgr HT
      go_wp2
      go_roundw
      case rel => exact .inr (.inr ⟨rfl, by go_num, HT2.out⟩)
      case measure => simp [intOf]
    · have HT := Lib.hid ht
      clear ht
      go_wp2_with fail
      refine (join_any _ _ _ w.heap.size _ HT.out.o (by simp) (by simp) (wj3 a n s) HS.out).mono ?_; rintro e w4 ⟨rfl, hb4⟩
      go_wp2
      go_ret
      exact ⟨rfl, HT.out.r.B.trans (hb4.mono HT.out.r.B.size)⟩
set_option maxRecDepth 100000 in
set_option maxHeartbeats 1600000 in
theorem text_four (a n : Int) (s : ByteArray) (hs : s.size ≤ 4294967296) (hr : rightB 4 a n s.data.toList = true) (w : World) (hp : Pow w.heap.size w) :
    Calls Tryd.prog 7 #[.agg #[.int .i64 4, .int .i64 a, .int .i64 n, .string s]] w fun e w' => e = .returned (.string (wordsS 4 a n s)) ∧ Below w.heap.size w w' := by
  have hq := op_right_any 4 a n s (by unfold maxLen; omega)
  rw [hr] at hq
  have HQ := Lib.hid hq; have HP := Lib.hid hp; have HS := Lib.hid (words_size hr hs); have HV := Lib.hid (verb_any 4 (by decide) (by decide))
  obtain ⟨vb, hvb⟩ : ∃ x, verbS 4 = x := ⟨_, rfl⟩
  rw [hvb] at HV
  have HVB := Lib.hid hvb
  clear hq hr hp hs hvb
  go_enter Tryd.func7, Tryd.ntmps7
  go_wp2_with fail
  refine (HQ.out _).mono ?_; rintro e w1 ⟨rfl, hb1⟩
  have HX := Lib.hid ((Blk.new w #[.int .i64 4, .int .i64 a, .int .i64 n, .string s] 23).onto hb1)
  have HB1 := Lib.hid (((Below.refl w.heap.size w).alloc (Nat.le_refl _) (.cells #[.int .i64 4, .int .i64 a, .int .i64 n, .string s] 23)).trans (hb1.mono (by simp)))
  clear hb1
  obtain ⟨x0, -, -, -, -, -, -, -⟩ := HX.out.four
  go_wp2_with fail
  refine (HV.out _).mono ?_; rintro e w2 ⟨rfl, hb2⟩
  have HB2 := Lib.hid hb2
  clear hb2 x0
  go_wp2_with fail
  refine (has_four _ _ _ _ _ ((HX.out.onto HB2.out).alloc _)).mono ?_
  rintro e w3 ⟨g, rfl, hg, hgl, hb3⟩
  have HT := Lib.hid (tw_start HX.out HB1.out HB2.out hg hgl hb3)
  rw [← HVB.out] at HT
  clear hg hgl hb3
  go_wp2
  go_loopw [3, 15] (fun v i wr => Tw2 false w g #[.iface 52 (.pointer (some ⟨w.heap.size, 3, none⟩))] #[.int .i64 4, .int .i64 a, .int .i64 n, .string s] ([verbS 4]) ([verbS 4, s]) ([]) v i wr) (fun _ i _ => 2 - (intOf i).toNat)
  case atStart => exact .inl ⟨rfl, HT.out⟩
  case round =>
    clear HT
    rcases hrel with ⟨rfl, ht⟩ | ⟨rfl, ht⟩ | ⟨hz, rfl, ht⟩
    · have g0 := ht.r.f.lone
      obtain ⟨x0, x1, x2, x3, -, -, -, -⟩ := ht.r.x.four
      have HT := Lib.hid ht
      clear ht
      go_wp2_with fail
      refine (tell_nam_one _ _ s _ _ w.heap.size _ HT.out.o HT.out.r.B.size x3).mono ?_
      rintro e w4 ⟨v', rfl, hown, hgr⟩
      have HT2 := Lib.hid (HT.out.tell hown hgr)
      clear hown hgr HT
      go_wp2
      go_roundw
      case rel => exact .inr (.inl ⟨by go_num, HT2.out⟩)
      case measure => simp [intOf]
    · have HT := Lib.hid ht
      clear ht
      go_wp2_with fail
      refine (join_any _ _ _ w.heap.size _ HT.out.o (by simp) (by simp) (wj4 a n s) HS.out).mono ?_; rintro e w4 ⟨rfl, hb4⟩
      go_wp2
      go_ret
      exact ⟨rfl, HT.out.r.B.trans (hb4.mono HT.out.r.B.size)⟩
    · cases hz
set_option maxRecDepth 100000 in
set_option maxHeartbeats 1600000 in
theorem text_bare (k a n : Int) (hk : k = 5 ∨ k = 6 ∨ k = 7 ∨ k = 8) (s : ByteArray) (hs : s.size ≤ 4294967296) (hr : rightB k a n s.data.toList = true) (w : World) :
    Calls Tryd.prog 7 #[.agg #[.int .i64 k, .int .i64 a, .int .i64 n, .string s]] w fun e w' => e = .returned (.string (wordsS k a n s)) ∧ Below w.heap.size w w' := by
  have hq := op_right_any k a n s (by unfold maxLen; omega)
  rw [hr] at hq
  have HQ := Lib.hid hq; have HS := Lib.hid (words_size hr hs); have HV := Lib.hid (verb_any k (by omega) (by omega)); have HJ := Lib.hid (wj5 hk a n s)
  obtain ⟨vb, hvb⟩ : ∃ x, verbS k = x := ⟨_, rfl⟩
  rw [hvb] at HV HJ
  have hk4 : k < 1 ∨ 4 < k := by omega
  clear hq hr hs hvb hk
  go_enter Tryd.func7, Tryd.ntmps7
  go_wp2_with fail
  refine (HQ.out _).mono ?_; rintro e w1 ⟨rfl, hb1⟩
  have HX := Lib.hid ((Blk.new w #[.int .i64 k, .int .i64 a, .int .i64 n, .string s] 23).onto hb1)
  have HB1 := Lib.hid (((Below.refl w.heap.size w).alloc (Nat.le_refl _) (.cells #[.int .i64 k, .int .i64 a, .int .i64 n, .string s] 23)).trans (hb1.mono (by simp)))
  clear hb1
  obtain ⟨x0, -, -, -, -, -, -, -⟩ := HX.out.four
  go_wp2_with fail
  refine (HV.out _).mono ?_; rintro e w2 ⟨rfl, hb2⟩
  have HB2 := Lib.hid (HB1.out.trans (hb2.mono HB1.out.size))
  have HX2 := Lib.hid (HX.out.onto hb2)
  clear hb2 x0
  go_wp2_with fail
  refine (has_none k hk4 _ _ _ _ _ (HX2.out.alloc _)).mono ?_
  rintro e w3 ⟨rfl, hw3⟩
  have HB3 := Lib.hid (show Below w.heap.size w w3 by rw [← hw3]; exact (HB2.out.alloc HB2.out.size _).drew)
  have HO := Lib.hid (show Words w3 w.heap.size (.slice (some ⟨w2.heap.size, 0, none⟩) 1 1) [vb] by
    rw [← hw3]
    exact words_mk (ws := [vb]) (cur := #[.string vb]) HB2.out.size ((Blk.new w2 _ _).drewN 1) (by simp) (by unfold maxLen; decide) rfl rfl)
  clear hw3
  go_wp2
  go_loopw [3, 15] (fun v i wr => v = .slice (some ⟨w2.heap.size, 0, none⟩) 1 1 ∧ i = .int .i64 0 ∧ wr = w3) (fun _ _ _ => 0)
  case atStart => exact ⟨rfl, rfl, rfl⟩
  case round =>
    obtain ⟨rfl, rfl, rfl⟩ := hrel
    go_wp2_with fail
    refine (join_any _ _ _ w.heap.size _ HO.out (by simp) (by simp) HJ.out HS.out).mono ?_; rintro e w4 ⟨rfl, hb4⟩
    go_wp2
    go_ret
    exact ⟨rfl, HB3.out.trans (hb4.mono HB3.out.size)⟩
theorem text_no (k a n : Int) (s : ByteArray) (hs : s.size ≤ 4294967296) (hr : rightB k a n s.data.toList = false) (w : World) :
    Calls Tryd.prog 7 #[.agg #[.int .i64 k, .int .i64 a, .int .i64 n, .string s]] w fun e w' => e = .returned (.string ⟨#[]⟩) ∧ Below w.heap.size w w' := by
  have hq := op_right_any k a n s (by unfold maxLen; omega)
  rw [hr] at hq
  have HQ := Lib.hid hq
  clear hr hq
  go_enter Tryd.func7, Tryd.ntmps7
  go_wp2_with fail
  refine (HQ.out _).mono ?_; rintro e w1 ⟨rfl, hb1⟩
  go_wp2
  go_ret
  exact ⟨rfl, ((Below.refl _ _).alloc (Nat.le_refl _) _).trans (hb1.mono (by simp))⟩
/-- Text: an operation's words. -/
theorem text_any (k a n : Int) (s : ByteArray) (hs : s.size ≤ 4294967296) (ha : -9223372036854775808 ≤ a) (ha2 : a ≤ 9223372036854775807) (hn : -9223372036854775808 ≤ n) (hn2 : n ≤ 9223372036854775807) (w : World) (hp : Pow w.heap.size w) :
    Calls Tryd.prog 7 #[.agg #[.int .i64 k, .int .i64 a, .int .i64 n, .string s]] w fun e w' => e = .returned (.string (textR k a n s)) ∧ Below w.heap.size w w' := by
  unfold textR
  cases hr : rightB k a n s.data.toList
  · exact text_no k a n s hs hr w
  · rw [if_pos rfl]
    rcases opKinds k with rfl | rfl | rfl | rfl | g | g
    · exact text_one a n s ha ha2 hs hr w hp
    · exact text_two a n s ha ha2 hn hn2 hs hr w hp
    · exact text_three a n s ha ha2 hs hr w hp
    · exact text_four a n s hs hr w hp
    · exact text_bare k a n (by omega) s hs hr w
    · rw [right_off g] at hr; cases hr
end Go.Proofs.YtlgdlkiekodocaaDoor
