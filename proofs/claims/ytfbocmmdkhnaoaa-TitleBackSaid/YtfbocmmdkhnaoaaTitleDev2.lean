/-
  Contracts of the program's begun, given and Read (layer 8).
-/
import Derived.Test.YtfbocmmdkhnaoaaTitleDev
import Derived.Test.YtfbocmmdkhnaoaaBlk
namespace Go.Proofs.Ytfbocmmdkhnaoaa
open Go.RowKit

theorem cpS_yes (s : ByteArray) (k : Nat) (h : cpB s (headS k) = true) : cpS s (headS k) = mkS (s.data.toList.drop (headL k).length) := by
  unfold cpS
  rw [if_pos h]
  refine str_ext ?_
  rw [extract_list, mkS_list, List.take_of_length_le (by rw [List.length_drop]; simp)]
  congr 1
theorem cpS_no (s : ByteArray) (k : Nat) (h : cpB s (headS k) = false) : cpS s (headS k) = s := by
  unfold cpS
  rw [if_neg (by rw [h]; simp)]

set_option maxRecDepth 100000 in
set_option maxHeartbeats 800000 in
theorem tbegun_any (s : ByteArray) (w : World) :
    Calls Try.prog 25 #[.string s] w fun e w' => e = .returned (.tuple #[.int .i64 (begK s.data.toList : Nat), .string (mkS (begR s.data.toList))]) ∧ Below w.heap.size w w' := by
  go_enter Try.func25, Try.ntmps25
  go_wp2
  go_loopw [4] (fun v wr => ∃ k : Nat, 1 ≤ k ∧ k ≤ 5 ∧ v = .int .i64 k ∧ (∀ j, 1 ≤ j → j < k → cpB s (headS j) = false) ∧ Below w.heap.size w wr) (fun v _ => 5 - (intOf v).toNat)
  case atStart => exact ⟨1, by omega, by omega, rfl, fun j h1 h2 => by omega, Below.refl _ _⟩
  case round =>
    obtain ⟨k, hk1, hk5, rfl, hno, hb⟩ := hrel
    by_cases hlt : k ≤ 4
    · have hh := onward hb (thead_any k hlt wr)
      have hcp := fun w => s_cutprefix s (headS k) w
      have hyes := cpS_yes s k
      have hfirst := begK_first s.data.toList k hk1 hlt hno
      have hcs := cpS_no s k
      obtain ⟨c, hc⟩ : ∃ c, cpB s (headS k) = c := ⟨_, rfl⟩
      have hc2 : Lib.hasPrefix s.data.toList (headL k) = c := hc
      rw [hc] at hcp hyes hcs
      rw [hc2] at hfirst
      obtain ⟨G, hG⟩ : ∃ G, headS k = G := ⟨_, rfl⟩
      rw [hG] at hh hcp hyes hcs
      obtain ⟨R, hR⟩ : ∃ R, cpS s G = R := ⟨_, rfl⟩
      rw [hR] at hcp hyes hcs
      have HH := Lib.hid hh; have HC := Lib.hid hcp
      cases c with
      | true =>
        have e1 := hfirst rfl
        have e2 : R = mkS (begR s.data.toList) := by rw [hyes rfl]; unfold begR; rw [e1]
        have E1 := Lib.hid e1; have E2 := Lib.hid e2
        clear hh hcp hyes hfirst hcs hc hc2 hG hR e1 e2 hno hb
        go_wp2_with fail
        refine (HH.out).mono ?_; rintro e w1 ⟨rfl, hb1⟩
        have HB := Lib.hid hb1; clear hb1
        go_wp2_with fail
        refine (HC.out _).mono ?_; rintro e w2 ⟨rfl, rfl⟩
        go_wp2
        go_ret2
        exact ⟨by rw [E1.out, E2.out]; rfl, HB.out⟩
      | false =>
        have hno2 : ∀ j, 1 ≤ j → j < k + 1 → cpB s (headS j) = false := fun j h1 h2 => by
          rcases (show j < k ∨ j = k by omega) with h | rfl
          · exact hno j h1 h
          · exact hc
        have HNO := Lib.hid hno2
        clear hh hcp hyes hfirst hcs hc hc2 hG hR hno hb hno2
        go_wp2_with fail
        refine (HH.out).mono ?_; rintro e w1 ⟨rfl, hb1⟩
        have HB := Lib.hid hb1; clear hb1
        go_wp2_with fail
        refine (HC.out _).mono ?_; rintro e w2 ⟨rfl, rfl⟩
        go_wp2
        go_roundw
        case rel => exact ⟨k + 1, by omega, by omega, by go_num, HNO.out, HB.out⟩
        case measure => simp [intOf]; omega
    · obtain rfl : k = 5 := by omega
      have e1 := begK_none s.data.toList hno
      have e2 : mkS (begR s.data.toList) = s := by rw [begR_0 _ e1]; rfl
      have E1 := Lib.hid e1; have E2 := Lib.hid e2; have HB := Lib.hid hb
      clear e1 e2 hno hb
      go_wp2
      go_ret2
      exact ⟨by rw [E1.out, E2.out]; rfl, HB.out⟩

/-- What is given of what is told. -/
def givL (k : Nat) (e p : Int) (n : List UInt8) : List UInt8 := if k = 1 then offC e else if k = 2 then offL e p else if k = 4 then offX n else []
set_option maxRecDepth 100000 in
set_option maxHeartbeats 800000 in
theorem tgiven_any (k : Nat) (hk : k ≤ 4) (e p : Nat) (he : e ≤ 999999999) (hp : p ≤ 999999999) (n : ByteArray) (hn : n.size ≤ maxLen) (w : World) :
    Calls Try.prog 28 #[ttlV (k : Nat) (e : Nat) (p : Nat) n] w fun x w' => x = .returned (.string (mkS (givL k (e : Nat) (p : Nat) n.data.toList))) ∧ Below w.heap.size w w' := by
  have hC := tofcheck_any (e : Nat) (by omega) (by omega)
  have hL := toflog_any (e : Nat) (p : Nat) (by omega) (by omega) (by omega) (by omega)
  have hX := tofexport_any n hn
  have h1 : givL 1 (e : Nat) (p : Nat) n.data.toList = offC (e : Nat) := rfl
  have h2 : givL 2 (e : Nat) (p : Nat) n.data.toList = offL (e : Nat) (p : Nat) := rfl
  have h4 : givL 4 (e : Nat) (p : Nat) n.data.toList = offX n.data.toList := rfl
  have h0 : givL 0 (e : Nat) (p : Nat) n.data.toList = [] := rfl
  have h3 : givL 3 (e : Nat) (p : Nat) n.data.toList = [] := rfl
  have HC := Lib.hid hC; have HL := Lib.hid hL; have HX := Lib.hid hX
  clear hC hL hX
  rcases (show k = 0 ∨ k = 1 ∨ k = 2 ∨ k = 3 ∨ k = 4 by omega) with rfl | rfl | rfl | rfl | rfl
  · rw [h0]
    clear h0 h1 h2 h3 h4
    go_enter Try.func28, Try.ntmps28
    go_wp2
    go_ret
    exact ⟨rfl, (Below.refl _ _).alloc (Nat.le_refl _) _⟩
  · rw [h1]
    clear h0 h1 h2 h3 h4
    go_enter Try.func28, Try.ntmps28
    go_wp2_with fail
    refine (onward ((Below.refl _ _).alloc (Nat.le_refl _) _) (HC.out _)).mono ?_
    rintro x w1 ⟨rfl, hb1⟩
    go_wp2
    go_ret
    exact ⟨rfl, hb1⟩
  · rw [h2]
    clear h0 h1 h2 h3 h4
    go_enter Try.func28, Try.ntmps28
    go_wp2_with fail
    refine (onward ((Below.refl _ _).alloc (Nat.le_refl _) _) (HL.out _)).mono ?_
    rintro x w1 ⟨rfl, hb1⟩
    go_wp2
    go_ret
    exact ⟨rfl, hb1⟩
  · rw [h3]
    clear h0 h1 h2 h3 h4
    go_enter Try.func28, Try.ntmps28
    go_wp2
    go_ret
    exact ⟨rfl, (Below.refl _ _).alloc (Nat.le_refl _) _⟩
  · rw [h4]
    clear h0 h1 h2 h3 h4
    go_enter Try.func28, Try.ntmps28
    go_wp2_with fail
    refine (onward ((Below.refl _ _).alloc (Nat.le_refl _) _) (HX.out _)).mono ?_
    rintro x w1 ⟨rfl, hb1⟩
    go_wp2
    go_ret
    exact ⟨rfl, hb1⟩


theorem beg_len (s : ByteArray) : (begR s.data.toList).length ≤ s.size := by unfold begR; simp
/-- A result's four cells written. -/
theorem below_res4 {w w2 : World} (hb : Below w.heap.size w w2) (u0 u1 u2 u3 : Value) :
    Below w.heap.size w ((((w2.setCell ⟨w.heap.size, 0, none⟩ u0).setCell ⟨w.heap.size, 1, none⟩ u1).setCell ⟨w.heap.size, 2, none⟩ u2).setCell ⟨w.heap.size, 3, none⟩ u3) :=
  (((hb.setCell (p := ⟨w.heap.size, 0, none⟩) (Nat.le_refl _) _).setCell (p := ⟨w.heap.size, 1, none⟩) (Nat.le_refl _) _).setCell (p := ⟨w.heap.size, 2, none⟩) (Nat.le_refl _) _).setCell (p := ⟨w.heap.size, 3, none⟩) (Nat.le_refl _) _
abbrev ttlC (k e p : Int) (n : ByteArray) : Array Value := #[.int .i64 k, .int .i64 e, .int .i64 p, .string n]
/-- Behind begun: the result's block and the title's own. -/
theorem rd_start {w w1 : World} {k e p : Int} {n : ByteArray} (hb : Below (w.alloc (.cells (ttlC 0 0 0 ⟨#[]⟩) 30)).heap.size (w.alloc (.cells (ttlC 0 0 0 ⟨#[]⟩) 30)) w1) :
    Below w.heap.size w (w1.alloc (.cells (ttlC k e p n) 30)) ∧ Blk (w1.alloc (.cells (ttlC k e p n) 30)) w.heap.size (ttlC 0 0 0 ⟨#[]⟩) 30 ∧
    Blk (w1.alloc (.cells (ttlC k e p n) 30)) w1.heap.size (ttlC k e p n) 30 ∧ w.heap.size < w1.heap.size := by
  have h1 : w.heap.size < w1.heap.size := by have := hb.size; simp at this; omega
  refine ⟨((((Below.refl _ _).alloc (Nat.le_refl _) _).trans (hb.mono (by simp))).alloc (by omega) _), ((Blk.new w _ _).onto hb).alloc _, Blk.new _ _ _, h1⟩

set_option maxRecDepth 100000 in
set_option maxHeartbeats 1600000 in
/-- Of a name that begins as none. -/
theorem tread_0 (s : ByteArray) (hk : begK s.data.toList = 0) (w : World) : Calls Try.prog 16 #[.string s] w (RetTtl w (readT s.data.toList)) := by
  have hr := read_none _ hk
  have hb0 := fun w => tbegun_any s w
  rw [hk, begR_0 _ hk, show mkS s.data.toList = s from rfl] at hb0
  rw [hr]
  have hg : ∀ w, Calls Try.prog 28 #[.agg #[.int .i64 0, .int .i64 0, .int .i64 0, .string ⟨#[]⟩]] w fun x w' => x = .returned (.string ⟨#[]⟩) ∧ Below w.heap.size w w' :=
    fun w => tgiven_any 0 (by omega) 0 0 (by omega) (by omega) ByteArray.empty (by decide) w
  have HB := Lib.hid hb0; have HG := Lib.hid hg
  clear hr hb0 hk hg
  go_enter Try.func16, Try.ntmps16
  go_wp2_with fail
  refine (HB.out _).mono ?_; rintro e w1 ⟨rfl, hb1⟩
  obtain ⟨h1, h2, h3, hlt⟩ := rd_start (k := 0) (e := 0) (p := 0) (n := ⟨#[]⟩) hb1
  have H1 := Lib.hid h1; have H2 := Lib.hid h2; have H3 := Lib.hid h3
  obtain ⟨a0, a1, a2, a3, f0, f1, f2, f3⟩ := h3.four
  clear hb1 h1 h2 h3
  go_wp2_with fail
  refine (HG.out _).mono ?_; rintro e w2 ⟨rfl, hb2⟩
  have HX := Lib.hid (H1.out.trans (hb2.mono H1.out.size))
  obtain ⟨c0, c1, c2, c3, g0, g1, g2, g3⟩ := (H2.out.onto hb2).four
  obtain ⟨d0, d1, d2, d3, e0, e1, e2, e3⟩ := (H3.out.onto hb2).four
  clear hb2 a0 a1 a2 a3 f0 f1 f2 f3
  go_wp2
  · exact bodyPost_ret (v := ttlV (0 : Nat) (0 : Nat) (0 : Nat) (mkS [])) (by simp [results, Try.results16, c0, c1, c2, c3, go_sem]; rfl) rfl (retTtl_mk rfl (below_res4 HX.out _ _ _ _))
  · exact bodyPost_ret (v := ttlV (0 : Nat) (0 : Nat) (0 : Nat) (mkS [])) (by simp [results, Try.results16, c0, c1, c2, c3, go_sem]; rfl) rfl (retTtl_mk rfl (below_res4 HX.out _ _ _ _))
-- KINDS (gen_title8.py)

set_option maxRecDepth 100000 in
set_option maxHeartbeats 1600000 in
/-- Of a name that begins as a checkpoint's. -/
theorem tread_1 (s : ByteArray) (hs : s.size ≤ maxLen) (hk : begK s.data.toList = 1) (w : World) : Calls Try.prog 16 #[.string s] w (RetTtl w (readT s.data.toList)) := by
  have hr := read_1 _ hk
  have hb0 := fun w => tbegun_any s w
  have hlen := beg_len s
  rw [hk] at hb0
  have hb0' : ∀ w, Calls Try.prog 25 #[.string s] w fun e w' => e = .returned (.tuple #[.int .i64 1, .string (mkS (begR s.data.toList))]) ∧ Below w.heap.size w w' := hb0
  have hle := parseI_le (begR s.data.toList)
  have hp := fun w => nparse_any (mkS (begR s.data.toList)) (by rw [mkS_size]; omega) w
  rw [mkS_list] at hp
  obtain ⟨⟨x, ok⟩, hx⟩ : ∃ x, parseI (begR s.data.toList) = x := ⟨_, rfl⟩
  rw [hx] at hp hle hr
  have hg : ∀ w, Calls Try.prog 28 #[.agg #[.int .i64 1, .int .i64 (x : Nat), .int .i64 0, .string ⟨#[]⟩]] w fun v w' => v = .returned (.string (mkS (offC (x : Nat)))) ∧ Below w.heap.size w w' :=
    fun w => tgiven_any 1 (by omega) x 0 hle (by omega) ⟨#[]⟩ (by decide) w
  have R : (mkS (offC (x : Nat)) = s → readT s.data.toList = ⟨1, x, 0, []⟩) ∧ (¬ mkS (offC (x : Nat)) = s → readT s.data.toList = ⟨0, 0, 0, []⟩) :=
    ⟨fun h => hr.1 (by rw [← h, mkS_list]), fun h => hr.2 (fun e => h (str_ext (by rw [mkS_list]; exact e)))⟩
  obtain ⟨y, hy⟩ : ∃ y, mkS (offC (x : Nat)) = y := ⟨_, rfl⟩
  obtain ⟨r, hrr⟩ : ∃ r, mkS (begR s.data.toList) = r := ⟨_, rfl⟩
  rw [hy] at hg R
  rw [hrr] at hp hb0'
  have HB := Lib.hid hb0'; have HG := Lib.hid hg; have HP := Lib.hid hp
  clear hr hb0 hb0' hk hg hp hx hle hy hrr hlen hs
  by_cases hys : y = s
  · have t1 : (y.toList == s.toList) = true := by rw [hys]; simp
    have hr := R.1 hys
    have HR := Lib.hid hr
    clear hys R hr
    go_enter Try.func16, Try.ntmps16
    go_wp2_with fail
    refine (HB.out _).mono ?_; rintro e w1 ⟨rfl, hb1⟩
    obtain ⟨h1, h2, h3, hlt⟩ := rd_start (k := 1) (e := (x : Nat)) (p := 0) (n := ⟨#[]⟩) hb1
    have H1 := Lib.hid h1; have H2 := Lib.hid h2; have H3 := Lib.hid h3
    obtain ⟨a0, a1, a2, a3, f0, f1, f2, f3⟩ := h3.four
    clear hb1 h1 h2 h3
    go_wp2_with fail
    refine (HP.out _).mono ?_; rintro e w2 ⟨rfl, rfl⟩
    go_wp2_with fail
    refine (HG.out _).mono ?_; rintro e wz ⟨rfl, hb2⟩
    have HX := Lib.hid (H1.out.trans (hb2.mono H1.out.size))
    obtain ⟨c0, c1, c2, c3, g0, g1, g2, g3⟩ := (H2.out.onto hb2).four
    obtain ⟨d0, d1, d2, d3, e0, e1, e2, e3⟩ := (H3.out.onto hb2).four
    clear hb2 a0 a1 a2 a3 f0 f1 f2 f3
    go_wp2
    exact bodyPost_ret (v := ttlV (1 : Nat) (x : Nat) (0 : Nat) (mkS [])) (by simp [results, Try.results16, c0, c1, c2, c3, go_sem]; rfl) rfl (retTtl_mk HR.out (below_res4 HX.out _ _ _ _))
  · have t1 := str_ne hys
    have hr := R.2 hys
    have HR := Lib.hid hr
    clear hys R hr
    go_enter Try.func16, Try.ntmps16
    go_wp2_with fail
    refine (HB.out _).mono ?_; rintro e w1 ⟨rfl, hb1⟩
    obtain ⟨h1, h2, h3, hlt⟩ := rd_start (k := 1) (e := (x : Nat)) (p := 0) (n := ⟨#[]⟩) hb1
    have H1 := Lib.hid h1; have H2 := Lib.hid h2; have H3 := Lib.hid h3
    obtain ⟨a0, a1, a2, a3, f0, f1, f2, f3⟩ := h3.four
    clear hb1 h1 h2 h3
    go_wp2_with fail
    refine (HP.out _).mono ?_; rintro e w2 ⟨rfl, rfl⟩
    go_wp2_with fail
    refine (HG.out _).mono ?_; rintro e wz ⟨rfl, hb2⟩
    have HX := Lib.hid (H1.out.trans (hb2.mono H1.out.size))
    obtain ⟨c0, c1, c2, c3, g0, g1, g2, g3⟩ := (H2.out.onto hb2).four
    obtain ⟨d0, d1, d2, d3, e0, e1, e2, e3⟩ := (H3.out.onto hb2).four
    clear hb2 a0 a1 a2 a3 f0 f1 f2 f3
    go_wp2
    exact bodyPost_ret (v := ttlV (0 : Nat) (0 : Nat) (0 : Nat) (mkS [])) (by simp [results, Try.results16, c0, c1, c2, c3, go_sem]; rfl) rfl (retTtl_mk HR.out (below_res4 HX.out _ _ _ _))

set_option maxRecDepth 100000 in
set_option maxHeartbeats 1600000 in
/-- Of a name that begins as a log's. -/
theorem tread_2 (s : ByteArray) (hs : s.size ≤ maxLen) (hk : begK s.data.toList = 2) (w : World) : Calls Try.prog 16 #[.string s] w (RetTtl w (readT s.data.toList)) := by
  have hr := read_2 _ hk
  have hb0 := fun w => tbegun_any s w
  have hlen := beg_len s
  rw [hk] at hb0
  have hb0' : ∀ w, Calls Try.prog 25 #[.string s] w fun e w' => e = .returned (.tuple #[.int .i64 2, .string (mkS (begR s.data.toList))]) ∧ Below w.heap.size w w' := hb0
  obtain ⟨hl1, hl2⟩ := cutL_le (begR s.data.toList)
  have hle1 := parseI_le (cutL (begR s.data.toList)).1
  have hle2 := parseI_le (cutL (begR s.data.toList)).2.1
  have hct := fun w => s_cut (mkS (begR s.data.toList)) (by rw [mkS_size]; omega) w
  have hp1 := fun w => nparse_any (mkS (cutL (begR s.data.toList)).1) (by rw [mkS_size]; omega) w
  have hp2 := fun w => nparse_any (mkS (cutL (begR s.data.toList)).2.1) (by rw [mkS_size]; omega) w
  rw [mkS_list] at hct hp1 hp2
  obtain ⟨⟨x, ok⟩, hx⟩ : ∃ x, parseI (cutL (begR s.data.toList)).1 = x := ⟨_, rfl⟩
  obtain ⟨⟨p, fine⟩, hpp⟩ : ∃ x, parseI (cutL (begR s.data.toList)).2.1 = x := ⟨_, rfl⟩
  rw [hx] at hp1 hle1 hr
  rw [hpp] at hp2 hle2 hr
  have hg : ∀ w, Calls Try.prog 28 #[.agg #[.int .i64 2, .int .i64 (x : Nat), .int .i64 (p : Nat), .string ⟨#[]⟩]] w fun v w' => v = .returned (.string (mkS (offL (x : Nat) (p : Nat)))) ∧ Below w.heap.size w w' :=
    fun w => tgiven_any 2 (by omega) x p hle1 hle2 ⟨#[]⟩ (by decide) w
  have R : (mkS (offL (x : Nat) (p : Nat)) = s → readT s.data.toList = ⟨2, x, p, []⟩) ∧ (¬ mkS (offL (x : Nat) (p : Nat)) = s → readT s.data.toList = ⟨0, 0, 0, []⟩) :=
    ⟨fun h => hr.1 (by rw [← h, mkS_list]), fun h => hr.2 (fun e => h (str_ext (by rw [mkS_list]; exact e)))⟩
  obtain ⟨y, hy⟩ : ∃ y, mkS (offL (x : Nat) (p : Nat)) = y := ⟨_, rfl⟩
  obtain ⟨r, hrr⟩ : ∃ r, mkS (begR s.data.toList) = r := ⟨_, rfl⟩
  obtain ⟨r1, hr1⟩ : ∃ r, mkS (cutL (begR s.data.toList)).1 = r := ⟨_, rfl⟩
  obtain ⟨r2, hr2⟩ : ∃ r, mkS (cutL (begR s.data.toList)).2.1 = r := ⟨_, rfl⟩
  obtain ⟨r3, hr3⟩ : ∃ r, (cutL (begR s.data.toList)).2.2 = r := ⟨_, rfl⟩
  rw [hy] at hg R
  rw [hrr] at hct hb0'
  rw [hr1] at hct hp1
  rw [hr2] at hct hp2
  rw [hr3] at hct
  have HB := Lib.hid hb0'; have HG := Lib.hid hg; have HC := Lib.hid hct; have HP1 := Lib.hid hp1; have HP2 := Lib.hid hp2
  clear hr hb0 hb0' hk hg hp1 hp2 hx hpp hle1 hle2 hl1 hl2 hy hrr hr1 hr2 hr3 hlen hs hct
  by_cases hys : y = s
  · have t1 : (y.toList == s.toList) = true := by rw [hys]; simp
    have hr := R.1 hys
    have HR := Lib.hid hr
    clear hys R hr
    go_enter Try.func16, Try.ntmps16
    go_wp2_with fail
    refine (HB.out _).mono ?_; rintro e w1 ⟨rfl, hb1⟩
    obtain ⟨h1, h2, h3, hlt⟩ := rd_start (k := 2) (e := 0) (p := 0) (n := ⟨#[]⟩) hb1
    have H1 := Lib.hid h1; have H2 := Lib.hid h2; have H3 := Lib.hid h3
    obtain ⟨a0, a1, a2, a3, f0, f1, f2, f3⟩ := h3.four
    clear hb1 h1 h2 h3
    go_wp2_with fail
    refine (HC.out _).mono ?_; rintro e w2 ⟨rfl, hb2⟩
    have G1 := Lib.hid (H1.out.trans (hb2.mono H1.out.size)); have G2 := Lib.hid (H2.out.onto hb2); have G3 := Lib.hid (H3.out.onto hb2)
    clear hb2 H1 H2 H3 a0 a1 a2 a3 f0 f1 f2 f3
    obtain ⟨a0, a1, a2, a3, f0, f1, f2, f3⟩ := G3.out.four
    go_wp2_with fail
    refine (HP2.out _).mono ?_; rintro e w3 ⟨rfl, rfl⟩
    go_wp2_with fail
    refine (HP1.out _).mono ?_; rintro e w3 ⟨rfl, rfl⟩
    have J1 := Lib.hid (G1.out.setCell (p := ⟨w1.heap.size, 2, none⟩) (Nat.le_of_lt hlt) (.int .i64 (p : Nat)))
    have J2 := Lib.hid (G2.out.other ⟨w1.heap.size, 2, none⟩ (Nat.ne_of_gt hlt) (.int .i64 (p : Nat)))
    have J3 := Lib.hid (G3.out.set 2 (.int .i64 (p : Nat)))
    have H1 := Lib.hid (J1.out.setCell (p := ⟨w1.heap.size, 1, none⟩) (Nat.le_of_lt hlt) (.int .i64 (x : Nat)))
    have H2 := Lib.hid (J2.out.other ⟨w1.heap.size, 1, none⟩ (Nat.ne_of_gt hlt) (.int .i64 (x : Nat)))
    have hs4 : Blk ((w2.setCell ⟨w1.heap.size, 2, none⟩ (.int .i64 (p : Nat))).setCell ⟨w1.heap.size, 1, none⟩ (.int .i64 (x : Nat))) w1.heap.size (ttlC 2 (x : Nat) (p : Nat) ⟨#[]⟩) 30 := J3.out.set 1 (.int .i64 (x : Nat))
    have H3 := Lib.hid hs4
    clear hs4
    clear G1 G2 G3 J1 J2 J3
    go_wp2_with fail
    refine (HG.out _).mono ?_; rintro e wz ⟨rfl, hb2⟩
    have HX := Lib.hid (H1.out.trans (hb2.mono H1.out.size))
    obtain ⟨c0, c1, c2, c3, g0, g1, g2, g3⟩ := (H2.out.onto hb2).four
    obtain ⟨d0, d1, d2, d3, e0, e1, e2, e3⟩ := (H3.out.onto hb2).four
    clear hb2 a0 a1 a2 a3 f0 f1 f2 f3
    go_wp2
    exact bodyPost_ret (v := ttlV (2 : Nat) (x : Nat) (p : Nat) (mkS [])) (by simp [results, Try.results16, c0, c1, c2, c3, go_sem]; rfl) rfl (retTtl_mk HR.out (below_res4 HX.out _ _ _ _))
  · have t1 := str_ne hys
    have hr := R.2 hys
    have HR := Lib.hid hr
    clear hys R hr
    go_enter Try.func16, Try.ntmps16
    go_wp2_with fail
    refine (HB.out _).mono ?_; rintro e w1 ⟨rfl, hb1⟩
    obtain ⟨h1, h2, h3, hlt⟩ := rd_start (k := 2) (e := 0) (p := 0) (n := ⟨#[]⟩) hb1
    have H1 := Lib.hid h1; have H2 := Lib.hid h2; have H3 := Lib.hid h3
    obtain ⟨a0, a1, a2, a3, f0, f1, f2, f3⟩ := h3.four
    clear hb1 h1 h2 h3
    go_wp2_with fail
    refine (HC.out _).mono ?_; rintro e w2 ⟨rfl, hb2⟩
    have G1 := Lib.hid (H1.out.trans (hb2.mono H1.out.size)); have G2 := Lib.hid (H2.out.onto hb2); have G3 := Lib.hid (H3.out.onto hb2)
    clear hb2 H1 H2 H3 a0 a1 a2 a3 f0 f1 f2 f3
    obtain ⟨a0, a1, a2, a3, f0, f1, f2, f3⟩ := G3.out.four
    go_wp2_with fail
    refine (HP2.out _).mono ?_; rintro e w3 ⟨rfl, rfl⟩
    go_wp2_with fail
    refine (HP1.out _).mono ?_; rintro e w3 ⟨rfl, rfl⟩
    have J1 := Lib.hid (G1.out.setCell (p := ⟨w1.heap.size, 2, none⟩) (Nat.le_of_lt hlt) (.int .i64 (p : Nat)))
    have J2 := Lib.hid (G2.out.other ⟨w1.heap.size, 2, none⟩ (Nat.ne_of_gt hlt) (.int .i64 (p : Nat)))
    have J3 := Lib.hid (G3.out.set 2 (.int .i64 (p : Nat)))
    have H1 := Lib.hid (J1.out.setCell (p := ⟨w1.heap.size, 1, none⟩) (Nat.le_of_lt hlt) (.int .i64 (x : Nat)))
    have H2 := Lib.hid (J2.out.other ⟨w1.heap.size, 1, none⟩ (Nat.ne_of_gt hlt) (.int .i64 (x : Nat)))
    have hs4 : Blk ((w2.setCell ⟨w1.heap.size, 2, none⟩ (.int .i64 (p : Nat))).setCell ⟨w1.heap.size, 1, none⟩ (.int .i64 (x : Nat))) w1.heap.size (ttlC 2 (x : Nat) (p : Nat) ⟨#[]⟩) 30 := J3.out.set 1 (.int .i64 (x : Nat))
    have H3 := Lib.hid hs4
    clear hs4
    clear G1 G2 G3 J1 J2 J3
    go_wp2_with fail
    refine (HG.out _).mono ?_; rintro e wz ⟨rfl, hb2⟩
    have HX := Lib.hid (H1.out.trans (hb2.mono H1.out.size))
    obtain ⟨c0, c1, c2, c3, g0, g1, g2, g3⟩ := (H2.out.onto hb2).four
    obtain ⟨d0, d1, d2, d3, e0, e1, e2, e3⟩ := (H3.out.onto hb2).four
    clear hb2 a0 a1 a2 a3 f0 f1 f2 f3
    go_wp2
    exact bodyPost_ret (v := ttlV (0 : Nat) (0 : Nat) (0 : Nat) (mkS [])) (by simp [results, Try.results16, c0, c1, c2, c3, go_sem]; rfl) rfl (retTtl_mk HR.out (below_res4 HX.out _ _ _ _))

set_option maxRecDepth 100000 in
set_option maxHeartbeats 1600000 in
/-- Of a name that begins as a saved file's. -/
theorem tread_4 (s : ByteArray) (hs : s.size ≤ maxLen) (hk : begK s.data.toList = 4) (w : World) : Calls Try.prog 16 #[.string s] w (RetTtl w (readT s.data.toList)) := by
  have hr := read_4 _ hk
  have hb0 := fun w => tbegun_any s w
  have hlen := beg_len s
  rw [hk] at hb0
  have hb0' : ∀ w, Calls Try.prog 25 #[.string s] w fun e w' => e = .returned (.tuple #[.int .i64 4, .string (mkS (begR s.data.toList))]) ∧ Below w.heap.size w w' := hb0
  have hnl : (mkS (begR s.data.toList)).size ≤ maxLen := by rw [mkS_size]; omega
  obtain ⟨r, hrr⟩ : ∃ r, mkS (begR s.data.toList) = r := ⟨_, rfl⟩
  have hrl : r.data.toList = begR s.data.toList := by rw [← hrr, mkS_list]
  rw [hrr] at hnl hb0'
  have hg : ∀ w, Calls Try.prog 28 #[.agg #[.int .i64 4, .int .i64 0, .int .i64 0, .string r]] w fun v w' => v = .returned (.string (mkS (offX r.data.toList))) ∧ Below w.heap.size w w' :=
    fun w => tgiven_any 4 (by omega) 0 0 (by omega) (by omega) r hnl w
  rw [hrl] at hg
  have R : (mkS (offX (begR s.data.toList)) = s → readT s.data.toList = ⟨4, 0, 0, begR s.data.toList⟩) ∧ (¬ mkS (offX (begR s.data.toList)) = s → readT s.data.toList = ⟨0, 0, 0, []⟩) :=
    ⟨fun h => hr.1 (congrArg (fun x => x.data.toList) h), fun h => hr.2 (fun e => h (str_ext (by rw [mkS_list]; exact e)))⟩
  obtain ⟨y, hy⟩ : ∃ y, mkS (offX (begR s.data.toList)) = y := ⟨_, rfl⟩
  rw [hy] at hg R
  have HB := Lib.hid hb0'; have HG := Lib.hid hg; have HS := Lib.hid hrr
  clear hr hb0 hb0' hk hg hy hrr hrl hnl hlen hs
  by_cases hys : y = s
  · have t1 : (y.toList == s.toList) = true := by rw [hys]; simp
    have hr := R.1 hys
    have HR := Lib.hid hr
    clear hys R hr
    go_enter Try.func16, Try.ntmps16
    go_wp2_with fail
    refine (HB.out _).mono ?_; rintro e w1 ⟨rfl, hb1⟩
    obtain ⟨h1, h2, h3, hlt⟩ := rd_start (k := 4) (e := 0) (p := 0) (n := r) hb1
    have H1 := Lib.hid h1; have H2 := Lib.hid h2; have H3 := Lib.hid h3
    obtain ⟨a0, a1, a2, a3, f0, f1, f2, f3⟩ := h3.four
    clear hb1 h1 h2 h3
    go_wp2_with fail
    refine (HG.out _).mono ?_; rintro e wz ⟨rfl, hb2⟩
    have HX := Lib.hid (H1.out.trans (hb2.mono H1.out.size))
    obtain ⟨c0, c1, c2, c3, g0, g1, g2, g3⟩ := (H2.out.onto hb2).four
    obtain ⟨d0, d1, d2, d3, e0, e1, e2, e3⟩ := (H3.out.onto hb2).four
    clear hb2 a0 a1 a2 a3 f0 f1 f2 f3
    go_wp2
    refine bodyPost_ret (v := ttlV (4 : Nat) (0 : Nat) (0 : Nat) r) (by simp [results, Try.results16, c0, c1, c2, c3, go_sem]) rfl ?_
    rw [← HS.out]
    exact retTtl_mk HR.out (below_res4 HX.out _ _ _ _)
  · have t1 := str_ne hys
    have hr := R.2 hys
    have HR := Lib.hid hr
    clear hys R hr
    go_enter Try.func16, Try.ntmps16
    go_wp2_with fail
    refine (HB.out _).mono ?_; rintro e w1 ⟨rfl, hb1⟩
    obtain ⟨h1, h2, h3, hlt⟩ := rd_start (k := 4) (e := 0) (p := 0) (n := r) hb1
    have H1 := Lib.hid h1; have H2 := Lib.hid h2; have H3 := Lib.hid h3
    obtain ⟨a0, a1, a2, a3, f0, f1, f2, f3⟩ := h3.four
    clear hb1 h1 h2 h3
    go_wp2_with fail
    refine (HG.out _).mono ?_; rintro e wz ⟨rfl, hb2⟩
    have HX := Lib.hid (H1.out.trans (hb2.mono H1.out.size))
    obtain ⟨c0, c1, c2, c3, g0, g1, g2, g3⟩ := (H2.out.onto hb2).four
    obtain ⟨d0, d1, d2, d3, e0, e1, e2, e3⟩ := (H3.out.onto hb2).four
    clear hb2 a0 a1 a2 a3 f0 f1 f2 f3
    go_wp2
    exact bodyPost_ret (v := ttlV (0 : Nat) (0 : Nat) (0 : Nat) (mkS [])) (by simp [results, Try.results16, c0, c1, c2, c3, go_sem]; rfl) rfl (retTtl_mk HR.out (below_res4 HX.out _ _ _ _))

set_option maxRecDepth 100000 in
set_option maxHeartbeats 1600000 in
/-- Of a name that begins as one of a file of the while. -/
theorem tread_3 (s : ByteArray) (hs : s.size ≤ maxLen) (hk : begK s.data.toList = 3) (w : World) : Calls Try.prog 16 #[.string s] w (RetTtl w (readT s.data.toList)) := by
  have hr := read_3 _ hk
  have hb0 := fun w => tbegun_any s w
  have hlen := beg_len s
  rw [hk] at hb0
  have hb0' : ∀ w, Calls Try.prog 25 #[.string s] w fun e w' => e = .returned (.tuple #[.int .i64 3, .string (mkS (begR s.data.toList))]) ∧ Below w.heap.size w w' := hb0
  have hm := fun w => tmay_any s hs w
  have hne := ne_of_beg _ 3 (by omega) hk
  have hg : ∀ w, Calls Try.prog 28 #[.agg #[.int .i64 3, .int .i64 0, .int .i64 0, .string ⟨#[]⟩]] w fun v w' => v = .returned (.string ⟨#[]⟩) ∧ Below w.heap.size w w' :=
    fun w => tgiven_any 3 (by omega) 0 0 (by omega) (by omega) ⟨#[]⟩ (by decide) w
  have t1 : s.toList.isEmpty = false := by rw [isEmpty_size]; exact decide_eq_false fun e => hne (List.eq_nil_of_length_eq_zero (by simpa using e))
  obtain ⟨r, hrr⟩ : ∃ r, mkS (begR s.data.toList) = r := ⟨_, rfl⟩
  rw [hrr] at hb0'
  obtain ⟨c, hc⟩ : ∃ c, mayB s.data.toList = c := ⟨_, rfl⟩
  rw [hc] at hm hr
  have HB := Lib.hid hb0'; have HG := Lib.hid hg; have HM := Lib.hid hm
  clear hb0 hb0' hk hg hrr hlen hs hm hc hne
  cases c with
  | true =>
    have hr := hr.1 rfl
    have HR := Lib.hid hr
    clear hr
    go_enter Try.func16, Try.ntmps16
    go_wp2_with fail
    refine (HB.out _).mono ?_; rintro e w1 ⟨rfl, hb1⟩
    obtain ⟨h1, h2, h3, hlt⟩ := rd_start (k := 3) (e := 0) (p := 0) (n := ⟨#[]⟩) hb1
    have H1 := Lib.hid h1; have H2 := Lib.hid h2; have H3 := Lib.hid h3
    obtain ⟨a0, a1, a2, a3, f0, f1, f2, f3⟩ := h3.four
    clear hb1 h1 h2 h3
    go_wp2_with fail
    refine (HM.out _).mono ?_; rintro e wz ⟨rfl, hb2⟩
    have HX := Lib.hid (H1.out.trans (hb2.mono H1.out.size))
    obtain ⟨c0, c1, c2, c3, g0, g1, g2, g3⟩ := (H2.out.onto hb2).four
    obtain ⟨d0, d1, d2, d3, e0, e1, e2, e3⟩ := (H3.out.onto hb2).four
    clear hb2 a0 a1 a2 a3 f0 f1 f2 f3
    go_wp2
    exact bodyPost_ret (v := ttlV (3 : Nat) (0 : Nat) (0 : Nat) (mkS [])) (by simp [results, Try.results16, c0, c1, c2, c3, go_sem]; rfl) rfl (retTtl_mk HR.out (below_res4 HX.out _ _ _ _))
  | false =>
    have hr := hr.2 rfl
    have HR := Lib.hid hr
    clear hr
    go_enter Try.func16, Try.ntmps16
    go_wp2_with fail
    refine (HB.out _).mono ?_; rintro e w1 ⟨rfl, hb1⟩
    obtain ⟨h1, h2, h3, hlt⟩ := rd_start (k := 3) (e := 0) (p := 0) (n := ⟨#[]⟩) hb1
    have H1 := Lib.hid h1; have H2 := Lib.hid h2; have H3 := Lib.hid h3
    obtain ⟨a0, a1, a2, a3, f0, f1, f2, f3⟩ := h3.four
    clear hb1 h1 h2 h3
    go_wp2_with fail
    refine (HM.out _).mono ?_; rintro e w2 ⟨rfl, hb2⟩
    have G1 := Lib.hid (H1.out.trans (hb2.mono H1.out.size)); have G2 := Lib.hid (H2.out.onto hb2); have G3 := Lib.hid (H3.out.onto hb2)
    clear hb2 H1 H2 H3 a0 a1 a2 a3 f0 f1 f2 f3
    have H1 := G1; have H2 := G2; have H3 := G3
    clear G1 G2 G3
    obtain ⟨a0, a1, a2, a3, f0, f1, f2, f3⟩ := H3.out.four
    go_wp2_with fail
    refine (HG.out _).mono ?_; rintro e wz ⟨rfl, hb2⟩
    have HX := Lib.hid (H1.out.trans (hb2.mono H1.out.size))
    obtain ⟨c0, c1, c2, c3, g0, g1, g2, g3⟩ := (H2.out.onto hb2).four
    obtain ⟨d0, d1, d2, d3, e0, e1, e2, e3⟩ := (H3.out.onto hb2).four
    clear hb2 a0 a1 a2 a3 f0 f1 f2 f3
    go_wp2
    exact bodyPost_ret (v := ttlV (0 : Nat) (0 : Nat) (0 : Nat) (mkS [])) (by simp [results, Try.results16, c0, c1, c2, c3, go_sem]; rfl) rfl (retTtl_mk HR.out (below_res4 HX.out _ _ _ _))

theorem tread_any (s : ByteArray) (hs : s.size ≤ maxLen) (w : World) : Calls Try.prog 16 #[.string s] w (RetTtl w (readT s.data.toList)) := by
  have h := beg_le s.data.toList
  rcases (show begK s.data.toList = 0 ∨ begK s.data.toList = 1 ∨ begK s.data.toList = 2 ∨ begK s.data.toList = 3 ∨ begK s.data.toList = 4 by omega) with h | h | h | h | h
  · exact tread_0 s h w
  · exact tread_1 s hs h w
  · exact tread_2 s hs h w
  · exact tread_3 s hs h w
  · exact tread_4 s hs h w
end Go.Proofs.Ytfbocmmdkhnaoaa
