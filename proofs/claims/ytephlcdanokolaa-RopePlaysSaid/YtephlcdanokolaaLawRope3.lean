/-
  Layer 18's law RopePlays.
-/
import Derived.Test.YtephlcdanokolaaLawRope
import Derived.Test.YtephlcdanokolaaOpenOp18
namespace Go.Proofs.Ytephlcdanokolaa
open Go.RowKit
set_option linter.unusedVariables false
set_option linter.unusedSimpArgs false

/-- Under way: the rope, and the text. -/
structure RpI (w : World) (r : Option Addr) (s : ByteArray) (wr : World) : Prop where
  x : ∃ p L, RopeW wr r p L s
  size : s.size ≤ 4096
  bel : Below w.heap.size w wr
theorem insS_size {s x : ByteArray} {i : Int} (h : insE s i x = 0) : (insS s i x).size ≤ 4096 := by
  obtain ⟨h1, h2, h3, h4⟩ := insE_zero h
  obtain ⟨h5, -, h6⟩ := stand_iff.1 h1
  unfold insS
  rw [h, if_pos rfl, ByteArray.size_append, ByteArray.size_append, piece_size _ _ (by omega), rest_size]
  omega
theorem delS_size {s : ByteArray} {i n : Int} (hs : s.size ≤ 4096) (h : delE s i n = 0) : (delS s i n).size ≤ 4096 := by
  obtain ⟨h1, h2, h3⟩ := delE_zero h
  obtain ⟨h5, h6, h7⟩ := stand_iff.1 h1
  unfold delS
  rw [h, if_pos rfl, ByteArray.size_append, piece_size _ _ (by omega), rest_size]
  omega
theorem insE_kind (s : ByteArray) (i : Int) (x : ByteArray) : 0 ≤ insE s i x ∧ insE s i x ≤ 6 := by
  unfold insE
  split
  · omega
  split
  · omega
  split
  · omega
  split <;> omega
theorem delE_kind (s : ByteArray) (i n : Int) : 0 ≤ delE s i n ∧ delE s i n ≤ 6 := by
  unfold delE
  split
  · omega
  split <;> omega

set_option maxRecDepth 100000 in
set_option maxHeartbeats 3200000 in
theorem ropePlays_walk (s : ByteArray) (a : Option Addr) (l : List Op18) (c : Nat) (w : World) (w0 : s.size ≤ maxLen) (hr : Op18s w (· < w.heap.size) a l) (hfit : ∀ x ∈ l, x.fits) (_hm : l.length ≤ maxLen) :
    Calls Try.prog 4 #[.string s, .slice a l.length c] w fun e w' => e = .returned (.bool true) ∧ Below w.heap.size w w' := by
  obtain ⟨n, hn⟩ : ∃ n, l.length = n := ⟨_, rfl⟩
  rw [hn]
  have HN := Lib.hid hn; have HR := Lib.hid hr; have HF := Lib.hid hfit
  clear hn hr hfit _hm
  by_cases hl : 600 < s.size
  · have t1 : decide ((600 : Int) < (s.size : Int)) = true := decide_eq_true (by omega)
    have t2 : decide (600 < s.size) = true := decide_eq_true hl
    clear w0
    go_enter Try.func4, Try.ntmps4
    go_wp2_with fail
    refine (lives18_any _).mono ?_; rintro e w1 ⟨rfl, hb1⟩
    go_wp2
    go_ret
    exact ⟨rfl, hb1⟩
  have t1 : decide ((600 : Int) < (s.size : Int)) = false := decide_eq_false (by omega)
  have t2 : decide (600 < s.size) = false := decide_eq_false hl
  by_cases hm : 20 < n
  · have t3 : decide ((20 : Int) < (n : Int)) = true := decide_eq_true (by omega)
    have t4 : decide (20 < n) = true := decide_eq_true hm
    clear w0
    go_enter Try.func4, Try.ntmps4
    go_wp2_with fail
    refine (lives18_any _).mono ?_; rintro e w1 ⟨rfl, hb1⟩
    go_wp2
    go_ret
    exact ⟨rfl, hb1⟩
  have t3 : decide ((20 : Int) < (n : Int)) = false := decide_eq_false (by omega)
  have t4 : decide (20 < n) = false := decide_eq_false hm
  have co := ro_of s w0 w
  have hs : s.size ≤ 600 := by omega
  have hn20 : n ≤ 20 := by omega
  by_cases hv : vldB s.data.toList = false
  · have cv := rvalid_any s (by omega)
    have co := co.mono fun e w' h => h.no (by rw [ofE_no hv]; decide)
    rw [ofE_no hv] at co
    rw [hv] at cv
    have CO := Lib.hid co; have CV := Lib.hid cv
    clear co cv hv w0
    go_enter Try.func4, Try.ntmps4
    go_wp2_with fail
    refine CO.out.mono ?_; rintro e w1 ⟨rfl, hb1⟩
    have HB1 := Lib.hid hb1
    clear hb1
    go_wp2_with fail
    refine (onward HB1.out (CV.out _)).mono ?_; rintro e w2 ⟨rfl, hb2⟩
    have HB2 := Lib.hid hb2
    clear hb2
    go_wp2_with fail
    refine (onward HB2.out (lives18_any _)).mono ?_; rintro e w3 ⟨rfl, hb3⟩
    go_wp2
    go_ret
    exact ⟨rfl, hb3⟩
  have hv := bool_yes hv
  have co := co.mono fun e w' h => h.yes (ofE_yes hv (by omega))
  have CO := Lib.hid co
  clear co hv w0
  go_enter Try.func4, Try.ntmps4
  go_wp2_with fail
  refine CO.out.mono ?_; rintro e w1 ⟨b, p, L, rfl, hR, hb1⟩
  have HM := Lib.hid (show RpI w (some ⟨b, 0, none⟩) s w1 from ⟨⟨p, L, hR⟩, by omega, hb1⟩)
  clear hR hb1 t1 t2 t3 t4 hl hm hs
  go_wp2
  go_loopw [0, 5, 7] (fun vs vr vi wr => ∃ (k : Nat) (r : Option Addr) (s : ByteArray), k ≤ n ∧ vs = .string s ∧ vr = .pointer r ∧ vi = .int .i64 k ∧ RpI w r s wr) (fun _ _ i _ => n - (intOf i).toNat)
  case atStart => exact ⟨0, _, s, Nat.zero_le _, rfl, rfl, rfl, HM.out⟩
  case round =>
    obtain ⟨k, r, s, hk, rfl, rfl, rfl, hM⟩ := hrel
    obtain ⟨⟨p, L, hx⟩, hsz, hbel⟩ := hM
    by_cases hlt : k < n
    · have hkl : k < l.length := by rw [HN.out]; exact hlt
      obtain ⟨ad, had, hab, q0, q1, q2⟩ := (HR.out.below (fun b hb => hb) hbel) k hkl
      subst had
      have hxf := HF.out (l[k]'hkl) (List.getElem_mem hkl)
      obtain ⟨o, ho⟩ : ∃ o, l[k]'hkl = o := ⟨_, rfl⟩
      rw [ho] at q0 q1 q2 hxf
      obtain ⟨oA, oN, oS⟩ := o
      obtain ⟨fA, fN, fS⟩ := hxf
      simp only at q0 q1 q2 fA fN fS
      have b1 : (k : Int) < (n : Int) := by omega
      have b2 : (0 : Int) ≤ (k : Int) := by omega
      have HX := Lib.hid hx; have HBEL := Lib.hid hbel
      clear hx hbel ho hkl hab HM
      have hbo : Below wr.heap.size wr (wr.alloc (.cells #[.int .i64 oA, .int .i64 oN, .string oS] 33)) := (Below.refl _ _).alloc (Nat.le_refl _) _
      have hbk : Blk (wr.alloc (.cells #[.int .i64 oA, .int .i64 oN, .string oS] 33)) wr.heap.size #[.int .i64 oA, .int .i64 oN, .string oS] 33 := Blk.new _ _ _
      by_cases hz : 600 < oS.size
      · have u1 : decide ((600 : Int) < (oS.size : Int)) = true := decide_eq_true (by omega)
        have u2 : decide (600 < oS.size) = true := decide_eq_true hz
        have HBO := Lib.hid (HBEL.out.trans (hbo.mono HBEL.out.size))
        clear hbo hbk
        go_wp2_with fail
        refine (lives18_any _).mono ?_; rintro e w2 ⟨rfl, hb2⟩
        have HB2 := Lib.hid (HBO.out.trans (hb2.mono HBO.out.size))
        clear hb2
        go_wp2
        go_ret
        exact ⟨rfl, HB2.out⟩
      have u1 : decide ((600 : Int) < (oS.size : Int)) = false := decide_eq_false (by omega)
      have u2 : decide (600 < oS.size) = false := decide_eq_false hz
      have crd := rdel_any (s := s) (i := oA) (n := oN) hsz fA
      have cri := rins_any (s := s) (x := oS) (i := oA) hsz (by omega) fA
      by_cases h0 : oN = 0
      · subst h0
        by_cases hE0 : insE s oA oS = 0
        · -- it comes
          have hE := insE_kind s oA oS
          have hTz := insS_size hE0
          have cpd := fun W (hW : Below wr.heap.size wr W) => ro_del (i := oA) (n := 0) (HX.out.later hW) hsz fA
          have cpi := fun W (hW : Below wr.heap.size wr W) => ro_ins (x := oS) (i := oA) (HX.out.later hW) hsz fS fA
          obtain ⟨E1, hE1⟩ : ∃ E1, delE s oA 0 = E1 := ⟨_, rfl⟩
          obtain ⟨T1, hT1⟩ : ∃ T1, delS s oA 0 = T1 := ⟨_, rfl⟩
          rw [hE1, hT1] at crd
          clear hE1 hT1
          obtain ⟨T, hT⟩ : ∃ T, insS s oA oS = T := ⟨_, rfl⟩
          rw [hE0, hT] at cri
          rw [hT] at hTz
          have cpiY := fun W hW => (cpi W hW).mono fun e w' h => h.yes hE0
          rw [hT] at cpiY
          have HCRD := Lib.hid crd; have HCRI := Lib.hid cri; have HCPD := Lib.hid cpd; have HCPI := Lib.hid cpiY; clear crd cri cpd cpi cpiY hT hE0 hE
          have HBO := Lib.hid hbo; have HBK := Lib.hid hbk
          clear hbo hbk
          go_wp2_with fail
          obtain ⟨w2, hw2⟩ : ∃ w2, wr.alloc (.cells #[.int .i64 oA, .int .i64 0, .string oS] 33) = w2 := ⟨_, rfl⟩
          rw [hw2]
          rw [hw2] at HBO HBK
          obtain ⟨bo, hbo0⟩ : ∃ bo, wr.heap.size = bo := ⟨_, rfl⟩
          simp only [hbo0]
          rw [hbo0] at HBK
          clear hbo0
          have QQ := Lib.hid (fun W (hW : Below w2.heap.size w2 W) => (And.intro ((HBK.out.onto hW).cell 0 _ rfl) (And.intro ((HBK.out.onto hW).cell 1 _ rfl) ((HBK.out.onto hW).cell 2 _ rfl)) : W.cell? ⟨bo, 0, none⟩ = some (.int .i64 oA) ∧ W.cell? ⟨bo, 1, none⟩ = some (.int .i64 0) ∧ W.cell? ⟨bo, 2, none⟩ = some (.string oS)))
          clear hw2 q0 q1 q2
          refine (HCRD.out _).mono ?_; rintro e w3 ⟨rfl, hb3⟩
          have HB3 := Lib.hid hb3
          obtain ⟨q0, q1, q2⟩ := QQ.out w3 hb3
          clear hb3
          go_wp2_with fail
          refine (HCPD.out _ (HBO.out.trans (HB3.out.mono HBO.out.size))).mono ?_; rintro e w4 ⟨rx, rfl, -, -, hb4⟩
          have HB4 := Lib.hid (HB3.out.trans (hb4.mono HB3.out.size))
          clear q0 q1 q2 hb4
          obtain ⟨q0, q1, q2⟩ := QQ.out w4 HB4.out
          obtain ⟨E2, hE2⟩ : ∃ E2, delE s oA 0 = E2 := ⟨_, rfl⟩
          simp only [hE2]
          clear hE2
          go_wp2_with fail
          refine (HCRI.out _).mono ?_; rintro e w5 ⟨rfl, hb5⟩
          have HB5 := Lib.hid (HB4.out.trans (hb5.mono HB4.out.size))
          clear q0 q1 q2 hb5
          obtain ⟨q0, q1, q2⟩ := QQ.out w5 HB5.out
          go_wp2_with fail
          refine (HCPI.out _ (HBO.out.trans (HB5.out.mono HBO.out.size))).mono ?_; rintro e w6 ⟨bn, pn, Ln, rfl, hRn, hb6⟩
          have HB6 := Lib.hid (HB5.out.trans (hb6.mono HB5.out.size))
          have HRN := Lib.hid hRn; clear hRn
          clear q0 q1 q2 hb6
          have HBA := Lib.hid (HBO.out.trans (HB6.out.mono HBO.out.size))
          have HXZ := Lib.hid (HX.out.later HBA.out)
          go_wp2_with fail
          refine (ro_text HXZ.out).mono ?_; rintro e w7 ⟨rfl, hb7⟩
          have HB7 := Lib.hid hb7
          clear hb7
          go_wp2_with fail
          refine (onward HB7.out (good18_any (HRN.out.later HB7.out))).mono ?_; rintro e w8 ⟨rfl, hb8⟩
          have HBZ := Lib.hid (HBEL.out.trans ((HBA.out.trans (hb8.mono HBA.out.size)).mono HBEL.out.size))
          have HN2 := Lib.hid (show RpI w (some ⟨bn, 0, none⟩) T w8 from ⟨⟨pn, Ln, HRN.out.later hb8⟩, hTz, HBZ.out⟩)
          clear hb8
          go_wp2
          go_roundw
          case rel => exact ⟨k + 1, _, T, by omega, rfl, rfl, by go_num, HN2.out⟩
          case measure => simp [intOf]; omega
        · -- it is refused
          have hE := insE_kind s oA oS
          have cpd := fun W (hW : Below wr.heap.size wr W) => ro_del (i := oA) (n := 0) (HX.out.later hW) hsz fA
          have cpi := fun W (hW : Below wr.heap.size wr W) => ro_ins (x := oS) (i := oA) (HX.out.later hW) hsz fS fA
          obtain ⟨E1, hE1⟩ : ∃ E1, delE s oA 0 = E1 := ⟨_, rfl⟩
          obtain ⟨T1, hT1⟩ : ∃ T1, delS s oA 0 = T1 := ⟨_, rfl⟩
          rw [hE1, hT1] at crd
          clear hE1 hT1
          obtain ⟨T, hT⟩ : ∃ T, insS s oA oS = T := ⟨_, rfl⟩
          have cpiY := fun W hW => (cpi W hW).mono fun e w' h => h.no hE0
          obtain ⟨E, hEE⟩ : ∃ E, insE s oA oS = E := ⟨_, rfl⟩
          rw [hEE, hT] at cri
          rw [hEE] at cpiY
          rw [hEE] at hE0 hE
          have HCRD := Lib.hid crd; have HCRI := Lib.hid cri; have HCPD := Lib.hid cpd; have HCPI := Lib.hid cpiY; clear crd cri cpd cpi cpiY hT hEE
          have HBO := Lib.hid hbo; have HBK := Lib.hid hbk
          clear hbo hbk
          go_wp2_with fail
          obtain ⟨w2, hw2⟩ : ∃ w2, wr.alloc (.cells #[.int .i64 oA, .int .i64 0, .string oS] 33) = w2 := ⟨_, rfl⟩
          rw [hw2]
          rw [hw2] at HBO HBK
          obtain ⟨bo, hbo0⟩ : ∃ bo, wr.heap.size = bo := ⟨_, rfl⟩
          simp only [hbo0]
          rw [hbo0] at HBK
          clear hbo0
          have QQ := Lib.hid (fun W (hW : Below w2.heap.size w2 W) => (And.intro ((HBK.out.onto hW).cell 0 _ rfl) (And.intro ((HBK.out.onto hW).cell 1 _ rfl) ((HBK.out.onto hW).cell 2 _ rfl)) : W.cell? ⟨bo, 0, none⟩ = some (.int .i64 oA) ∧ W.cell? ⟨bo, 1, none⟩ = some (.int .i64 0) ∧ W.cell? ⟨bo, 2, none⟩ = some (.string oS)))
          clear hw2 q0 q1 q2
          refine (HCRD.out _).mono ?_; rintro e w3 ⟨rfl, hb3⟩
          have HB3 := Lib.hid hb3
          obtain ⟨q0, q1, q2⟩ := QQ.out w3 hb3
          clear hb3
          go_wp2_with fail
          refine (HCPD.out _ (HBO.out.trans (HB3.out.mono HBO.out.size))).mono ?_; rintro e w4 ⟨rx, rfl, -, -, hb4⟩
          have HB4 := Lib.hid (HB3.out.trans (hb4.mono HB3.out.size))
          clear q0 q1 q2 hb4
          obtain ⟨q0, q1, q2⟩ := QQ.out w4 HB4.out
          obtain ⟨E2, hE2⟩ : ∃ E2, delE s oA 0 = E2 := ⟨_, rfl⟩
          simp only [hE2]
          clear hE2
          go_wp2_with fail
          refine (HCRI.out _).mono ?_; rintro e w5 ⟨rfl, hb5⟩
          have HB5 := Lib.hid (HB4.out.trans (hb5.mono HB4.out.size))
          clear q0 q1 q2 hb5
          obtain ⟨q0, q1, q2⟩ := QQ.out w5 HB5.out
          go_wp2_with fail
          refine (HCPI.out _ (HBO.out.trans (HB5.out.mono HBO.out.size))).mono ?_; rintro e w6 ⟨rfl, hb6⟩
          have HB6 := Lib.hid (HB5.out.trans (hb6.mono HB5.out.size))
          clear q0 q1 q2 hb6
          have HBA := Lib.hid (HBO.out.trans (HB6.out.mono HBO.out.size))
          have HXZ := Lib.hid (HX.out.later HBA.out)
          go_wp2_with fail
          refine (ro_text HXZ.out).mono ?_; rintro e w7 ⟨rfl, hb7⟩
          have HB7 := Lib.hid hb7
          clear hb7
          go_wp2_with fail
          refine (onward HB7.out (good18_any (HXZ.out.later HB7.out))).mono ?_; rintro e w8 ⟨rfl, hb8⟩
          have HBZ := Lib.hid (HBEL.out.trans ((HBA.out.trans (hb8.mono HBA.out.size)).mono HBEL.out.size))
          have HN2 := Lib.hid (show RpI w r s w8 from ⟨⟨p, L, HXZ.out.later hb8⟩, hsz, HBZ.out⟩)
          clear hb8
          go_wp2
          go_roundw
          case rel => exact ⟨k + 1, r, s, by omega, rfl, rfl, by go_num, HN2.out⟩
          case measure => simp [intOf]; omega
      · have v1 : (oN == 0) = false := by simpa using h0
        clear h0
        by_cases hE0 : delE s oA oN = 0
        · -- it goes
          have hE := delE_kind s oA oN
          have hTz := delS_size hsz hE0
          have cpd := fun W (hW : Below wr.heap.size wr W) => ro_del (i := oA) (n := oN) (HX.out.later hW) hsz fA
          obtain ⟨T, hT⟩ : ∃ T, delS s oA oN = T := ⟨_, rfl⟩
          rw [hE0, hT] at crd
          rw [hT] at hTz
          have cpdY := fun W hW => (cpd W hW).mono fun e w' h => h.yes hE0
          rw [hT] at cpdY
          have HCRD := Lib.hid crd; have HCRI := Lib.hid cri; have HCPD := Lib.hid cpdY; clear crd cri cpd cpdY hT hE0 hE
          have HBO := Lib.hid hbo; have HBK := Lib.hid hbk
          clear hbo hbk
          go_wp2_with fail
          obtain ⟨w2, hw2⟩ : ∃ w2, wr.alloc (.cells #[.int .i64 oA, .int .i64 oN, .string oS] 33) = w2 := ⟨_, rfl⟩
          rw [hw2]
          rw [hw2] at HBO HBK
          obtain ⟨bo, hbo0⟩ : ∃ bo, wr.heap.size = bo := ⟨_, rfl⟩
          simp only [hbo0]
          rw [hbo0] at HBK
          clear hbo0
          have QQ := Lib.hid (fun W (hW : Below w2.heap.size w2 W) => (And.intro ((HBK.out.onto hW).cell 0 _ rfl) (And.intro ((HBK.out.onto hW).cell 1 _ rfl) ((HBK.out.onto hW).cell 2 _ rfl)) : W.cell? ⟨bo, 0, none⟩ = some (.int .i64 oA) ∧ W.cell? ⟨bo, 1, none⟩ = some (.int .i64 oN) ∧ W.cell? ⟨bo, 2, none⟩ = some (.string oS)))
          clear hw2 q0 q1 q2
          refine (HCRD.out _).mono ?_; rintro e w3 ⟨rfl, hb3⟩
          have HB3 := Lib.hid hb3
          obtain ⟨q0, q1, q2⟩ := QQ.out w3 hb3
          clear hb3
          go_wp2_with fail
          refine (HCPD.out _ (HBO.out.trans (HB3.out.mono HBO.out.size))).mono ?_; rintro e w4 ⟨bn, pn, Ln, rfl, hRn, hb4⟩
          have HB4 := Lib.hid (HB3.out.trans (hb4.mono HB3.out.size))
          have HRN := Lib.hid hRn; clear hRn
          clear q0 q1 q2 hb4
          obtain ⟨q0, q1, q2⟩ := QQ.out w4 HB4.out
          have HBA := Lib.hid (HBO.out.trans (HB4.out.mono HBO.out.size))
          have HXZ := Lib.hid (HX.out.later HBA.out)
          go_wp2_with fail
          refine (ro_text HXZ.out).mono ?_; rintro e w7 ⟨rfl, hb7⟩
          have HB7 := Lib.hid hb7
          clear hb7
          go_wp2_with fail
          refine (onward HB7.out (good18_any (HRN.out.later HB7.out))).mono ?_; rintro e w8 ⟨rfl, hb8⟩
          have HBZ := Lib.hid (HBEL.out.trans ((HBA.out.trans (hb8.mono HBA.out.size)).mono HBEL.out.size))
          have HN2 := Lib.hid (show RpI w (some ⟨bn, 0, none⟩) T w8 from ⟨⟨pn, Ln, HRN.out.later hb8⟩, hTz, HBZ.out⟩)
          clear hb8
          go_wp2
          go_roundw
          case rel => exact ⟨k + 1, _, T, by omega, rfl, rfl, by go_num, HN2.out⟩
          case measure => simp [intOf]; omega
        · -- it is refused
          have hE := delE_kind s oA oN
          have cpd := fun W (hW : Below wr.heap.size wr W) => ro_del (i := oA) (n := oN) (HX.out.later hW) hsz fA
          obtain ⟨T, hT⟩ : ∃ T, delS s oA oN = T := ⟨_, rfl⟩
          have cpdY := fun W hW => (cpd W hW).mono fun e w' h => h.no hE0
          obtain ⟨E, hEE⟩ : ∃ E, delE s oA oN = E := ⟨_, rfl⟩
          rw [hEE, hT] at crd
          rw [hEE] at cpdY
          rw [hEE] at hE0 hE
          have HCRD := Lib.hid crd; have HCRI := Lib.hid cri; have HCPD := Lib.hid cpdY; clear crd cri cpd cpdY hT hEE
          have HBO := Lib.hid hbo; have HBK := Lib.hid hbk
          clear hbo hbk
          go_wp2_with fail
          obtain ⟨w2, hw2⟩ : ∃ w2, wr.alloc (.cells #[.int .i64 oA, .int .i64 oN, .string oS] 33) = w2 := ⟨_, rfl⟩
          rw [hw2]
          rw [hw2] at HBO HBK
          obtain ⟨bo, hbo0⟩ : ∃ bo, wr.heap.size = bo := ⟨_, rfl⟩
          simp only [hbo0]
          rw [hbo0] at HBK
          clear hbo0
          have QQ := Lib.hid (fun W (hW : Below w2.heap.size w2 W) => (And.intro ((HBK.out.onto hW).cell 0 _ rfl) (And.intro ((HBK.out.onto hW).cell 1 _ rfl) ((HBK.out.onto hW).cell 2 _ rfl)) : W.cell? ⟨bo, 0, none⟩ = some (.int .i64 oA) ∧ W.cell? ⟨bo, 1, none⟩ = some (.int .i64 oN) ∧ W.cell? ⟨bo, 2, none⟩ = some (.string oS)))
          clear hw2 q0 q1 q2
          refine (HCRD.out _).mono ?_; rintro e w3 ⟨rfl, hb3⟩
          have HB3 := Lib.hid hb3
          obtain ⟨q0, q1, q2⟩ := QQ.out w3 hb3
          clear hb3
          go_wp2_with fail
          refine (HCPD.out _ (HBO.out.trans (HB3.out.mono HBO.out.size))).mono ?_; rintro e w4 ⟨rfl, hb4⟩
          have HB4 := Lib.hid (HB3.out.trans (hb4.mono HB3.out.size))
          clear q0 q1 q2 hb4
          obtain ⟨q0, q1, q2⟩ := QQ.out w4 HB4.out
          have HBA := Lib.hid (HBO.out.trans (HB4.out.mono HBO.out.size))
          have HXZ := Lib.hid (HX.out.later HBA.out)
          go_wp2_with fail
          refine (ro_text HXZ.out).mono ?_; rintro e w7 ⟨rfl, hb7⟩
          have HB7 := Lib.hid hb7
          clear hb7
          go_wp2_with fail
          refine (onward HB7.out (good18_any (HXZ.out.later HB7.out))).mono ?_; rintro e w8 ⟨rfl, hb8⟩
          have HBZ := Lib.hid (HBEL.out.trans ((HBA.out.trans (hb8.mono HBA.out.size)).mono HBEL.out.size))
          have HN2 := Lib.hid (show RpI w r s w8 from ⟨⟨p, L, HXZ.out.later hb8⟩, hsz, HBZ.out⟩)
          clear hb8
          go_wp2
          go_roundw
          case rel => exact ⟨k + 1, r, s, by omega, rfl, rfl, by go_num, HN2.out⟩
          case measure => simp [intOf]; omega
    · obtain rfl : k = n := by omega
      have HB := Lib.hid hbel
      clear hx hbel hsz
      go_wp2_with fail
      refine (onward HB.out (lives18_any _)).mono ?_; rintro e w4 ⟨rfl, hb4⟩
      go_wp2
      go_ret
      exact ⟨rfl, hb4⟩
end Go.Proofs.Ytephlcdanokolaa
