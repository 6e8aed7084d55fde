/-
  Contract of the document's Read (layer 8).
-/
import Derived.Test.YtfbocmmdkhnaoaaTitleRef
import Derived.Deep.DeepCutAuto
namespace Go.Proofs.Ytfbocmmdkhnaoaa
open Go.RowKit

/-- What a name is, as a value. -/
abbrev ttlV (k e p : Int) (n : ByteArray) : Value := .agg #[.int .i64 k, .int .i64 e, .int .i64 p, .string n]
abbrev ttl0 : Array Value := #[.int .i64 0, .int .i64 0, .int .i64 0, .string ByteArray.empty]
theorem bcell8 {W w1 : World} (hb : Below W.heap.size W w1) : (∀ b o, b < W.heap.size → w1.cell? ⟨b, o, none⟩ = W.cell? ⟨b, o, none⟩) ∧ (∀ b o, b < W.heap.size → w1.frozen? ⟨b, o, none⟩ = W.frozen? ⟨b, o, none⟩) :=
  ⟨fun b o h => hb.cell (p := ⟨b, o, none⟩) h, fun b o h => hb.frozen (p := ⟨b, o, none⟩) h⟩
theorem parseI_le (l : List UInt8) : (parseI l).1 ≤ 999999999 := by
  unfold parseI
  split
  · exact Nat.zero_le _
  · split
    · rename_i h1 h2
      have := decN_lt l h2
      have hp : 10 ^ l.length ≤ 10 ^ 9 := Nat.pow_le_pow_right (by omega) (by omega)
      show decN l ≤ _
      omega
    · exact Nat.zero_le _
def RetTtl (w : World) (t : Ttl) (e : Ending) (w' : World) : Prop := e = .returned (ttlV t.k t.e t.p (mkS t.n)) ∧ Below w.heap.size w w'

/-- Behind a call: a result's four cells written. -/
theorem below_set4 {w w2 : World} {o : Obj} (hb : Below (w.alloc o).heap.size (w.alloc o) w2) (u0 u1 u2 u3 : Value) :
    Below w.heap.size w ((((w2.setCell ⟨w.heap.size, 0, none⟩ u0).setCell ⟨w.heap.size, 1, none⟩ u1).setCell ⟨w.heap.size, 2, none⟩ u2).setCell ⟨w.heap.size, 3, none⟩ u3) :=
  ((((((Below.refl _ _).alloc (Nat.le_refl _) _).trans (hb.mono (by simp))).setCell (p := ⟨w.heap.size, 0, none⟩) (Nat.le_refl _) _).setCell (p := ⟨w.heap.size, 1, none⟩) (Nat.le_refl _) _).setCell (p := ⟨w.heap.size, 2, none⟩) (Nat.le_refl _) _).setCell (p := ⟨w.heap.size, 3, none⟩) (Nat.le_refl _) _
theorem retTtl_mk {w w' : World} {t : Ttl} {k e p : Nat} {l : List UInt8} (h : t = ⟨k, e, p, l⟩) (hb : Below w.heap.size w w') : RetTtl w t (.returned (ttlV k e p (mkS l))) w' := by subst h; exact ⟨rfl, hb⟩

set_option maxRecDepth 100000 in
set_option maxHeartbeats 1600000 in
theorem rread_any (s : ByteArray) (hs : s.size ≤ maxLen) (w : World) :
    Calls Try.prog 17 #[.string s] w (RetTtl w (readT s.data.toList)) := by
  have hlen : s.data.toList.length = s.size := by simp
  unfold maxLen at hs
  go_enter Try.func17, Try.ntmps17
  go_upto_if 11 with fail
  go_cut [] (fun wx => Below (w.alloc (.cells ttl0 32)).heap.size (w.alloc (.cells ttl0 32)) wx ∧ ¬ condA s.data.toList)
  case first =>
    by_cases h12 : s.size = 12
    · have t0 : ((s.size : Int) == 12) = true := beq_iff_eq.2 (by omega)
      have hp := rparse_any (s.extract 6 s.size) (by rw [ByteArray.size_extract]; unfold maxLen; omega)
      have hl : (s.extract 6 s.size).data.toList = s.data.toList.drop 6 := by
        rw [extract_list, List.take_of_length_le (by rw [List.length_drop]; omega)]
      rw [hl] at hp
      have hle := parseI_le (s.data.toList.drop 6)
      have hA : condA s.data.toList ↔ ((parseI (s.data.toList.drop 6)).2 = true ∧ mkS (offC ((parseI (s.data.toList.drop 6)).1 : Nat)) = s) := by
        unfold condA
        rw [hlen]
        exact ⟨fun ⟨_, g1, g2⟩ => ⟨g1, str_ext g2⟩, fun ⟨g1, g2⟩ => ⟨h12, g1, by rw [← mkS_list (offC _), g2]⟩⟩
      have hres : condA s.data.toList → readT s.data.toList = ⟨1, (parseI (s.data.toList.drop 6)).1, 0, []⟩ := readT_A _
      obtain ⟨⟨x, ok⟩, hx⟩ : ∃ x, parseI (s.data.toList.drop 6) = x := ⟨_, rfl⟩
      rw [hx] at hp hA hle hres
      have hoc := rofcheck_any (x : Nat) (by omega)
      obtain ⟨d, hd⟩ : ∃ d, mkS (offC (x : Nat)) = d := ⟨_, rfl⟩
      simp only [hd] at hA hoc
      have HP := Lib.hid hp; have HA := Lib.hid hA; have HO := Lib.hid hoc; have HR := Lib.hid hres; have HN := Lib.hid hlen
      have b0 : 6 ≤ s.size := by omega
      clear hp hA hx hl hd h12 hoc hres hlen
      cases ok with
      | false =>
        go_wp2_with (go_at_call 29; (with_reducible refine (HP.out _).mono ?_); rintro e w' ⟨rfl, rfl⟩)
        go_meet
        exact ⟨Below.refl _ _, fun h => by have := (HA.out.1 h).1; simp at this⟩
      | true =>
        by_cases hds : d = s
        · have t1 : (d.toList == s.toList) = true := by rw [hds]; simp
          have HC := Lib.hid (HR.out (HA.out.2 ⟨rfl, hds⟩))
          clear hds
          go_wp2_with fail
          refine (HP.out _).mono ?_; rintro e w' ⟨rfl, rfl⟩
          go_wp2_with fail
          refine (HO.out _).mono ?_; rintro e w1 ⟨rfl, hb1⟩
          obtain ⟨hc, hf⟩ := bcell8 hb1
          go_wp2
          exact bodyPost_ret (v := ttlV (1 : Nat) (x : Nat) (0 : Nat) (mkS [])) (by simp [results, Try.results17, hc, go_sem]; rfl) rfl (retTtl_mk HC.out (below_set4 hb1 _ _ _ _))
        · have t1 := str_ne hds
          have HC := Lib.hid (show ¬ condA s.data.toList from fun h => hds (HA.out.1 h).2)
          clear hds
          go_wp2_with fail
          refine (HP.out _).mono ?_; rintro e w' ⟨rfl, rfl⟩
          go_wp2_with fail
          refine (HO.out _).mono ?_; rintro e w1 ⟨rfl, hb1⟩
          go_wp2
          go_meet
          exact ⟨hb1, HC.out⟩
    · have t0 : ((s.size : Int) == 12) = false := beq_eq_false_iff_ne.2 (by omega)
      have HC := Lib.hid (show ¬ condA s.data.toList from fun h => h12 (by rw [← hlen]; exact h.1))
      clear h12 hlen
      go_wp2
      go_meet
      exact ⟨Below.refl _ _, HC.out⟩
  case rest =>
    obtain ⟨hb, hnA⟩ := hcut
    have HNA := Lib.hid hnA
    clear hnA
    go_upto_if 29 with fail
    go_cut [] (fun wx => Below (w.alloc (.cells ttl0 32)).heap.size (w.alloc (.cells ttl0 32)) wx ∧ ¬ condB s.data.toList)
    case first =>
      by_cases h15 : s.size = 15
      · have t0 : ((s.size : Int) == 15) = true := beq_iff_eq.2 (by omega)
        have hp := rparse_any (s.extract 4 10) (by rw [ByteArray.size_extract]; unfold maxLen; omega)
        have hq := rparse_any (s.extract 11 s.size) (by rw [ByteArray.size_extract]; unfold maxLen; omega)
        have hl : (s.extract 4 10).data.toList = (s.data.toList.drop 4).take 6 := by rw [extract_list]
        have hl2 : (s.extract 11 s.size).data.toList = s.data.toList.drop 11 := by
          rw [extract_list, List.take_of_length_le (by rw [List.length_drop]; omega)]
        rw [hl] at hp
        rw [hl2] at hq
        have hle := parseI_le ((s.data.toList.drop 4).take 6)
        have hle2 := parseI_le (s.data.toList.drop 11)
        have hB : condB s.data.toList ↔ ((parseI ((s.data.toList.drop 4).take 6)).2 = true ∧ (parseI (s.data.toList.drop 11)).2 = true ∧ mkS (offL ((parseI ((s.data.toList.drop 4).take 6)).1 : Nat) ((parseI (s.data.toList.drop 11)).1 : Nat)) = s) := by
          unfold condB
          rw [hlen]
          exact ⟨fun ⟨_, g1, g2, g3⟩ => ⟨g1, g2, str_ext g3⟩, fun ⟨g1, g2, g3⟩ => ⟨h15, g1, g2, by rw [← mkS_list (offL _ _), g3]⟩⟩
        have hres : condB s.data.toList → readT s.data.toList = ⟨2, (parseI ((s.data.toList.drop 4).take 6)).1, (parseI (s.data.toList.drop 11)).1, []⟩ := readT_B _ HNA.out
        obtain ⟨⟨x, ok⟩, hx⟩ : ∃ x, parseI ((s.data.toList.drop 4).take 6) = x := ⟨_, rfl⟩
        obtain ⟨⟨y, fine⟩, hy⟩ : ∃ x, parseI (s.data.toList.drop 11) = x := ⟨_, rfl⟩
        rw [hx] at hp hB hle hres
        rw [hy] at hq hB hle2 hres
        have hoc := roflog_any (x : Nat) (y : Nat) (by omega) (by omega)
        obtain ⟨d, hd⟩ : ∃ d, mkS (offL (x : Nat) (y : Nat)) = d := ⟨_, rfl⟩
        simp only [hd] at hB hoc
        have HP := Lib.hid hp; have HQ := Lib.hid hq; have HB := Lib.hid hB; have HO := Lib.hid hoc; have HR := Lib.hid hres; have HN := Lib.hid hlen
        have b0 : 15 ≤ s.size := by omega
        clear hp hq hB hx hy hl hl2 hd h15 hoc hres hlen
        cases ok with
        | false =>
          go_wp2_with (first | (go_at_call 29; (with_reducible refine (HP.out _).mono ?_); rintro e w' ⟨rfl, rfl⟩) | (go_at_call 29; (with_reducible refine (HQ.out _).mono ?_); rintro e w' ⟨rfl, rfl⟩))
          go_meet
          exact ⟨hb, fun h => by have := (HB.out.1 h).1; simp at this⟩
        | true =>
          cases fine with
          | false =>
            go_wp2_with (first | (go_at_call 29; (with_reducible refine (HP.out _).mono ?_); rintro e w' ⟨rfl, rfl⟩) | (go_at_call 29; (with_reducible refine (HQ.out _).mono ?_); rintro e w' ⟨rfl, rfl⟩))
            go_meet
            exact ⟨hb, fun h => by have := (HB.out.1 h).2.1; simp at this⟩
          | true =>
            by_cases hds : d = s
            · have t1 : (d.toList == s.toList) = true := by rw [hds]; simp
              have HC := Lib.hid (HR.out (HB.out.2 ⟨rfl, rfl, hds⟩))
              clear hds
              go_wp2_with fail
              refine (HP.out _).mono ?_; rintro e w' ⟨rfl, rfl⟩
              go_wp2_with fail
              refine (HQ.out _).mono ?_; rintro e w' ⟨rfl, rfl⟩
              go_wp2_with fail
              refine (onward hb (HO.out _)).mono ?_; rintro e w1 ⟨rfl, hb1⟩
              obtain ⟨hc, hf⟩ := bcell8 hb1
              go_wp2
              exact bodyPost_ret (v := ttlV (2 : Nat) (x : Nat) (y : Nat) (mkS [])) (by simp [results, Try.results17, hc, go_sem]; rfl) rfl (retTtl_mk HC.out (below_set4 hb1 _ _ _ _))
            · have t1 := str_ne hds
              have HC := Lib.hid (show ¬ condB s.data.toList from fun h => hds (HB.out.1 h).2.2)
              clear hds
              go_wp2_with fail
              refine (HP.out _).mono ?_; rintro e w' ⟨rfl, rfl⟩
              go_wp2_with fail
              refine (HQ.out _).mono ?_; rintro e w' ⟨rfl, rfl⟩
              go_wp2_with fail
              refine (onward hb (HO.out _)).mono ?_; rintro e w1 ⟨rfl, hb1⟩
              go_wp2
              go_meet
              exact ⟨hb1, HC.out⟩
      · have t0 : ((s.size : Int) == 15) = false := beq_eq_false_iff_ne.2 (by omega)
        have HC := Lib.hid (show ¬ condB s.data.toList from fun h => h15 (by rw [← hlen]; exact h.1))
        clear h15 hlen
        go_wp2
        go_meet
        exact ⟨hb, HC.out⟩
    case rest =>
      clear hb
      obtain ⟨hb, hnB⟩ := hcut
      have HNB := Lib.hid hnB
      clear hnB
      have hm := rmay_any s (by unfold maxLen; omega)
      obtain ⟨c, hc⟩ : ∃ c, mayB s.data.toList = c := ⟨_, rfl⟩
      rw [hc] at hm
      have HM := Lib.hid hm; have HC := Lib.hid hc
      clear hm hc
      go_upto_region 10 with fail
      go_cut [67] (fun v wx => v = .bool (condCb s.data.toList) ∧ Below (w.alloc (.cells ttl0 32)).heap.size (w.alloc (.cells ttl0 32)) wx)
      case first =>
        have hx4 : 4 ≤ s.size → (s.extract 0 4).toList = s.data.toList.take 4 := fun h => by
          rw [ByteArray.toList_eq, extract_list]; rfl
        have hcb : condCb s.data.toList = (decide (s.data.toList.take 4 = [116, 109, 112, 45]) && c) := by unfold condCb; rw [HC.out]
        by_cases h4 : 4 ≤ s.size
        · have e4 := hx4 h4
          by_cases he : s.data.toList.take 4 = [116, 109, 112, 45]
          · have hcb2 : condCb s.data.toList = c := by rw [hcb]; simp [he]
            rw [he] at e4
            have t1 : ((s.extract 0 4).toList == [116, 109, 112, 45]) = true := by rw [e4]; rfl
            have HCB := Lib.hid hcb2
            clear hcb hcb2 he e4 hx4
            go_wp2_with (go_at_call 19; (with_reducible refine (HM.out _).mono ?_); rintro e w' ⟨rfl, rfl⟩)
            go_meet
            exact ⟨by rw [HCB.out], hb⟩
          · have hcb2 : condCb s.data.toList = false := by rw [hcb]; simp [he]
            have t1 : ((s.extract 0 4).toList == [116, 109, 112, 45]) = false := by rw [e4]; exact beq_eq_false_iff_ne.2 he
            have HCB := Lib.hid hcb2
            clear hcb hcb2 he e4 hx4
            go_wp2_with (go_at_call 19; (with_reducible refine (HM.out _).mono ?_); rintro e w' ⟨rfl, rfl⟩)
            go_meet
            exact ⟨by rw [HCB.out], hb⟩
        · have hcb2 : condCb s.data.toList = false := by
            rw [hcb]
            have : ¬ s.data.toList.take 4 = [116, 109, 112, 45] := fun h => by
              have := congrArg List.length h
              rw [List.length_take, hlen] at this
              simp at this; omega
            simp [this]
          have HCB := Lib.hid hcb2
          clear hcb hcb2 hx4
          go_wp2_with (go_at_call 19; (with_reducible refine (HM.out _).mono ?_); rintro e w' ⟨rfl, rfl⟩)
          go_meet
          exact ⟨by rw [HCB.out], hb⟩
      case rest =>
        clear hb
        obtain ⟨rfl, hb⟩ := hcut
        clear HM HC
        obtain ⟨d, hd⟩ : ∃ d, condCb s.data.toList = d := ⟨_, rfl⟩
        rw [hd]
        obtain ⟨hc, hf⟩ := bcell8 hb
        cases d with
        | true =>
          have HR := Lib.hid (readT_C _ HNA.out HNB.out ((condCb_iff _).1 hd))
          clear hd hlen
          go_wp2
          exact bodyPost_ret (v := ttlV (3 : Nat) (0 : Nat) (0 : Nat) (mkS [])) (by simp [results, Try.results17, hc, go_sem]; rfl) rfl (retTtl_mk HR.out (below_set4 hb _ _ _ _))
        | false =>
          have HNC := Lib.hid (show ¬ condC s.data.toList from fun h => by rw [(condCb_iff _).2 h] at hd; cases hd)
          clear hd
          by_cases h2 : 2 < s.size
          · have hl : (s.extract 2 s.size).data.toList = s.data.toList.drop 2 := by
              rw [extract_list, List.take_of_length_le (by rw [List.length_drop]; omega)]
            have hx := rofexport_any (s.extract 2 s.size) (by rw [ByteArray.size_extract]; unfold maxLen; omega)
            have hsl : mkS (s.data.toList.drop 2) = s.extract 2 s.size := str_ext (by rw [mkS_list, hl])
            rw [hl] at hx
            have hD : condD s.data.toList ↔ mkS (offX (s.data.toList.drop 2)) = s := by
              unfold condD
              rw [hlen]
              exact ⟨fun ⟨_, g⟩ => str_ext g, fun g => ⟨h2, by rw [← mkS_list (offX _), g]⟩⟩
            obtain ⟨y, hy⟩ : ∃ y, mkS (offX (s.data.toList.drop 2)) = y := ⟨_, rfl⟩
            rw [hy] at hx hD
            by_cases hys : y = s
            · have HR := Lib.hid (readT_D _ HNA.out HNB.out HNC.out (hD.2 hys))
              have t1 : (y.toList == s.toList) = true := by rw [hys]; simp
              have HX := Lib.hid hx; have HS := Lib.hid hsl
              clear hx hl hD hy hys hlen hsl
              go_wp2_with (go_at_call 12; (with_reducible refine (HX.out _).mono ?_); rintro e w' ⟨rfl, rfl⟩)
              refine bodyPost_ret (v := ttlV (4 : Nat) (0 : Nat) (0 : Nat) (s.extract 2 s.size)) (by simp [results, Try.results17, hc, go_sem]) rfl ?_
              rw [← HS.out]
              exact retTtl_mk HR.out (below_set4 hb _ _ _ _)
            · have HR := Lib.hid (readT_E _ HNA.out HNB.out HNC.out (fun h => hys (hD.1 h)))
              have t1 := str_ne hys
              have HX := Lib.hid hx
              clear hx hl hD hy hys hlen hsl
              go_wp2_with (go_at_call 12; (with_reducible refine (HX.out _).mono ?_); rintro e w' ⟨rfl, rfl⟩)
              exact bodyPost_ret (v := ttlV (0 : Nat) (0 : Nat) (0 : Nat) (mkS [])) (by simp [results, Try.results17, hc, go_sem]; rfl) rfl (retTtl_mk HR.out (below_set4 hb _ _ _ _))
          · have HR := Lib.hid (readT_E _ HNA.out HNB.out HNC.out (fun h => h2 (by rw [← hlen]; exact h.1)))
            clear hlen
            go_wp2
            exact bodyPost_ret (v := ttlV (0 : Nat) (0 : Nat) (0 : Nat) (mkS [])) (by simp [results, Try.results17, hc, go_sem]; rfl) rfl (retTtl_mk HR.out (below_set4 hb _ _ _ _))
end Go.Proofs.Ytfbocmmdkhnaoaa
