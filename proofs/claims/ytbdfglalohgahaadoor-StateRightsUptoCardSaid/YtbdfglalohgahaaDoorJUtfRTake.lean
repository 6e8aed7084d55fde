/-
  Joined: UtfRTake, LawTakes, UtfBad, OpMath, EditMath.
-/
import Derived.Test.YtbdfglalohgahaaDoorJUtfLeaf
import Derived.Deep.RegionHeld3
import Derived.Deep.QuietTactic
import Derived.BigQuiet
import Derived.Test.YtbdfglalohgahaaDoorJCommon
namespace Go.Proofs.YtbdfglalohgahaaDoor
open Go.RowKit

/-- Are the first n bytes just those of the number that they would be? -/
def fits (l : List UInt8) (n : Nat) : Prop := 0 ≤ numI (l.take n) ∧ (putS (numI (l.take n))).data.toList = l.take n

theorem putS_list (c : Int) : (putS c).data.toList.length = (putS c).size := by simp
theorem fits_takes (l : List UInt8) (n : Nat) (h1 : 1 ≤ n) (hn : n ≤ l.length) (h : fits l n) : tkl l = ((numI (l.take n)).toNat, n) := by
  obtain ⟨h0, he⟩ := h
  have hlen : (l.take n).length = n := by rw [List.length_take]; omega
  have hs : sz (numI (l.take n)) ≠ 0 := by
    intro hz
    have e : putS (numI (l.take n)) = ⟨#[]⟩ := by unfold putS; rw [if_pos hz]
    rw [e] at he
    rw [← he] at hlen
    simp at hlen; omega
  obtain ⟨_, ht, hsz⟩ := put_takes _ hs
  rw [he] at ht
  have hn' : sz (numI (l.take n)) = n := by rw [← hsz, ← putS_list, he, hlen]
  rw [hn'] at ht
  have := tkl_app (l.take n) (l.drop n) (by rw [ht]; show n ≠ 0; omega)
  rw [List.take_append_drop] at this
  rw [this, ht]
theorem takes_fits (l : List UInt8) (c n : Nat) (h : tkl l = (c, n)) (hn : n ≠ 0) : fits l n := by
  have hne : l ≠ [] := fun e => by subst e; simp [tkl] at h; exact hn h.2.symm
  have hle := tkl_le l
  rw [h] at hle
  simp only at hle
  have hlen : (l.take n).length = n := by rw [List.length_take]; omega
  have b : ∀ i, i < n → bt (l.take n) i = bt l i := fun i hi => bt_take l n i hi
  unfold tkl at h
  rw [if_neg hne] at h
  have m0 := bt_lt l 0; have m1 := bt_lt l 1; have m2 := bt_lt l 2; have m3 := bt_lt l 3
  suffices hN : numI (l.take n) = c ∧ (putS (c : Int)).data.toList = l.take n by
    unfold fits; rw [hN.1]; exact ⟨by omega, hN.2⟩
  rcases tk_cases (bt l 0) (bt l 1) (bt l 2) (bt l 3) with ⟨g1, e⟩ | ⟨g1, g2, g3, g4, e⟩ | ⟨g1, g2, g3, g4, g5, g6, g7, g8, e⟩ | ⟨g1, g2, g3, g4, g5, g6, g7, g8, g9, g10, e⟩ | ⟨_, _, _, _, e⟩
  all_goals rw [e] at h; simp only [Prod.mk.injEq] at h; obtain ⟨hc, rfl⟩ := h
  · refine ⟨by unfold numI; rw [if_pos hlen, b 0 (by omega), hc], ?_⟩
    rw [putS_1 c (by omega) (by omega)]
    refine ext_bt _ _ (by rw [hlen]; simp [strOfNums]) fun i hi => ?_
    have hi' : i < 1 := by simpa [strOfNums] using hi
    obtain rfl : i = 0 := by omega
    rw [bt_nums _ 0 (by simp), b 0 (by omega)]
    simp only [List.getD_cons_zero]; omega
  · refine ⟨by unfold numI; rw [hlen, if_neg (by omega), b 0 (by omega), show baseOf 2 = 192 from rfl, if_neg (by omega)]; simp only [acc]; rw [b (0 + 1 + 0) (by omega)]; simp only [Nat.reduceAdd]; omega, ?_⟩
    rw [putS_2 c (by omega) (by omega)]
    refine ext_bt _ _ (by rw [hlen]; simp [strOfNums]) fun i hi => ?_
    have hi' : i < 2 := by simpa [strOfNums] using hi
    obtain rfl | rfl : i = 0 ∨ i = 1 := by omega
    all_goals rw [bt_nums _ _ (by simp), b _ (by omega)]; simp only [List.getD_cons_zero, List.getD_cons_succ]; omega
  · refine ⟨by unfold numI; rw [hlen, if_neg (by omega), b 0 (by omega), show baseOf 3 = 224 from rfl, if_neg (by omega)]; simp only [acc]; rw [b (0 + 1 + 0) (by omega), b (0 + 1 + 1) (by omega)]; simp only [Nat.reduceAdd]; omega, ?_⟩
    rw [putS_3 c (by omega) (by omega) (by omega)]
    refine ext_bt _ _ (by rw [hlen]; simp [strOfNums]) fun i hi => ?_
    have hi' : i < 3 := by simpa [strOfNums] using hi
    obtain rfl | rfl | rfl : i = 0 ∨ i = 1 ∨ i = 2 := by omega
    all_goals rw [bt_nums _ _ (by simp), b _ (by omega)]; simp only [List.getD_cons_zero, List.getD_cons_succ]; omega
  · refine ⟨by unfold numI; rw [hlen, if_neg (by omega), b 0 (by omega), show baseOf 4 = 240 from rfl, if_neg (by omega)]; simp only [acc]; rw [b (0 + 1 + 0) (by omega), b (0 + 1 + 1) (by omega), b (0 + 1 + 2) (by omega)]; simp only [Nat.reduceAdd]; omega, ?_⟩
    rw [putS_4 c (by omega) (by omega)]
    refine ext_bt _ _ (by rw [hlen]; simp [strOfNums]) fun i hi => ?_
    have hi' : i < 4 := by simpa [strOfNums] using hi
    obtain rfl | rfl | rfl | rfl : i = 0 ∨ i = 1 ∨ i = 2 ∨ i = 3 := by omega
    all_goals rw [bt_nums _ _ (by simp), b _ (by omega)]; simp only [List.getD_cons_zero, List.getD_cons_succ]; omega
  · exact absurd rfl hn
theorem none_fits (l : List UInt8) (h : ∀ n, 1 ≤ n → n ≤ 4 → n ≤ l.length → ¬ fits l n) : tkl l = (0, 0) := by
  obtain ⟨c, n, e⟩ : ∃ c n, tkl l = (c, n) := ⟨_, _, rfl⟩
  by_cases hn : n = 0
  · by_cases hl : l = []
    · subst hl; rfl
    have e' := e
    unfold tkl at e'
    rw [if_neg hl] at e'
    rcases tk_cases (bt l 0) (bt l 1) (bt l 2) (bt l 3) with ⟨g1, g⟩ | ⟨g1, g2, g3, g4, g⟩ | ⟨g1, g2, g3, g4, g5, g6, g7, g8, g⟩ | ⟨g1, g2, g3, g4, g5, g6, g7, g8, g9, g10, g⟩ | ⟨_, _, _, _, g⟩
    all_goals rw [g] at e'; simp only [Prod.mk.injEq] at e'
    all_goals first | omega | skip
    rw [e]; simp [← e'.1, ← e'.2]
  · have h1 := tkl_le l
    rw [e] at h1
    have h4 : n ≤ 4 := by
      have := tk_le (bt l 0) (bt l 1) (bt l 2) (bt l 3)
      unfold tkl at e
      split at e
      · simp at e; omega
      · rw [e] at this; exact this
    exact absurd (takes_fits l c n e hn) (h n (by omega) h4 h1)
theorem numI_le (l : List UInt8) (h4 : l.length ≤ 4) : -1 ≤ numI l ∧ numI l < 2147483647 := by
  have hb := bt_lt l 0
  unfold numI
  split
  · omega
  split
  · omega
  · have := acc_le l (bt l 0 - baseOf l.length) (by omega) (l.length - 1) (by omega)
    omega

def NoFit (l : List UInt8) (j : Nat) : Prop := ∀ n, 1 ≤ n → n < j → n ≤ l.length → ¬ fits l n
theorem nofit_succ {l : List UInt8} {j : Nat} (h : NoFit l j) (g : ¬ fits l j) : NoFit l (j + 1) := fun n h1 h2 h3 => by
  by_cases e : n = j
  · subst e; exact g
  · exact h n h1 (by omega) h3
set_option maxRecDepth 100000 in
set_option maxHeartbeats 1000000 in
theorem rtake_in (s : ByteArray) (hs : s.size ≤ 4294967296) (k : Nat) (hk : k < s.size) (w : World) (r m : Nat) (hR0 : tkl (s.data.toList.drop k) = (r, m)) :
    Calls Tryd.prog 76 #[.string s, .int .i64 k] w fun e w' => e = .returned (.tuple #[.int .i32 r, .int .i64 m]) ∧ Below w.heap.size w w' := by
  have HR := Lib.hid hR0; clear hR0
  have hlen : (s.data.toList.drop k).length = s.size - k := by simp
  have HN := Lib.hid hlen; clear hlen
  have hd0 : decide (s.size ≤ k) = false := by simp; omega
  have hd1 : decide ((k : Int) < 0) = false := by simp
  go_enter Tryd.func76, Tryd.ntmps76
  go_wp2
  go_loopw [6] (fun i wr => ∃ j : Nat, 1 ≤ j ∧ j ≤ 5 ∧ i = .int .i64 j ∧ Below w.heap.size w wr ∧ NoFit (s.data.toList.drop k) j) (fun i _ => 5 - (intOf i).toNat)
  case atStart => exact ⟨1, by omega, by omega, rfl, Below.refl _ _, fun n h1 h2 => by omega⟩
  case round =>
    obtain ⟨j, hj1, hj5, rfl, hbel, hno⟩ := hrel
    have HB := Lib.hid hbel; clear hbel
    by_cases hlt : j ≤ 4 ∧ k + j ≤ s.size
    · obtain ⟨h4, hkj⟩ := hlt
      have hts : (s.extract k (k + j)).size = j := by simp; omega
      have htl : (s.extract k (k + j)).data.toList = (s.data.toList.drop k).take j := by rw [extract_list, Nat.add_sub_cancel_left]
      have hnum := number_any (s.extract k (k + j)) (by omega) (by omega)
      have hle := numI_le (s.extract k (k + j)).data.toList (by rw [htl, List.length_take]; omega)
      obtain ⟨c, hc⟩ : ∃ c, numI (s.extract k (k + j)).data.toList = c := ⟨_, rfl⟩
      rw [hc] at hnum hle
      obtain ⟨hc0, hc1⟩ := hle
      have HNUM := Lib.hid hnum; clear hnum
      have HC := Lib.hid hc; clear hc
      have HT := Lib.hid htl; clear htl
      have HTS := Lib.hid hts; clear hts
      have hkj2 : (k : Int) ≤ (k : Int) + (j : Int) := by omega
      have hkj3 : (k : Int) + (j : Int) ≤ (s.size : Int) := by omega
      have hk0 : (0 : Int) ≤ (k : Int) := by omega
      by_cases hneg : 0 ≤ c
      · by_cases heq : putS c = s.extract k (k + j)
        · have hput := rput_any c (by omega) (by omega)
          rw [heq] at hput
          have hfit : tkl (s.data.toList.drop k) = (c.toNat, j) := by
            have hf := fits_takes (s.data.toList.drop k) j hj1 (by rw [HN.out]; omega) (by
              unfold fits; rw [← HT.out, HC.out, heq]; exact ⟨hneg, rfl⟩)
            rw [← HT.out, HC.out] at hf
            exact hf
          rw [HR.out] at hfit
          simp only [Prod.mk.injEq] at hfit
          clear heq
          have HF := Lib.hid hfit; clear hfit
          have HPUT := Lib.hid hput; clear hput
          go_wp2_with (go_at_call 83; refine (HNUM.out _).mono ?_; rintro e w' ⟨rfl, rfl⟩)
          have z1 : IntKind.i64.wrap ((k : Int) + (j : Int)) = (k : Int) + (j : Int) := IntWalk.i64_in _ (by omega)
          have z2 : IntKind.i32.wrap c = c := IntWalk.i32_in _ (by omega)
          have z3 : ((k : Int) + (j : Int)).toNat = k + j := by omega
          have z4 : (0 : Int) ≤ (k : Int) + (j : Int) := by omega
          go_region_held3 (fun _ => True) (trivial) (first | (go_at_call 84; refine (HPUT.out _).mono ?_; rintro e w1 ⟨rfl, hb1⟩))
          go_wp2
          go_ret2
          refine ⟨ret_two ?_ ?_, HB.out.trans ((Below.refl _ _).drew.trans (hb1.mono ?_))⟩
          · have := HF.out; omega
          · have := HF.out; omega
          · exact HB.out.size
        · have hput := rput_any c (by omega) (by omega)
          obtain ⟨q, hq⟩ : ∃ q, putS c = q := ⟨_, rfl⟩
          rw [hq] at hput heq
          have hnf : ¬ fits (s.data.toList.drop k) j := by
            rintro ⟨_, hf⟩
            rw [← HT.out, HC.out, hq] at hf
            exact heq (ByteArray.ext (Array.toList_inj.1 hf))
          have hne := str_ne heq
          clear hq heq
          have HX := Lib.hid hnf; clear hnf
          have HPUT := Lib.hid hput; clear hput
          go_wp2_with (go_at_call 83; refine (HNUM.out _).mono ?_; rintro e w' ⟨rfl, rfl⟩)
          have z1 : IntKind.i64.wrap ((k : Int) + (j : Int)) = (k : Int) + (j : Int) := IntWalk.i64_in _ (by omega)
          have z2 : IntKind.i32.wrap c = c := IntWalk.i32_in _ (by omega)
          have z3 : ((k : Int) + (j : Int)).toNat = k + j := by omega
          have z4 : (0 : Int) ≤ (k : Int) + (j : Int) := by omega
          go_region_held3 (fun _ => True) (trivial) (first | (go_at_call 84; refine (HPUT.out _).mono ?_; rintro e w1 ⟨rfl, hb1⟩))
          clear z1 z2 z3 z4
          go_wp2
          go_roundw
          case rel => exact ⟨j + 1, by omega, by omega, by go_num, HB.out.trans ((Below.refl _ _).drew.trans (hb1.mono HB.out.size)), nofit_succ hno HX.out⟩
          case measure => simp [intOf]; omega
      · have hnf : ¬ fits (s.data.toList.drop k) j := by
          rintro ⟨hf, _⟩
          rw [← HT.out, HC.out] at hf
          exact hneg hf
        have HX := Lib.hid hnf; clear hnf
        have hd : decide (0 ≤ c) = false := by simp; omega
        go_wp2_with (go_at_call 83; refine (HNUM.out _).mono ?_; rintro e w' ⟨rfl, rfl⟩)
        go_quiet (fail)
        go_wp2
        go_roundw
        case rel => exact ⟨j + 1, by omega, by omega, by go_num, drewN_below HB.out _, nofit_succ hno HX.out⟩
        case measure => simp [intOf]; omega
    · by_cases h4 : j ≤ 4
      · have hkj : ¬ (j : Int) ≤ (s.size : Int) - (k : Int) := by omega
        have h0 : tkl (s.data.toList.drop k) = (0, 0) := none_fits _ fun n h1 h2 h3 => hno n h1 (by rw [HN.out] at h3; omega) h3
        rw [HR.out] at h0
        simp only [Prod.mk.injEq] at h0
        have H0 := Lib.hid h0; clear h0 hlt
        go_wp2
        go_ret2
        exact ⟨ret_two (by rw [H0.out.1]; rfl) (by rw [H0.out.2]; rfl), HB.out⟩
      · have hj : ¬ (j : Int) ≤ 4 := by omega
        have h0 : tkl (s.data.toList.drop k) = (0, 0) := none_fits _ fun n h1 h2 h3 => hno n h1 (by omega) h3
        rw [HR.out] at h0
        simp only [Prod.mk.injEq] at h0
        have H0 := Lib.hid h0; clear h0 hlt
        go_wp2
        go_ret2
        exact ⟨ret_two (by rw [H0.out.1]; rfl) (by rw [H0.out.2]; rfl), HB.out⟩
end Go.Proofs.YtbdfglalohgahaaDoor
namespace Go.Proofs.YtbdfglalohgahaaDoor
open Go.RowKit

set_option maxRecDepth 100000 in
theorem rtake_any (s : ByteArray) (hs : s.size ≤ 4294967296) (p : Int) (w : World) :
    Calls Tryd.prog 76 #[.string s, .int .i64 p] w fun e w' => e = .returned (.tuple #[.int .i32 (takeI s.data.toList p).1, .int .i64 (takeI s.data.toList p).2]) ∧ Below w.heap.size w w' := by
  by_cases h0 : p < 0
  · have e : takeI s.data.toList p = (0, 0) := by unfold takeI; rw [if_pos h0]
    rw [e]; clear e
    go_enter Tryd.func76, Tryd.ntmps76
    go_wp2
    go_ret2
    exact ⟨rfl, Below.refl _ _⟩
  obtain ⟨k, rfl⟩ := Int.eq_ofNat_of_zero_le (Int.not_lt.1 h0)
  by_cases hk : k < s.size
  · have e : takeI s.data.toList k = tkl (s.data.toList.drop k) := by unfold takeI; rw [if_neg h0]; rfl
    rw [e]
    exact rtake_in s hs k hk w _ _ rfl
  · have e : takeI s.data.toList k = (0, 0) := by
      unfold takeI; rw [if_neg h0, Int.toNat_natCast, List.drop_eq_nil_of_le (by simp; omega)]; rfl
    rw [e]; clear e
    go_enter Tryd.func76, Tryd.ntmps76
    go_wp2
    go_ret2
    exact ⟨rfl, Below.refl _ _⟩

end Go.Proofs.YtbdfglalohgahaaDoor
namespace Go.Proofs.YtbdfglalohgahaaDoor
open Go.RowKit

/-- The first place from p on at which no rune stands. -/
def badAt (l : List UInt8) (p : Nat) : Int := badF (l.length + 1) (l.drop p) p
theorem badAt_zero (l : List UInt8) : badAt l 0 = bad l := rfl
theorem badAt_end (l : List UInt8) (p : Nat) (h : l.length ≤ p) : badAt l p = -1 := by
  unfold badAt; rw [List.drop_eq_nil_of_le h]; simp [badF]
theorem badAt_bad (l : List UInt8) (p : Nat) (h : p < l.length) (e : (tkl (l.drop p)).2 = 0) : badAt l p = p := by
  unfold badAt; simp only [badF]; rw [if_neg (by simp; omega), if_pos e]
theorem badAt_step (l : List UInt8) (p : Nat) (h : p < l.length) (e : (tkl (l.drop p)).2 ≠ 0) : badAt l p = badAt l (p + (tkl (l.drop p)).2) := by
  unfold badAt
  conv => lhs; rw [show badF (l.length + 1) (l.drop p) p = if l.drop p = [] then (-1 : Int) else if (tkl (l.drop p)).2 = 0 then (p : Int) else badF l.length ((l.drop p).drop (tkl (l.drop p)).2) (p + (tkl (l.drop p)).2) from rfl]
  rw [if_neg (by simp; omega), if_neg e, List.drop_drop]
  exact badF_more _ _ _ _ (by simp; omega) (by simp; omega)

set_option maxRecDepth 100000 in
set_option maxHeartbeats 400000 in
theorem bad_any (s : ByteArray) (hs : s.size ≤ maxLen) (w : World) :
    Calls Tryd.prog 73 #[.string s] w fun e w' => e = .returned (.int .i64 (bad s.data.toList)) ∧ Below w.heap.size w w' := by
  have hlen : s.data.toList.length = s.size := by simp
  have HN := Lib.hid hlen; clear hlen
  have HM := Lib.hid hs; clear hs
  obtain ⟨r, hr⟩ : ∃ r, bad s.data.toList = r := ⟨_, rfl⟩
  rw [hr]
  have HR := Lib.hid hr; clear hr
  go_enter Tryd.func73, Tryd.ntmps73
  go_wp2
  go_loopw [3] (fun _ wr => ∃ pos : Nat, wr = w.iter s pos ∧ badAt s.data.toList pos = r) (fun _ wr => s.size - wr.iterPos w.heap.size)
  case atStart => exact ⟨0, rfl, HR.out⟩
  case round =>
    obtain ⟨pos, rfl, hb⟩ := hrel
    have HB := Lib.hid hb; clear hb
    by_cases hp : pos < s.size
    · have hd := decode_tk s pos hp
      obtain ⟨c, n, hcn⟩ : ∃ c n, tkl (s.data.toList.drop pos) = (c, n) := ⟨_, _, rfl⟩
      rw [hcn] at hd
      have hnx0 := fun ty => run_next_any (P := Tryd.prog) w s pos ty hp
      have ht := take_in' s HM.out pos hp
      have hpl : pos < s.data.toList.length := by rw [HN.out]; exact hp
      by_cases hn : n = 0
      · rw [if_pos hn] at hd
        rw [hd] at hnx0
        have hres : r = pos := by rw [← HB.out, badAt_bad _ _ hpl (by rw [hcn]; exact hn)]
        have ht' := fun w => ht w c n hcn
        rw [hn] at ht'
        have HT := Lib.hid ht'; clear ht ht' hd hcn hn hpl
        have HRes := Lib.hid hres; clear hres
        go_wp2_with (go_at_call 82; refine (HT.out _).mono ?_; rintro e w' ⟨rfl, rfl⟩)
        go_ret
        exact ⟨ret_int HRes.out.symm, (Below.refl _ _).alloc (Nat.le_refl _) _⟩
      · rw [if_neg hn] at hd
        rw [hd] at hnx0
        have hstep : badAt s.data.toList (pos + n) = r := by
          rw [← HB.out, badAt_step _ _ hpl (by rw [hcn]; exact hn), hcn]
        have HS := Lib.hid hstep; clear hstep
        have hz : ((n : Int) == 0) = false := by simp; omega
        by_cases hc : c = 65533
        · have ht' := fun w => ht w c n hcn
          rw [hc] at ht' hnx0
          have HT := Lib.hid ht'; clear ht ht' hd hcn hpl hc
          go_wp2_with (go_at_call 82; refine (HT.out _).mono ?_; rintro e w' ⟨rfl, rfl⟩)
          go_roundw
          case rel => exact ⟨pos + n, rfl, HS.out⟩
          case measure => simp; omega
        · have hne : ((c : Int) != 65533) = true := by simp; omega
          clear ht hd hcn hpl hc
          go_wp2
          go_roundw
          case rel => exact ⟨pos + n, rfl, HS.out⟩
          case measure => simp; omega
    · have hnx0 := fun ty => run_next_end (P := Tryd.prog) w s pos ty hp
      have hres : r = -1 := by rw [← HB.out, badAt_end _ _ (by rw [HN.out]; omega)]
      have HRes := Lib.hid hres; clear hres
      go_wp2
      go_ret
      exact ⟨ret_int HRes.out.symm, (Below.refl _ _).alloc (Nat.le_refl _) _⟩

set_option maxRecDepth 100000 in
set_option maxHeartbeats 400000 in
theorem rbad_any (s : ByteArray) (hs : s.size ≤ 4294967296) (w : World) :
    Calls Tryd.prog 59 #[.string s] w fun e w' => e = .returned (.int .i64 (bad s.data.toList)) ∧ Below w.heap.size w w' := by
  have hlen : s.data.toList.length = s.size := by simp
  have HN := Lib.hid hlen; clear hlen
  obtain ⟨r, hr⟩ : ∃ r, bad s.data.toList = r := ⟨_, rfl⟩
  rw [hr]
  have HR := Lib.hid hr; clear hr
  go_enter Tryd.func59, Tryd.ntmps59
  go_wp2
  go_loopw [3] (fun i wr => ∃ pos : Nat, i = .int .i64 pos ∧ badAt s.data.toList pos = r ∧ pos ≤ s.size ∧ Below w.heap.size w wr) (fun i _ => s.size - (intOf i).toNat)
  case atStart => exact ⟨0, rfl, HR.out, Nat.zero_le _, Below.refl _ _⟩
  case round =>
    obtain ⟨pos, rfl, hb, hle, hbel⟩ := hrel
    have HB := Lib.hid hb; clear hb
    have HL := Lib.hid hbel; clear hbel
    by_cases hp : pos < s.size
    · obtain ⟨c, n, hcn⟩ : ∃ c n, tkl (s.data.toList.drop pos) = (c, n) := ⟨_, _, rfl⟩
      have ht := fun w => rtake_in s hs pos hp w c n hcn
      have HT := Lib.hid ht; clear ht
      have hpl : pos < s.data.toList.length := by rw [HN.out]; exact hp
      by_cases hn : n = 0
      · have hres : r = pos := by rw [← HB.out, badAt_bad _ _ hpl (by rw [hcn]; exact hn)]
        have HRes := Lib.hid hres; clear hres
        have hz : ((n : Int) == 0) = true := by simp; omega
        clear hcn hn hpl
        go_wp2_with (go_at_call 76; refine (HT.out _).mono ?_; rintro e w' ⟨rfl, hb1⟩)
        go_ret
        exact ⟨ret_int HRes.out.symm, HL.out.trans (Below.mono (by assumption) HL.out.size)⟩
      · have hstep : badAt s.data.toList (pos + n) = r := by
          rw [← HB.out, badAt_step _ _ hpl (by rw [hcn]; exact hn), hcn]
        have hnle : n ≤ s.size - pos := by
          have := tkl_le (s.data.toList.drop pos)
          rw [hcn, List.length_drop, HN.out] at this
          exact this
        have HS := Lib.hid hstep; clear hstep
        have hz : ((n : Int) == 0) = false := by simp; omega
        clear hcn hpl
        go_wp2_with (go_at_call 76; refine (HT.out _).mono ?_; rintro e w' ⟨rfl, hb1⟩)
        go_roundw
        case rel => exact ⟨pos + n, by go_num, HS.out, by omega, HL.out.trans (Below.mono (by assumption) HL.out.size)⟩
        case measure => simp [intOf]; omega
    · have hres : r = -1 := by rw [← HB.out, badAt_end _ _ (by rw [HN.out]; omega)]
      have HRes := Lib.hid hres; clear hres
      go_wp2
      go_ret
      exact ⟨ret_int HRes.out.symm, HL.out⟩

theorem bad_ge (l : List UInt8) : -1 ≤ bad l := by
  have := badF_range (l.length + 1) l 0
  unfold bad; omega
/-- Is a text made of runes alone, as a Bool? -/
def vldB (l : List UInt8) : Bool := decide (bad l < 0)
theorem vldB_iff (l : List UInt8) : vldB l = true ↔ vld l := by
  unfold vldB vld; have := bad_ge l; simp; omega

set_option maxRecDepth 100000 in
theorem valid_any (s : ByteArray) (hs : s.size ≤ maxLen) (w : World) :
    Calls Tryd.prog 53 #[.string s] w fun e w' => e = .returned (.bool (vldB s.data.toList)) ∧ Below w.heap.size w w' := by
  have hb := bad_any s hs
  have e : vldB s.data.toList = decide (bad s.data.toList < 0) := rfl
  rw [e]; clear e
  obtain ⟨r, hr⟩ : ∃ r, bad s.data.toList = r := ⟨_, rfl⟩
  rw [hr] at hb ⊢
  have HB := Lib.hid hb; clear hb hr
  go_enter Tryd.func53, Tryd.ntmps53
  go_wp2_with (go_at_call 73; refine (HB.out _).mono ?_; rintro e w' ⟨rfl, hb1⟩)
  go_ret
  exact ⟨rfl, by assumption⟩
set_option maxRecDepth 100000 in
theorem rvalid_any (s : ByteArray) (hs : s.size ≤ 4294967296) (w : World) :
    Calls Tryd.prog 26 #[.string s] w fun e w' => e = .returned (.bool (vldB s.data.toList)) ∧ Below w.heap.size w w' := by
  have hb := rbad_any s hs
  have e : vldB s.data.toList = decide (bad s.data.toList < 0) := rfl
  rw [e]; clear e
  obtain ⟨r, hr⟩ : ∃ r, bad s.data.toList = r := ⟨_, rfl⟩
  rw [hr] at hb ⊢
  have HB := Lib.hid hb; clear hb hr
  go_enter Tryd.func26, Tryd.ntmps26
  go_wp2_with (go_at_call 59; refine (HB.out _).mono ?_; rintro e w' ⟨rfl, hb1⟩)
  go_ret
  exact ⟨rfl, by assumption⟩
end Go.Proofs.YtbdfglalohgahaaDoor
namespace Go.Proofs.YtbdfglalohgahaaDoor
open Go.RowKit

/-- May a number be a place? -/
def plB (n : Int) : Bool := decide (0 ≤ n) && decide (n ≤ 4096)
theorem plB_yes {n : Int} (h : 0 ≤ n) (k : n ≤ 4096) : plB n = true := by unfold plB; simp; omega
theorem plB_no {n : Int} (h : n < 0 ∨ 4096 < n) : plB n = false := by unfold plB; simp; omega
theorem plB_in {n : Int} (h : plB n = true) : 0 ≤ n ∧ n ≤ 4096 := by unfold plB at h; simp at h; exact h
theorem plB_out {n : Int} (h : plB n = false) : n < 0 ∨ 4096 < n := by
  unfold plB at h
  simp only [Bool.and_eq_false_iff, decide_eq_false_iff_not] at h
  omega

/-- Is a byte a letter? -/
def letB (c : UInt8) : Bool := decide (97 ≤ c.toNat) && decide (c.toNat ≤ 122)
/-- May a mark be called so? -/
def markB (l : List UInt8) : Bool := (decide (1 ≤ l.length) && decide (l.length ≤ 8)) && l.all letB
theorem markB_short {l : List UInt8} (h : l.length < 1) : markB l = false := by unfold markB; rw [decide_eq_false (by omega)]; rfl
theorem markB_long {l : List UInt8} (h : 8 < l.length) : markB l = false := by unfold markB; rw [decide_eq_false (by omega : ¬ l.length ≤ 8), Bool.and_false]; rfl
theorem markB_all {l : List UInt8} (h : 1 ≤ l.length) (k : l.length ≤ 8) : markB l = l.all letB := by unfold markB; rw [decide_eq_true h, decide_eq_true k]; rfl
theorem markB_in {l : List UInt8} (h : markB l = true) : 1 ≤ l.length ∧ l.length ≤ 8 ∧ l.all letB = true := by
  unfold markB at h
  simp only [Bool.and_eq_true, decide_eq_true_eq] at h
  exact ⟨h.1.1, h.1.2, h.2⟩
theorem markB_nil : markB [] = false := rfl
theorem all_take_snoc {l : List UInt8} {k : Nat} (h : k < l.length) : (l.take (k + 1)).all letB = ((l.take k).all letB && letB (l[k]'h)) := by
  rw [List.take_succ_eq_append_getElem h, List.all_append]; simp
theorem all_off {l : List UInt8} {k : Nat} (h : k < l.length) (g : letB (l[k]'h) = false) : l.all letB = false := by
  rw [List.all_eq_false]
  exact ⟨l[k], List.getElem_mem h, by simp [g]⟩

theorem letB_at {s : ByteArray} {k : Nat} (h : k < s.size) : letB (s.data.toList[k]'(by simpa using h)) = (decide (97 ≤ s[k].toNat) && decide (s[k].toNat ≤ 122)) := rfl
theorem may_snoc {s : ByteArray} {k : Nat} (h : k < s.size) (hall : (s.data.toList.take k).all letB = true) (h1 : 97 ≤ s[k].toNat) (h2 : s[k].toNat ≤ 122) : (s.data.toList.take (k + 1)).all letB = true := by
  rw [all_take_snoc (by simpa using h), hall, letB_at h, decide_eq_true h1, decide_eq_true h2]; rfl
theorem may_off {s : ByteArray} {k : Nat} (h : k < s.size) (g : s[k].toNat < 97 ∨ 122 < s[k].toNat) : markB s.data.toList = false := by
  have e : s.data.toList.all letB = false := all_off (k := k) (by simpa using h) (by
    rw [letB_at h]
    rcases g with g | g
    · rw [decide_eq_false (by omega)]; rfl
    · rw [decide_eq_false (by omega : ¬ s[k].toNat ≤ 122), Bool.and_false])
  unfold markB; rw [e, Bool.and_false]
theorem may_end {s : ByteArray} (h : (s.data.toList.take s.size).all letB = true) : markB s.data.toList = (decide (1 ≤ s.size) && decide (s.size ≤ 8)) := by
  have e : s.data.toList.length = s.size := by simp
  rw [List.take_of_length_le (by omega)] at h
  unfold markB; rw [h, Bool.and_true, e]

/-- Which operations may be: the kind, the place, the length, the text. -/
def rightB (k a n : Int) (l : List UInt8) : Bool :=
  if k = 1 then (plB a && decide (n = 0)) && (decide (l.length ≤ 512) && vldB l)
  else if k = 2 then (plB a && plB n) && decide (l.length = 0)
  else if k = 3 then (plB a && decide (n = 0)) && markB l
  else if k = 4 then (decide (a = 0) && decide (n = 0)) && markB l
  else if 5 ≤ k ∧ k ≤ 8 then (decide (a = 0) && decide (n = 0)) && decide (l.length = 0)
  else false
theorem right1 (a n : Int) (l : List UInt8) : rightB 1 a n l = ((plB a && decide (n = 0)) && (decide (l.length ≤ 512) && vldB l)) := rfl
theorem right2 (a n : Int) (l : List UInt8) : rightB 2 a n l = ((plB a && plB n) && decide (l.length = 0)) := rfl
theorem right3 (a n : Int) (l : List UInt8) : rightB 3 a n l = ((plB a && decide (n = 0)) && markB l) := rfl
theorem right4 (a n : Int) (l : List UInt8) : rightB 4 a n l = ((decide (a = 0) && decide (n = 0)) && markB l) := rfl
theorem right5 {k : Int} (h : 5 ≤ k) (g : k ≤ 8) (a n : Int) (l : List UInt8) : rightB k a n l = ((decide (a = 0) && decide (n = 0)) && decide (l.length = 0)) := by
  unfold rightB
  rw [if_neg (by omega), if_neg (by omega), if_neg (by omega), if_neg (by omega), if_pos ⟨h, g⟩]
theorem right_off {k : Int} (h : k < 1 ∨ 8 < k) (a n : Int) (l : List UInt8) : rightB k a n l = false := by
  unfold rightB
  rw [if_neg (by omega), if_neg (by omega), if_neg (by omega), if_neg (by omega), if_neg (by omega)]
/-- The kinds, one by one. -/
theorem opKinds (k : Int) : k = 1 ∨ k = 2 ∨ k = 3 ∨ k = 4 ∨ (5 ≤ k ∧ k ≤ 8) ∨ (k < 1 ∨ 8 < k) := by omega
theorem right_kind {k a n : Int} {l : List UInt8} (h : rightB k a n l = true) : 1 ≤ k ∧ k ≤ 8 := by
  rcases opKinds k with g | g | g | g | g | g
  · omega
  · omega
  · omega
  · omega
  · omega
  · rw [right_off g] at h; cases h

/-- An operation's bytes. -/
def bodyL (k a n : Int) (l : List UInt8) : List UInt8 :=
  UInt8.ofNat (k % 256).toNat :: ((if k ≤ 3 then leL (u64 a) 4 else []) ++ ((if k = 2 then leL (u64 n) 4 else []) ++ l))

/-- What bytes are: an operation, or why there is none. -/
structure OpRd where
  k : Int
  a : Int
  n : Int
  s : ByteArray
  e : Int
def OpRd.none (e : Int) : OpRd := ⟨0, 0, 0, ⟨#[]⟩, e⟩
/-- The last step: it must be right. -/
def rdEnd (k a n : Int) (s : ByteArray) : OpRd := if rightB k a n s.data.toList = true then ⟨k, a, n, s, 0⟩ else OpRd.none 5
/-- The number at the head of bytes; what is behind it. -/
def headN (s : ByteArray) : Int := (leN s.data.toList 0 4 : Nat)
def restN (s : ByteArray) : ByteArray := s.extract 4 s.size
/-- Of the kind and what is behind its byte. -/
def rdKind (k : Int) (s : ByteArray) : OpRd :=
  if k < 1 ∨ 8 < k then OpRd.none 5
  else if k = 1 ∨ k = 3 then (if s.size < 4 then OpRd.none 18 else rdEnd k (headN s) 0 (restN s))
  else if k = 2 then (if s.size < 8 then OpRd.none 18 else rdEnd k (headN s) (headN (restN s)) (restN (restN s)))
  else rdEnd k 0 0 s
def readR (s : ByteArray) : OpRd := if h : 0 < s.size then rdKind ((s[0]'h).toNat : Nat) (s.extract 1 s.size) else OpRd.none 18
end Go.Proofs.YtbdfglalohgahaaDoor
namespace Go.Proofs.YtbdfglalohgahaaDoor
open Go.RowKit

/-- What Apply tells: the text, or why there is none. -/
def appE (t : ByteArray) (p : Int) (o n : ByteArray) : ByteArray × Int :=
  if p < 0 ∨ (t.size : Int) < p then (⟨#[]⟩, 3)
  else if ¬ t.extract p.toNat (p.toNat + o.size) = o then (⟨#[]⟩, 8)
  else if (edgeB t.data.toList p.toNat && edgeB t.data.toList (p.toNat + o.size : Nat)) = false then (⟨#[]⟩, 4)
  else if (vldB o.data.toList && vldB n.data.toList) = false then (⟨#[]⟩, 5)
  else if 4096 + o.size < t.size + n.size then (⟨#[]⟩, 6)
  else (t.extract 0 p.toNat ++ n ++ t.extract (p.toNat + o.size) t.size, 0)
/-- Where a mark comes to stand. -/
def shiftI (p : Int) (o n : Nat) (a : Int) : Int := if a ≤ p then a else if p + o ≤ a then a - o + n else p

theorem appE_range {t o n : ByteArray} {p : Int} (h : p < 0 ∨ (t.size : Int) < p) : appE t p o n = (⟨#[]⟩, 3) := by unfold appE; rw [if_pos h]
theorem appE_none {t o n : ByteArray} {k : Nat} (hk : k ≤ t.size) (h : ¬ t.extract k (k + o.size) = o) : appE t k o n = (⟨#[]⟩, 8) := by
  unfold appE
  rw [if_neg (by omega), if_pos (by simpa using h)]
theorem appE_split {t o n : ByteArray} {k : Nat} (hk : k ≤ t.size) (h : t.extract k (k + o.size) = o) (he : edgeB t.data.toList k = false ∨ edgeB t.data.toList (k + o.size : Nat) = false) : appE t k o n = (⟨#[]⟩, 4) := by
  unfold appE
  rw [if_neg (by omega), if_neg (by simpa using h), if_pos]
  simp only [Int.toNat_natCast, Bool.and_eq_false_iff]
  exact he
theorem appE_form {t o n : ByteArray} {k : Nat} (hk : k ≤ t.size) (h : t.extract k (k + o.size) = o) (h1 : edgeB t.data.toList k = true) (h2 : edgeB t.data.toList (k + o.size : Nat) = true)
    (hv : vldB o.data.toList = false ∨ vldB n.data.toList = false) : appE t k o n = (⟨#[]⟩, 5) := by
  unfold appE
  rw [if_neg (by omega), if_neg (by simpa using h), if_neg (by simp only [Int.toNat_natCast]; rw [h1, h2]; decide), if_pos]
  simp only [Bool.and_eq_false_iff]
  exact hv
theorem appE_long {t o n : ByteArray} {k : Nat} (hk : k ≤ t.size) (h : t.extract k (k + o.size) = o) (h1 : edgeB t.data.toList k = true) (h2 : edgeB t.data.toList (k + o.size : Nat) = true)
    (v1 : vldB o.data.toList = true) (v2 : vldB n.data.toList = true) (hl : 4096 + o.size < t.size + n.size) : appE t k o n = (⟨#[]⟩, 6) := by
  unfold appE
  rw [if_neg (by omega), if_neg (by simpa using h), if_neg (by simp only [Int.toNat_natCast]; rw [h1, h2]; decide), if_neg (by rw [v1, v2]; decide), if_pos hl]
theorem appE_ok {t o n : ByteArray} {k : Nat} (hk : k ≤ t.size) (h : t.extract k (k + o.size) = o) (h1 : edgeB t.data.toList k = true) (h2 : edgeB t.data.toList (k + o.size : Nat) = true)
    (v1 : vldB o.data.toList = true) (v2 : vldB n.data.toList = true) (hl : ¬ 4096 + o.size < t.size + n.size) : appE t k o n = (t.extract 0 k ++ n ++ t.extract (k + o.size) t.size, 0) := by
  unfold appE
  rw [if_neg (by omega), if_neg (by simpa using h), if_neg (by simp only [Int.toNat_natCast]; rw [h1, h2]; decide), if_neg (by rw [v1, v2]; decide), if_neg hl]
  simp
/-- What is applied lies within the text. -/
theorem stands_le {t o : ByteArray} {k : Nat} (hk : k ≤ t.size) (h : t.extract k (k + o.size) = o) : k + o.size ≤ t.size := by
  have := congrArg ByteArray.size h
  rw [ByteArray.size_extract] at this
  omega
theorem edgeB_iff (l : List UInt8) (k : Nat) : edgeB l k = true ↔ edge l k := by unfold edgeB; simp

/-- The one way that an edit is applied. -/
theorem appE_zero {t o n s : ByteArray} {p : Int} (h : appE t p o n = (s, 0)) :
    ∃ k : Nat, p = k ∧ k ≤ t.size ∧ t.extract k (k + o.size) = o ∧ edgeB t.data.toList k = true ∧ edgeB t.data.toList (k + o.size : Nat) = true ∧ vldB o.data.toList = true ∧ vldB n.data.toList = true ∧ ¬ 4096 + o.size < t.size + n.size ∧ s = t.extract 0 k ++ n ++ t.extract (k + o.size) t.size := by
  by_cases hp : p < 0 ∨ (t.size : Int) < p
  · rw [appE_range hp] at h; cases h
  obtain ⟨k, rfl⟩ := Int.eq_ofNat_of_zero_le (show 0 ≤ p by omega)
  have hk : k ≤ t.size := by omega
  refine ⟨k, rfl, hk, ?_⟩
  by_cases ho : t.extract k (k + o.size) = o
  case neg => rw [appE_none hk ho] at h; cases h
  cases h1 : edgeB t.data.toList k
  · rw [appE_split hk ho (.inl h1)] at h; cases h
  cases h2 : edgeB t.data.toList (k + o.size : Nat)
  · rw [appE_split hk ho (.inr h2)] at h; cases h
  cases v1 : vldB o.data.toList
  · rw [appE_form hk ho h1 h2 (.inl v1)] at h; cases h
  cases v2 : vldB n.data.toList
  · rw [appE_form hk ho h1 h2 (.inr v2)] at h; cases h
  by_cases hl : 4096 + o.size < t.size + n.size
  · rw [appE_long hk ho h1 h2 v1 v2 hl] at h; cases h
  rw [appE_ok hk ho h1 h2 v1 v2 hl] at h
  refine ⟨ho, rfl, rfl, rfl, rfl, hl, ?_⟩
  have := congrArg Prod.fst h
  exact this.symm
/-- A text is there, or none: nothing is told beside an error. -/
theorem appE_empty {t o n : ByteArray} {p : Int} (h : (appE t p o n).2 ≠ 0) : (appE t p o n).1 = ⟨#[]⟩ := by
  unfold appE at h ⊢
  split
  · rfl
  split
  · rfl
  split
  · rfl
  split
  · rfl
  split
  · rfl
  rename_i a b c d e
  rw [if_neg a, if_neg b, if_neg c, if_neg d, if_neg e] at h
  exact absurd rfl h

/-- The text in three: what stands ahead of the edit, what goes, and what stands behind it. -/
theorem in_three {t o : ByteArray} {k : Nat} (hk : k ≤ t.size) (h : t.extract k (k + o.size) = o) : t.extract 0 k ++ o ++ t.extract (k + o.size) t.size = t := by
  have hle := stands_le hk h
  have e : t.extract 0 k ++ o = t.extract 0 (k + o.size) := by
    apply str_ext
    have ho := congrArg (fun x => x.data.toList) h
    simp only [extract_list, Nat.sub_zero, List.drop_zero, app_list] at ho ⊢
    conv => lhs; rw [← ho]
    rw [show k + o.size - k = o.size by omega, ← List.take_append_drop k (t.data.toList.take (k + o.size))]
    congr 1
    · rw [List.take_take, Nat.min_eq_left (by omega)]
    · rw [List.drop_take, show k + o.size - k = o.size by omega]
  rw [e]
  apply str_ext
  simp only [extract_list, Nat.sub_zero, List.drop_zero, app_list]
  have hlen : t.data.toList.length = t.size := by simp
  rw [List.take_of_length_le (l := t.data.toList.drop _) (by rw [List.length_drop]; omega), List.take_append_drop]

/-- Ahead of a cut and behind it. -/
theorem edge_ahead {a b c : List UInt8} {k : Nat} (hk : k ≤ a.length) (h : edge (a ++ b) k) (hc : clean c) : edge (a ++ c) k := by
  rcases Nat.lt_or_ge k a.length with hlt | hge
  · unfold edge at h ⊢
    rcases h with h | h | ⟨h, h1⟩
    · exact .inl h
    · exfalso; rw [List.length_append] at h; omega
    · refine .inr (.inr ⟨by rw [List.length_append]; omega, ?_⟩)
      rw [bt_app_lt _ _ _ hlt] at h1 ⊢
      exact h1
  · obtain rfl : k = a.length := by omega
    rcases hc with rfl | hc
    · exact .inr (.inl (by simp))
    · by_cases hz : c = []
      · subst hz; exact .inr (.inl (by simp))
      · refine .inr (.inr ⟨by rw [List.length_append]; have := len_pos hz; omega, ?_⟩)
        rw [bt_app_ge _ _ _ (Nat.le_refl _), Nat.sub_self]
        exact hc
theorem edge_behind {a b c : List UInt8} {k : Nat} (h : edge (a ++ b) (a.length + k)) (hb : clean b) (hz : k ≤ b.length) : edge (c ++ b) (c.length + k) := by
  rcases Nat.lt_or_ge k b.length with hlt | hge
  · refine .inr (.inr ⟨by rw [List.length_append]; omega, ?_⟩)
    rw [bt_app_ge _ _ _ (by omega), show c.length + k - c.length = k by omega]
    rcases h with h | h | ⟨_, h⟩
    · obtain rfl : k = 0 := by omega
      rcases hb with rfl | hb
      · simp at hlt
      · exact hb
    · rw [List.length_append] at h; omega
    · rw [bt_app_ge _ _ _ (by omega), show a.length + k - a.length = k by omega] at h
      exact h
  · exact .inr (.inl (by rw [List.length_append]; omega))
end Go.Proofs.YtbdfglalohgahaaDoor
