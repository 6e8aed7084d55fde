/-
  Contracts of the program's short, Fits, Half, Tight (layer 15).
-/
import Derived.Test.YtephlcdanokolaaChunkRef2
namespace Go.Proofs.Ytephlcdanokolaa
open Go.RowKit
set_option linter.unusedVariables false

theorem empty_yes {s : ByteArray} (h : s.size = 0) : s = ⟨#[]⟩ := by
  apply str_ext
  rw [List.eq_nil_of_length_eq_zero (l := s.data.toList) (by simpa using h)]
theorem toList_ne {s : ByteArray} (h : 1 ≤ s.size) : (s.toList != []) = true := by
  have e := isEmpty_size s
  rw [decide_eq_false (by omega)] at e
  cases hl : s.toList with
  | nil => rw [hl] at e; cases e
  | cons a l => rfl
theorem toList_isEmpty {s : ByteArray} (h : 1 ≤ s.size) : s.toList.isEmpty = false := by
  rw [isEmpty_size]; exact decide_eq_false (by omega)

set_option maxRecDepth 100000 in
theorem short_yes (s : ByteArray) (h : s.size ≤ 16) (w : World) :
    Calls Try.prog 73 #[.string s] w fun e w' => e = .returned (.bool true) ∧ w = w' := by
  go_enter Try.func73, Try.ntmps73
  go_wp2
  go_ret
  exact ⟨ret_bool (by simp; omega), rfl⟩
set_option maxRecDepth 100000 in
theorem short_no (s : ByteArray) (h : ¬ s.size ≤ 16) (w : World) :
    Calls Try.prog 73 #[.string s] w fun e w' => e = .returned (.bool false) ∧ w = w' := by
  go_enter Try.func73, Try.ntmps73
  go_wp2
  go_ret
  exact ⟨ret_bool (by simp; omega), rfl⟩

set_option maxRecDepth 100000 in
set_option maxHeartbeats 400000 in
theorem fits_any (s : ByteArray) (hs : s.size ≤ maxLen) (w : World) :
    Calls Try.prog 72 #[.string s] w fun e w' => e = .returned (.bool (fitsB s)) ∧ Below w.heap.size w w' := by
  have hv := valid_any s hs
  by_cases h1 : 1 ≤ s.size
  · have t1 := toList_ne h1
    have t2 := toList_isEmpty h1
    by_cases h2 : s.size ≤ 16
    · rw [fits_mid s h1 h2]
      have c1 := short_yes s h2
      obtain ⟨b, hb⟩ : ∃ b, vldB s.data.toList = b := ⟨_, rfl⟩
      rw [hb] at hv ⊢
      have HV := Lib.hid hv; have C1 := Lib.hid c1; clear hv hb c1
      go_enter Try.func72, Try.ntmps72
      go_wp2_with fail
      refine (C1.out _).mono ?_; rintro e w' ⟨rfl, rfl⟩
      go_wp2_with fail
      refine (HV.out _).mono ?_; rintro e w' ⟨rfl, hb1⟩
      go_wp2
      go_ret
      exact ⟨ret_bool (by simp), hb1⟩
    · rw [fits_long s h2]
      have c1 := short_no s h2
      have C1 := Lib.hid c1
      clear hv c1
      go_enter Try.func72, Try.ntmps72
      go_wp2_with fail
      refine (C1.out _).mono ?_; rintro e w' ⟨rfl, rfl⟩
      go_wp2
      go_ret
      exact ⟨ret_bool (by simp), Below.refl _ _⟩
  · rw [fits_short s h1]
    obtain rfl := empty_yes (s := s) (by omega)
    clear hv h1
    go_enter Try.func72, Try.ntmps72
    go_wp2
    go_ret
    exact ⟨ret_bool (by simp), Below.refl _ _⟩

set_option maxRecDepth 100000 in
set_option maxHeartbeats 400000 in
theorem half_any (s : ByteArray) (hs : s.size ≤ 1000000) (w : World) :
    Calls Try.prog 80 #[.string s] w fun e w' => e = .returned (.tuple #[.string (s.extract 0 (halfN s)), .string (s.extract (halfN s) s.size)]) ∧ Below w.heap.size w w' := by
  have hb := back_any s (by unfold maxLen; omega) ((s.size : Int) - (s.size : Int) / 2)
  have e : backI s.data.toList ((s.size : Int) - (s.size : Int) / 2) = halfN s := by
    rw [show (s.size : Int) - (s.size : Int) / 2 = (((s.size + 1) / 2 : Nat) : Int) by omega, backI_nat _ _ (by simp; omega)]
    rfl
  rw [e] at hb
  have hn := halfN_le s
  obtain ⟨n, hh⟩ : ∃ n, halfN s = n := ⟨_, rfl⟩
  rw [hh] at hb hn ⊢
  have HB := Lib.hid hb; clear hb hh e
  go_enter Try.func80, Try.ntmps80
  go_wp2_with fail
  refine (HB.out _).mono ?_; rintro e w' ⟨rfl, rfl⟩
  go_wp2
  go_quiet (fail)
  go_wp2
  go_ret2
  exact ⟨rfl, drewN_below (Below.refl _ _) _⟩

set_option maxRecDepth 100000 in
set_option maxHeartbeats 1600000 in
theorem tight_any (a : Option Addr) (l : List ByteArray) (c : Nat) (w : World) (h1 : StrsH w a l) (hl : l.length ≤ 1000000) (hz : ∀ (k : Nat) (h : k < l.length), l[k].size ≤ 1000000) :
    Calls Try.prog 51 #[.slice a l.length c] w (RetTight w l) := by
  obtain ⟨n, hn⟩ : ∃ n, l.length = n := ⟨_, rfl⟩
  rw [hn] at hl ⊢
  have HN := Lib.hid hn; have H1 := Lib.hid h1; have HZ := Lib.hid hz
  clear hn h1 hz
  go_enter Try.func51, Try.ntmps51
  go_wp2
  go_loopw [7] (fun i wr => ∃ k : Nat, k ≤ n ∧ i = .int .i64 k ∧ TightUp l k ∧ Below w.heap.size w wr) (fun i _ => n - (intOf i).toNat)
  case atStart => exact ⟨0, Nat.zero_le _, rfl, fun i _ h => absurd h (Nat.not_lt_zero i), Below.refl _ _⟩
  case round =>
    obtain ⟨k, hk, rfl, hT, hbel⟩ := hrel
    by_cases hlt : k < n
    · have hkl : k < l.length := by rw [HN.out]; exact hlt
      obtain ⟨ad, rfl, hab, q0⟩ := (H1.out.on hbel) k hkl
      have hzx := HZ.out k hkl
      have cf := fits_any (l[k]'hkl) (by unfold maxLen; omega)
      cases k with
      | zero =>
        have hst := tight_zero hkl rfl
        rw [show ((0 : Nat) : Int) = 0 from rfl]
        obtain ⟨x, hx⟩ : ∃ x, l[0]'hkl = x := ⟨_, rfl⟩
        rw [hx] at q0 cf hst
        have hq : wr.cell? ad = some (.string x) := by simpa [Addr.add] using q0
        have HST := Lib.hid hst; have HBEL := Lib.hid hbel
        have b1 : (0 : Int) < (n : Int) := by omega
        clear hx hab q0 hT hbel hst hzx hkl hk
        by_cases hf : fitsB x = true
        · rw [hf] at cf
          have CF := Lib.hid cf; have HT := Lib.hid (HST.out.1 hf)
          clear cf hf
          go_wp2_with fail
          refine (CF.out _).mono ?_; rintro e w3 ⟨rfl, hb2⟩
          have HB2 := Lib.hid (HBEL.out.trans (hb2.mono HBEL.out.size))
          clear hb2
          go_wp2
          go_roundw
          case rel => exact ⟨1, by omega, by first | rfl | go_num, HT.out, HB2.out⟩
          case measure => simp [intOf]; omega
        · have hf : fitsB x = false := Bool.eq_false_iff.2 hf
          rw [hf] at cf
          have CF := Lib.hid cf; have HT := Lib.hid (HST.out.2 hf)
          clear cf hf
          go_wp2_with fail
          refine (CF.out _).mono ?_; rintro e w3 ⟨rfl, hb2⟩
          have HB2 := Lib.hid (HBEL.out.trans (hb2.mono HBEL.out.size))
          clear hb2
          go_wp2
          go_ret
          exact ⟨false, rfl, ⟨(fun h => Bool.noConfusion h), fun h => absurd h HT.out⟩, HB2.out⟩
      | succ j =>
        obtain ⟨ad2, had, hab2, r0⟩ := (H1.out.on hbel) j (by omega)
        obtain rfl : ad = ad2 := by cases had; rfl
        have hzy := HZ.out j (by omega)
        have hst := tight_step hT hkl rfl rfl
        obtain ⟨x, hx⟩ : ∃ x, l[j + 1]'hkl = x := ⟨_, rfl⟩
        obtain ⟨y, hy⟩ : ∃ y, l[j]'(by omega) = y := ⟨_, rfl⟩
        rw [hx] at q0 hzx cf hst
        rw [hy] at r0 hzy hst
        have hq : wr.cell? ⟨ad.block, ad.off + (j + 1), none⟩ = some (.string x) := by simpa [Addr.add] using q0
        have HC := Lib.hid (show C2 w ⟨ad.block, ad.off + (j + 1), none⟩ (ad.add j) (.string x) (.string y) wr from ⟨hbel, hq, r0⟩)
        have hB1 : ad.block < wr.heap.size := hab
        have hB2 : (ad.add j).block < wr.heap.size := by rw [add_block]; exact hab
        have HB1 := Lib.hid hB1; have HB2 := Lib.hid hB2; have HST := Lib.hid hst
        rw [show ((j + 1 : Nat) : Int) = (j : Int) + 1 from rfl]
        have b2 : (0 : Int) ≤ (j : Int) := by omega
        have b3 : (j : Int) < (n : Int) := by omega
        have b4 : (j : Int) + 1 < (n : Int) := by omega
        have b5 : (0 : Int) ≤ (j : Int) + 1 := by omega
        have b6 : (0 : Int) < (j : Int) + 1 := by omega
        have b7 : y.size + x.size ≤ 9223372036854775807 := by omega
        clear hx hy had hab hab2 q0 r0 hT hB1 hB2 hbel hst hzx hzy hkl hk
        by_cases hf : fitsB x = true
        · rw [hf] at cf
          have CF := Lib.hid cf
          clear cf
          by_cases hp : y.size + x.size ≤ 16
          · have HT := Lib.hid (HST.out.2.2 hp)
            have c2 := short_yes (y ++ x) (by rw [ByteArray.size_append]; exact hp)
            have C2 := Lib.hid c2
            clear hf c2
            go_wp2_with fail
            refine (CF.out _).mono ?_; rintro e w3 ⟨rfl, hb2⟩
            have HC2 := Lib.hid (HC.out.on HB1.out HB2.out hb2)
            have q1 := HC2.out.q
            clear hb2 hq
            go_wp2_with fail
            refine (C2.out _).mono ?_; rintro e w4 ⟨rfl, rfl⟩
            go_wp2
            go_ret
            exact ⟨false, rfl, ⟨(fun h => Bool.noConfusion h), fun h => absurd h HT.out⟩, HC2.out.B⟩
          · have HT := Lib.hid (HST.out.1 hf (by omega))
            have c2 := short_no (y ++ x) (by rw [ByteArray.size_append]; exact hp)
            have C2 := Lib.hid c2
            clear hf c2
            go_wp2_with fail
            refine (CF.out _).mono ?_; rintro e w3 ⟨rfl, hb2⟩
            have HC2 := Lib.hid (HC.out.on HB1.out HB2.out hb2)
            have q1 := HC2.out.q
            clear hb2 hq
            go_wp2_with fail
            refine (C2.out _).mono ?_; rintro e w4 ⟨rfl, rfl⟩
            go_wp2
            go_roundw
            case rel => exact ⟨j + 1 + 1, by omega, by go_num, HT.out, HC2.out.B⟩
            case measure => simp [intOf]; omega
        · have hf : fitsB x = false := Bool.eq_false_iff.2 hf
          rw [hf] at cf
          have CF := Lib.hid cf; have HT := Lib.hid (HST.out.2.1 hf)
          clear cf hf
          go_wp2_with fail
          refine (CF.out _).mono ?_; rintro e w3 ⟨rfl, hb2⟩
          have HC2 := Lib.hid (HC.out.on HB1.out HB2.out hb2)
          clear hb2 hq
          go_wp2
          go_ret
          exact ⟨false, rfl, ⟨(fun h => Bool.noConfusion h), fun h => absurd h HT.out⟩, HC2.out.B⟩
    · obtain rfl : k = n := by omega
      have HT := Lib.hid (tightUp_all hT (by rw [HN.out]; exact Nat.le_refl _)); have HBEL := Lib.hid hbel
      clear hT hbel
      go_wp2
      go_ret
      exact ⟨true, rfl, ⟨fun _ => HT.out, fun _ => rfl⟩, HBEL.out⟩
end Go.Proofs.Ytephlcdanokolaa
