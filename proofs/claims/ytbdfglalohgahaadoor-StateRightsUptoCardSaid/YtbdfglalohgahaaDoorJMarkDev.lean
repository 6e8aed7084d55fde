/-
  Joined: MarkDev, MarkDev2.
-/
import Derived.Test.YtbdfglalohgahaaDoorJMarkMath
import Derived.Test.YtbdfglalohgahaaDoorOpDev
import Derived.BigQuiet
import Derived.Deep.DeepCutAuto
import Derived.Deep.QuietTactic
import Derived.WalkLawsBesides
import Derived.Lib.MinMax
namespace Go.Proofs.YtbdfglalohgahaaDoor
open Go.RowKit
set_option linter.unusedVariables false

theorem far_u (x y : Int) (h1 : -4611686018427387904 ≤ x ∧ x ≤ 4611686018427387904) (h2 : -4611686018427387904 ≤ y ∧ y ≤ 4611686018427387904) : ((max x y) % 18446744073709551616 - (min x y) % 18446744073709551616) % 18446744073709551616 = ((x - y).natAbs : Int) := by omega
end Go.Proofs.YtbdfglalohgahaaDoor
namespace Go.Proofs.YtbdfglalohgahaaDoor
open Go.RowKit
set_option linter.unusedVariables false

theorem rise_ge {l : List Mrk} {j : Nat} (h : nleB (l[j + 1]!).name (l[j]!).name = true) : Op.bytesLess (l[j]!).name.toList (l[j + 1]!).name.toList = false := by
  rw [← ngeB] at h
  simpa using h
theorem rise_lss {l : List Mrk} {j : Nat} (h : nleB (l[j + 1]!).name (l[j]!).name = false) : Op.bytesLess (l[j]!).name.toList (l[j + 1]!).name.toList = true := by
  rw [← ngeB] at h
  simpa using h
theorem rightM_rise {l : List Mrk} {t : ByteArray} (h : riseM l = false) : rightM l t = false := by
  unfold rightM
  rw [h, Bool.and_false, Bool.and_false]
theorem rightM_many {l : List Mrk} {t : ByteArray} (h : ¬ l.length ≤ 16) : rightM l t = false := by
  unfold rightM
  rw [decide_eq_false h, Bool.false_and, Bool.and_false]

set_option maxRecDepth 100000 in
set_option maxHeartbeats 1600000 in
theorem mright_any (a : Option Addr) (l : List Mrk) (c : Nat) (t : ByteArray) (B : Nat → Prop) (w : World) (hr : Mrks w B a l) (hB : ∀ b, B b → b < w.heap.size) (hf : ∀ x ∈ l, x.name.size ≤ maxLen) (ht : t.size ≤ maxLen) (hl : l.length ≤ 1000000) :
    Calls Tryd.prog 21 #[.slice a l.length c, .string t] w fun e w' => e = .returned (.bool (rightM l t)) ∧ Below w.heap.size w w' := by
  by_cases h16 : l.length ≤ 16
  case neg =>
    rw [rightM_many h16]
    obtain ⟨n, hn⟩ : ∃ n, l.length = n := ⟨_, rfl⟩
    rw [hn] at h16 ⊢
    have h1 : (16 : Int) < (n : Int) := by omega
    clear hr hn
    go_enter Tryd.func21, Tryd.ntmps21
    go_wp2
    go_ret
    exact ⟨rfl, Below.refl _ _⟩
  obtain ⟨n, hn⟩ : ∃ n, l.length = n := ⟨_, rfl⟩
  rw [hn] at h16 ⊢
  have HN := Lib.hid hn; have HR := Lib.hid hr; have HFI := Lib.hid hf
  obtain ⟨r, hfr⟩ : ∃ r, rightM l t = r := ⟨_, rfl⟩
  rw [hfr]
  have HF := Lib.hid hfr
  have h1 : ¬ (16 : Int) < (n : Int) := by omega
  clear hn hr hf hfr hl
  go_enter Tryd.func21, Tryd.ntmps21
  go_wp2
  go_loopw [12] (fun i wr => ∃ k : Nat, k ≤ n ∧ i = .int .i64 k ∧ Hid (∀ j, j < k → okM t l[j]! = true) ∧ Hid (∀ j, j + 1 < k → nleB (l[j + 1]!).name (l[j]!).name = false) ∧ Below w.heap.size w wr) (fun i _ => n - (intOf i).toNat)
  case atStart => exact ⟨0, Nat.zero_le _, rfl, Lib.hid (fun j hj => absurd hj (Nat.not_lt_zero _)), Lib.hid (fun j hj => absurd hj (Nat.not_lt_zero _)), Below.refl _ _⟩
  case round =>
    obtain ⟨k, hk, rfl, hall, hris, hbel⟩ := hrel
    by_cases hlt : k < n
    · have hkl : k < l.length := by rw [HN.out]; exact hlt
      obtain ⟨ad, rfl, hab, q0, q1⟩ := (HR.out.below hB hbel) k hkl
      have hsz := HFI.out _ (List.getElem_mem hkl)
      rw [← mget hkl] at q0 q1 hsz
      have hyes := ok_more (t := t) hall.out
      have hno := rightM_off (t := t) hkl
      rw [HF.out] at hno
      have hok : okM t l[k]! = (markB (l[k]!).name.data.toList && edgeB t.data.toList (l[k]!).p) := rfl
      have HX := Lib.hid (show l[k]! = l[k]! from rfl)
      obtain ⟨nm, hnm⟩ : ∃ x, (l[k]!).name = x := ⟨_, rfl⟩
      obtain ⟨id, hid⟩ : ∃ x, (l[k]!).p = x := ⟨_, rfl⟩
      rw [hnm] at q0 hsz hok
      rw [hid] at q1 hok
      have HNM := Lib.hid hnm
      have c1 := omay_any nm hsz
      have c2 := edge_any t ht id
      have HB1 := Lib.hid (hbel.alloc hbel.size (.cells #[.string nm, .int .i64 id] 34))
      have HY := Lib.hid hyes; have HNO := Lib.hid hno; have HOK := Lib.hid hok
      have b0 : (0 : Int) ≤ (k : Int) := by omega
      have b1 : (k : Int) < (n : Int) := by omega
      clear hyes hno hok hall HX hnm hid hsz
      cases m1 : markB nm.data.toList
      · rw [m1] at c1
        have h0 := HNO.out (by rw [HOK.out, m1]; rfl)
        subst h0
        have C1 := Lib.hid c1
        clear c1 c2 m1 HNO HOK HY hbel
        go_wp2_with (go_at_call 54; refine (C1.out _).mono ?_; rintro e w1 ⟨rfl, rfl⟩)
        go_ret
        exact ⟨rfl, HB1.out⟩
      · cases m2 : edgeB t.data.toList id
        · rw [m1] at c1
          rw [m2] at c2
          have h0 := HNO.out (by rw [HOK.out, m1, m2]; rfl)
          subst h0
          have C1 := Lib.hid c1; have C2 := Lib.hid c2
          clear c1 c2 m1 m2 HNO HOK HY hbel
          go_wp2_with (first
            | (go_at_call 54; refine (C1.out _).mono ?_; rintro e w1 ⟨rfl, rfl⟩)
            | (go_at_call 55; refine (C2.out _).mono ?_; rintro e w1 ⟨rfl, rfl⟩))
          go_ret
          exact ⟨rfl, HB1.out⟩
        · rw [m1] at c1
          rw [m2] at c2
          have HY2 := Lib.hid (HY.out (by rw [HOK.out, m1, m2]; rfl))
          have C1 := Lib.hid c1; have C2 := Lib.hid c2
          clear c1 c2 m1 m2 HNO HOK HY
          cases k with
          | zero =>
            have g0 : decide ((0 : Int) < 0) = false := rfl
            have q2 : wr.cell? ad = some (.string nm) := by simpa [Addr.add] using q0
            have q3 : wr.cell? ⟨ad.block, ad.off + 1, none⟩ = some (.int .i64 id) := by simpa [Addr.add] using q1
            rw [show ((0 : Nat) : Int) = 0 from rfl]
            clear hbel q0 q1
            go_wp2_with (first
              | (go_at_call 54; refine (C1.out _).mono ?_; rintro e w1 ⟨rfl, rfl⟩)
              | (go_at_call 55; refine (C2.out _).mono ?_; rintro e w1 ⟨rfl, rfl⟩))
            go_quiet (fail)
            have hb3 := drewN_below HB1.out nq
            generalize (wr.alloc (.cells #[.string nm, .int .i64 id] 34)).drewN nq = wx at hb3 ⊢
            go_wp2
            go_roundw
            case rel => exact ⟨1, by omega, rfl, HY2, Lib.hid (fun j hj => absurd hj (by omega)), hb3⟩
            case measure => simp [intOf]; omega
          | succ j =>
            have hjl : j < l.length := by omega
            obtain ⟨ad', e', hab', r0, -⟩ := (HR.out.below hB HB1.out) j hjl
            obtain rfl : ad = ad' := by injection e'
            rw [← mget hjl] at r0
            have hms := fun h => rise_more (l := l) (k := j) (fun i hi => hris.out i hi) h
            have hge := rise_ge (l := l) (j := j)
            have hls := rise_lss (l := l) (j := j)
            have hof := fun h => rightM_rise (t := t) (riseM_no (l := l) (i := j) hkl h)
            rw [HF.out] at hof
            rw [HNM.out] at hge hls hof hms
            obtain ⟨pn, hpn⟩ : ∃ x, (l[j]!).name = x := ⟨_, rfl⟩
            rw [hpn] at r0 hge hls hof hms
            rw [show ((j + 1 : Nat) : Int) = (j : Int) + 1 from rfl] at b0 b1 ⊢
            have d0 : (0 : Int) ≤ (j : Int) := by omega
            have d1 : (j : Int) < (n : Int) := by omega
            have g0 : decide ((0 : Int) < (j : Int) + 1) = true := decide_eq_true (by omega)
            have g1 : (0 : Int) < (j : Int) + 1 := by omega
            have e0 : ((j : Int) + 1).toNat = j + 1 := by omega
            have ew : IntKind.i64.wrap (j : Int) = (j : Int) := by rw [IntKind.wrap_i64]; omega
            have ew1 : IntKind.i64.wrap ((j : Int) + 1) = (j : Int) + 1 := by rw [IntKind.wrap_i64]; omega
            cases hle : nleB nm pn
            · have hb1 := hls hle
              have HM := Lib.hid (hms hle)
              clear hge hls hof hms hle hbel hpn hris
              go_wp2_with (first
                | (go_at_call 54; refine (C1.out _).mono ?_; rintro e w1 ⟨rfl, rfl⟩)
                | (go_at_call 55; refine (C2.out _).mono ?_; rintro e w1 ⟨rfl, rfl⟩))
              go_quiet (fail)
              have hb3 := drewN_below HB1.out nq
              clear q0 q1 r0
              generalize (wr.alloc (.cells #[.string nm, .int .i64 id] 34)).drewN nq = wx at hb3 ⊢
              go_wp2
              go_roundw
              case rel => exact ⟨j + 2, by omega, by go_num, HY2, HM, hb3⟩
              case measure => simp [intOf]; omega
            · have hb1 := hge hle
              have h0 := hof hle
              subst h0
              clear hge hls hof hms hle hbel hpn hris
              go_wp2_with (first
                | (go_at_call 54; refine (C1.out _).mono ?_; rintro e w1 ⟨rfl, rfl⟩)
                | (go_at_call 55; refine (C2.out _).mono ?_; rintro e w1 ⟨rfl, rfl⟩))
              go_quiet (fail)
              go_wp2
              go_ret
              exact ⟨rfl, drewN_below HB1.out _⟩
    · obtain rfl : k = n := by omega
      have h0 : r = true := by
        rw [← HF.out, rightM_iff]
        exact ⟨fun i hi => hall.out i (by rw [← HN.out]; exact hi), by rw [HN.out]; omega, (riseM_iff l).2 fun i hi => hris.out i (by rw [← HN.out]; exact hi)⟩
      subst h0
      clear hall hris
      go_wp2
      go_ret
      exact ⟨rfl, hbel⟩
end Go.Proofs.YtbdfglalohgahaaDoor
