/-
  The laws on marks (layer 22): MarksNears. (Written by gen_lawnear22.py.)
-/
import Derived.Test.YtimlfgjljnkbcaaLawMark2
import Derived.Test.YtimlfgjljnkbcaaMarkDev5
import Derived.Test.YtimlfgjljnkbcaaMarkDev6
namespace Go.Proofs.Ytimlfgjljnkbcaa
open Go.RowKit
set_option linter.unusedVariables false

set_option maxRecDepth 100000 in
set_option maxHeartbeats 3200000 in
theorem marksNears_f0 (a : Option Addr) (n c : Nat) (f t : Int) (w : World) (h1 : ¬ n ≤ 40) :
    Calls Try.prog 6 #[.slice a n c, .int .i64 f, .int .i64 t] w fun e w' => e = .returned (.bool true) ∧ Below w.heap.size w w' := by
  have cfew := few_any a n c
  rw [decide_eq_false h1] at cfew
  have CF := Lib.hid cfew
  clear cfew h1
  go_enter Try.func6, Try.ntmps6
  go_wp2_with (first | (go_at_call 7; refine (CF.out _).mono ?_; rintro e w1 ⟨rfl, rfl⟩) | (go_at_call 8; refine (lives22_any _).mono ?_; rintro e w2 ⟨rfl, hb2⟩))
  go_ret
  exact ⟨rfl, hb2⟩

set_option maxRecDepth 100000 in
set_option maxHeartbeats 3200000 in
theorem marksNears_f1 (a : Option Addr) (n c : Nat) (f t : Int) (w : World) (h1 : n ≤ 40) (h2 : f < 0) :
    Calls Try.prog 6 #[.slice a n c, .int .i64 f, .int .i64 t] w fun e w' => e = .returned (.bool true) ∧ Below w.heap.size w w' := by
  have cfew := few_any a n c
  rw [decide_eq_true h1] at cfew
  have CF := Lib.hid cfew
  clear cfew h1
  go_enter Try.func6, Try.ntmps6
  go_wp2_with (first | (go_at_call 7; refine (CF.out _).mono ?_; rintro e w1 ⟨rfl, rfl⟩) | (go_at_call 8; refine (lives22_any _).mono ?_; rintro e w2 ⟨rfl, hb2⟩))
  go_ret
  exact ⟨rfl, hb2⟩

set_option maxRecDepth 100000 in
set_option maxHeartbeats 3200000 in
theorem marksNears_f2 (a : Option Addr) (n c : Nat) (f t : Int) (w : World) (h1 : n ≤ 40) (h2 : ¬ f < 0) (h3 : 4096 < f) :
    Calls Try.prog 6 #[.slice a n c, .int .i64 f, .int .i64 t] w fun e w' => e = .returned (.bool true) ∧ Below w.heap.size w w' := by
  have cfew := few_any a n c
  rw [decide_eq_true h1] at cfew
  have CF := Lib.hid cfew
  clear cfew h1
  go_enter Try.func6, Try.ntmps6
  go_wp2_with (first | (go_at_call 7; refine (CF.out _).mono ?_; rintro e w1 ⟨rfl, rfl⟩) | (go_at_call 8; refine (lives22_any _).mono ?_; rintro e w2 ⟨rfl, hb2⟩))
  go_ret
  exact ⟨rfl, hb2⟩

set_option maxRecDepth 100000 in
set_option maxHeartbeats 3200000 in
theorem marksNears_f3 (a : Option Addr) (n c : Nat) (f t : Int) (w : World) (h1 : n ≤ 40) (h2 : ¬ f < 0) (h3 : ¬ 4096 < f) (h4 : t < 0) :
    Calls Try.prog 6 #[.slice a n c, .int .i64 f, .int .i64 t] w fun e w' => e = .returned (.bool true) ∧ Below w.heap.size w w' := by
  have cfew := few_any a n c
  rw [decide_eq_true h1] at cfew
  have CF := Lib.hid cfew
  clear cfew h1
  go_enter Try.func6, Try.ntmps6
  go_wp2_with (first | (go_at_call 7; refine (CF.out _).mono ?_; rintro e w1 ⟨rfl, rfl⟩) | (go_at_call 8; refine (lives22_any _).mono ?_; rintro e w2 ⟨rfl, hb2⟩))
  go_ret
  exact ⟨rfl, hb2⟩

set_option maxRecDepth 100000 in
set_option maxHeartbeats 3200000 in
theorem marksNears_f4 (a : Option Addr) (n c : Nat) (f t : Int) (w : World) (h1 : n ≤ 40) (h2 : ¬ f < 0) (h3 : ¬ 4096 < f) (h4 : ¬ t < 0) (h5 : 4096 < t) :
    Calls Try.prog 6 #[.slice a n c, .int .i64 f, .int .i64 t] w fun e w' => e = .returned (.bool true) ∧ Below w.heap.size w w' := by
  have cfew := few_any a n c
  rw [decide_eq_true h1] at cfew
  have CF := Lib.hid cfew
  clear cfew h1
  go_enter Try.func6, Try.ntmps6
  go_wp2_with (first | (go_at_call 7; refine (CF.out _).mono ?_; rintro e w1 ⟨rfl, rfl⟩) | (go_at_call 8; refine (lives22_any _).mono ?_; rintro e w2 ⟨rfl, hb2⟩))
  go_ret
  exact ⟨rfl, hb2⟩

set_option maxRecDepth 100000 in
set_option maxHeartbeats 3200000 in
theorem marksNears_in (a : Option Addr) (l : List Mrk) (c : Nat) (f t : Nat) (w : World) (fp : Pcs w ⟨a, l, c⟩) (h1 : l.length ≤ 40) (h2 : f ≤ 4096) (h3 : t ≤ 4096) :
    Calls Try.prog 6 #[.slice a l.length c, .int .i64 f, .int .i64 t] w fun e w' => e = .returned (.bool true) ∧ Below w.heap.size w w' := by
  have cfew := few_any a l.length c
  rw [decide_eq_true h1] at cfew
  have hrow := fun k hk => fp.row k hk
  have c1 := fun (hz : ∀ x ∈ l, 0 ≤ x.p ∧ x.p ≤ 4096) W (hW : Below w.heap.size w W) => mnear_any a l c f h2 W (fp.later hW) h1 hz
  have c2 := fun (hz : ∀ x ∈ l, 0 ≤ x.p ∧ x.p ≤ 4096) W (hW : Below w.heap.size w W) => rnear22_any a l c f h2 _ W (fp.later hW).row (fun _ h => h) h1 hz
  have c3 := fun (hz : ∀ x ∈ l, 0 ≤ x.p ∧ x.p ≤ 4096) W (hW : Below w.heap.size w W) => mbetween_any a l c f t _ W (fp.later hW).row (fun _ h => h) h1 hz
  have c4 := fun W (hW : Below w.heap.size w W) => rbetween22_any a l c f t h3 _ W (fp.later hW).row (fun _ h => h) h1
  have hml : (betM l f t).length ≤ 1000000 := by
    have e := betK_len l f (t + 1 - f)
    have e2 : (t + 1 - f) * l.length ≤ 4097 * 40 := Nat.mul_le_mul (by omega) h1
    show (betK l f (t + 1 - f)).length ≤ 1000000
    omega
  obtain ⟨M, hM⟩ : ∃ M, betM l f t = M := ⟨_, rfl⟩
  rw [hM] at c3 c4 hml
  have c5 := fun (av bv : Option Addr) (cv dv : Nat) W (hav : Mrks W (· < W.heap.size) av M) (hbv : Mrks W (· < W.heap.size) bv M) => same_yes av bv M cv dv W hav hbv hml
  obtain ⟨⟨⟨nn, np⟩, ok⟩, hr⟩ : ∃ r, nearM l (f : Int) = r := ⟨_, rfl⟩
  rw [hr] at c1 c2
  change ∀ (hz : ∀ x ∈ l, 0 ≤ x.p ∧ x.p ≤ 4096) W (hW : Below w.heap.size w W), Calls _ _ _ W fun e w' => e = .returned (.tuple #[.agg #[.string nn, .int .i64 np], .bool ok]) ∧ Below W.heap.size W w' at c1
  change ∀ (hz : ∀ x ∈ l, 0 ≤ x.p ∧ x.p ≤ 4096) W (hW : Below w.heap.size w W), Calls _ _ _ W fun e w' => e = .returned (.tuple #[.agg #[.string nn, .int .i64 np], .bool ok]) ∧ Below W.heap.size W w' at c2
  obtain ⟨n, hn⟩ : ∃ n, l.length = n := ⟨_, rfl⟩
  rw [hn] at cfew c1 c2 c3 c4 h1 ⊢
  have CF := Lib.hid cfew; have C1 := Lib.hid c1; have C2 := Lib.hid c2; have C3 := Lib.hid c3; have C4 := Lib.hid c4; have C5 := Lib.hid c5; have HN := Lib.hid hn; have HR := Lib.hid hrow
  clear cfew c1 c2 c3 c4 c5 hn hrow fp hM hml hr
  have f0 : (0 : Int) ≤ (f : Int) := by omega
  have f1 : (f : Int) ≤ 4096 := by omega
  have t0 : (0 : Int) ≤ (t : Int) := by omega
  have t1 : (t : Int) ≤ 4096 := by omega
  go_enter Try.func6, Try.ntmps6
  go_wp2_with fail
  refine (CF.out _).mono ?_; rintro e w1 ⟨rfl, rfl⟩
  go_wp2
  go_loop [7] (fun i => ∃ k : Nat, k ≤ n ∧ i = .int .i64 k ∧ Hid (∀ j, j < k → 0 ≤ (l[j]!).p ∧ (l[j]!).p ≤ 4096)) (fun i => n - (intOf i).toNat)
  case atStart => exact ⟨0, Nat.zero_le _, rfl, Lib.hid (fun j hj => absurd hj (Nat.not_lt_zero _))⟩
  case round =>
    obtain ⟨k, hk, rfl, hall⟩ := hrel
    by_cases hlt : k < n
    · have hkl : k < l.length := by rw [HN.out]; exact hlt
      obtain ⟨ad, ee, hab, q0, qq⟩ := HR.out k hkl
      have e0 : a = some ad := ee
      subst e0
      have q1 : w.cell? ⟨(ad.add (k * 2)).block, (ad.add (k * 2)).off + 1, none⟩ = some (.int .i64 (l[k]'hkl).p) := qq
      clear qq
      rw [← mget hkl] at q1
      have hall2 : (0 ≤ (l[k]!).p ∧ (l[k]!).p ≤ 4096) → ∀ j, j < k + 1 → 0 ≤ (l[j]!).p ∧ (l[j]!).p ≤ 4096 := fun h j hj => by
        rcases Nat.lt_or_ge j k with g | g
        · exact hall.out j g
        · rw [show j = k by omega]; exact h
      obtain ⟨id, hid⟩ : ∃ x, (l[k]!).p = x := ⟨_, rfl⟩
      rw [hid] at q1 hall2
      have HA := Lib.hid hall2
      have b0 : (0 : Int) ≤ (k : Int) := by omega
      have b1 : (k : Int) < (n : Int) := by omega
      clear hid hall2 q0 ee
      by_cases g1 : id < 0
      · go_wp2_with (go_at_call 8; refine (lives22_any _).mono ?_; rintro e w2 ⟨rfl, hb2⟩)
        go_ret
        exact ⟨rfl, hb2⟩
      · by_cases g2 : 4096 < id
        · go_wp2_with (go_at_call 8; refine (lives22_any _).mono ?_; rintro e w2 ⟨rfl, hb2⟩)
          go_ret
          exact ⟨rfl, hb2⟩
        · have HX := Lib.hid (HA.out ⟨by omega, by omega⟩)
          go_wp2
          go_round
          case rel => exact ⟨k + 1, by omega, by go_num, HX⟩
          case measure => simp [intOf]; omega
    · obtain rfl : k = n := by omega
      have hz : ∀ x ∈ l, 0 ≤ x.p ∧ x.p ≤ 4096 := fun x hx => by
        obtain ⟨i, hi, rfl⟩ := List.getElem_of_mem hx
        have := hall.out i (by rw [← HN.out]; exact hi)
        rwa [mget hi] at this
      have HZ := Lib.hid hz
      clear hz hall
      go_wp2_with fail
      refine (C1.out HZ.out _ (Below.refl _ _)).mono ?_; rintro e w1 ⟨rfl, hb1⟩
      have k1 := Blk.new w1 #[.string nn, .int .i64 np] 30
      have HB1 := Lib.hid (hb1.alloc hb1.size (.cells #[.string nn, .int .i64 np] 30)); clear hb1
      obtain ⟨wA, hwA⟩ : ∃ wA, w1.alloc (.cells #[.string nn, .int .i64 np] 30) = wA := ⟨_, rfl⟩
      rw [hwA] at k1 HB1
      have KA := Lib.hid k1; clear k1
      go_wp2_with fail
      refine (C2.out HZ.out _ HB1.out).mono ?_; rintro e w2 ⟨rfl, hb2⟩
      have KA2 := Lib.hid (KA.out.onto hb2)
      have k2 := Blk.new w2 #[.string nn, .int .i64 np] 30
      have KA3 := Lib.hid (KA2.out.alloc (.cells #[.string nn, .int .i64 np] 30))
      have HB2 := Lib.hid ((HB1.out.trans (hb2.mono HB1.out.size)).alloc (HB1.out.trans (hb2.mono HB1.out.size)).size (.cells #[.string nn, .int .i64 np] 30)); clear hb2
      obtain ⟨wB, hwB⟩ : ∃ wB, w2.alloc (.cells #[.string nn, .int .i64 np] 30) = wB := ⟨_, rfl⟩
      rw [hwB] at k2 HB2 KA3
      have KB := Lib.hid k2; clear k2 hwA
      go_wp2_with fail
      refine (C3.out HZ.out _ HB2.out).mono ?_; rintro e w3 ⟨a3, c3, rfl, hm3, hb3⟩
      have HB3 := Lib.hid (HB2.out.trans (hb3.mono HB2.out.size))
      have KA4 := Lib.hid (KA3.out.onto hb3); have KB4 := Lib.hid (KB.out.onto hb3); have HM3 := Lib.hid (hm3.more (B' := (· < w3.heap.size)) fun b hb => hb.2)
      clear hm3 hb3 hwB
      go_wp2_with fail
      refine (C4.out _ HB3.out).mono ?_; rintro e w4 ⟨a4, c4, rfl, hm4, hb4⟩
      have HB4 := Lib.hid (HB3.out.trans (hb4.mono HB3.out.size))
      have KA5 := Lib.hid (KA4.out.onto hb4); have KB5 := Lib.hid (KB4.out.onto hb4); have HM34 := Lib.hid (mrks_on HM3.out hb4); have HM4 := Lib.hid (hm4.more (B' := (· < w4.heap.size)) fun b hb => hb.2)
      clear hm4 hb4
      go_wp2_with fail
      refine (C5.out a3 a4 c3 c4 _ HM34.out HM4.out).mono ?_; rintro e w5 ⟨rfl, hb5⟩
      have HB5 := Lib.hid (HB4.out.trans (hb5.mono HB4.out.size))
      have ka := KA5.out.onto hb5; have kb := KB5.out.onto hb5
      have d0 := ka.cell 0 _ rfl; have d1 := ka.cell 1 _ rfl; have d2 := kb.cell 0 _ rfl; have d3 := kb.cell 1 _ rfl
      clear hb5 ka kb
      go_wp2_with fail
      refine (lives22_any _).mono ?_; rintro e w6 ⟨rfl, hb6⟩
      have HB6 := Lib.hid (HB5.out.trans (hb6.mono HB5.out.size))
      clear hb6
      go_wp2
      go_ret
      exact ⟨rfl, HB6.out⟩

theorem marksNears_walk (a : Option Addr) (l : List Mrk) (c : Nat) (f t : Int) (w : World) (fp : Pcs w ⟨a, l, c⟩) (fl : l.length ≤ c ∧ c ≤ maxLen) (ff : ∀ x ∈ l, x.fits) (wf : (Lit.int .i64 f).wf = true) (wt : (Lit.int .i64 t).wf = true) :
    Calls Try.prog 6 #[.slice a l.length c, .int .i64 f, .int .i64 t] w fun e w' => e = .returned (.bool true) ∧ Below w.heap.size w w' := by
  by_cases h1 : l.length ≤ 40
  case neg => exact marksNears_f0 a l.length c f t w h1
  by_cases h2 : f < 0
  · exact marksNears_f1 a l.length c f t w h1 h2
  by_cases h3 : 4096 < f
  · exact marksNears_f2 a l.length c f t w h1 h2 h3
  by_cases h4 : t < 0
  · exact marksNears_f3 a l.length c f t w h1 h2 h3 h4
  by_cases h5 : 4096 < t
  · exact marksNears_f4 a l.length c f t w h1 h2 h3 h4 h5
  obtain ⟨fn, rfl⟩ := Int.eq_ofNat_of_zero_le (show 0 ≤ f by omega)
  obtain ⟨tn, rfl⟩ := Int.eq_ofNat_of_zero_le (show 0 ≤ t by omega)
  exact marksNears_in a l c fn tn w fp h1 (by omega) (by omega)
end Go.Proofs.Ytimlfgjljnkbcaa
