/-
  The laws on marks (layer 22): MarksSets.
-/
import Derived.Test.YtimlfgjljnkbcaaLawMark
import Derived.Deep.DeepCutAuto
namespace Go.Proofs.Ytimlfgjljnkbcaa
open Go.RowKit
set_option linter.unusedVariables false

theorem setM_len (l : List Mrk) (x : Mrk) : (setM l x).1.length ≤ l.length + 1 := by
  unfold setM
  split
  · simp
  split
  · show (withM _ _).length ≤ _
    unfold withM
    rw [putM_len _ _ _ (idx_le _ _)]
    have := dropM_len l x.name
    omega
  split
  · simp
  · show (withM _ _).length ≤ _
    unfold withM
    rw [putM_len _ _ _ (idx_le _ _)]
    exact Nat.le_refl _
theorem drpM_len (l : List Mrk) (s : ByteArray) : (drpM l s).1.length ≤ l.length := by
  unfold drpM
  split
  · exact dropM_len l s
  · simp
/-- Two rows of the same marks are the same. -/
theorem same_yes (a b : Option Addr) (l : List Mrk) (c d : Nat) (w : World) (ha : Mrks w (· < w.heap.size) a l) (hb : Mrks w (· < w.heap.size) b l) (hl : l.length ≤ 1000000) :
    Calls Try.prog 18 #[.slice a l.length c, .slice b l.length d] w fun e w' => e = .returned (.bool true) ∧ Below w.heap.size w w' := by
  have h := rsame22_any a b l l c d _ _ w ha hb (fun _ h => h) (fun _ h => h) hl hl
  rw [decide_eq_true rfl] at h
  exact h
theorem mrks_on {w W : World} {a : Option Addr} {l : List Mrk} (h : Mrks w (· < w.heap.size) a l) (hb : Below w.heap.size w W) : Mrks W (· < W.heap.size) a l := (h.below (fun _ h => h) hb).more fun b hb2 => Nat.lt_of_lt_of_le hb2 hb.size
/-- What is kept beside: rows of marks, and a box. -/
theorem own_empty (w : World) (base : Nat) (h : base ≤ w.heap.size) : (w.alloc (.cells #[] 30)).ownsRow base 30 2 (.slice (some ⟨w.heap.size, 0, none⟩) 0 0) 0 [] := World.ownsRow_made w #[] 0 h (Nat.zero_le _) (by simp)

set_option maxRecDepth 100000 in
set_option maxHeartbeats 800000 in
theorem marksSets_few (a : Option Addr) (n c : Nat) (x : Mrk) (name : ByteArray) (w : World) (h : ¬ n ≤ 40) :
    Calls Try.prog 4 #[.slice a n c, x.v, .string name] w fun e w' => e = .returned (.bool true) ∧ Below w.heap.size w w' := by
  have cfew := few_any a n c
  rw [decide_eq_false h] at cfew
  have CF := Lib.hid cfew
  clear cfew h
  obtain ⟨xn, xp⟩ := x
  go_enter Try.func4, Try.ntmps4
  go_wp2_with (first
    | (go_at_call 7; refine (CF.out _).mono ?_; rintro e w1 ⟨rfl, rfl⟩)
    | (go_at_call 8; refine (lives22_any _).mono ?_; rintro e w1 ⟨rfl, hb1⟩))
  go_ret
  exact ⟨rfl, box_below (N := w.heap.size + 1) (by omega) (by simpa using hb1)⟩

set_option maxRecDepth 100000 in
set_option maxHeartbeats 800000 in
theorem marksSets_fall (a : Option Addr) (l : List Mrk) (c : Nat) (x : Mrk) (name : ByteArray) (w : World) (fp : Pcs w ⟨a, l, c⟩) (h : l.length ≤ 40) (hr : riseM l = false) :
    Calls Try.prog 4 #[.slice a l.length c, x.v, .string name] w fun e w' => e = .returned (.bool true) ∧ Below w.heap.size w w' := by
  have cfew := few_any a l.length c
  rw [decide_eq_true h] at cfew
  obtain ⟨xn, xp⟩ := x
  have hb0 : Below w.heap.size w (w.alloc (.cells #[.string xn, .int .i64 xp] 30)) := (Below.refl w.heap.size w).alloc (Nat.le_refl _) _
  have cr := rrise22_any a l c _ _ (fp.later hb0).row (fun _ h => h) (by omega)
  rw [hr] at cr
  obtain ⟨n, hn⟩ : ∃ n, l.length = n := ⟨_, rfl⟩
  rw [hn] at cfew cr ⊢
  have CF := Lib.hid cfew; have CR := Lib.hid cr; have HB0 := Lib.hid hb0
  clear cfew cr hb0 fp hn h hr
  go_enter Try.func4, Try.ntmps4
  go_wp2_with fail
  refine (CF.out _).mono ?_; rintro e w1 ⟨rfl, rfl⟩
  go_wp2_with fail
  refine CR.out.mono ?_; rintro e w1 ⟨rfl, hb1⟩
  go_wp2_with fail
  refine (lives22_any _).mono ?_; rintro e w2 ⟨rfl, hb2⟩
  have HB := Lib.hid (HB0.out.trans ((hb1.trans (hb2.mono hb1.size)).mono HB0.out.size))
  clear hb1 hb2
  go_wp2
  go_ret
  exact ⟨rfl, HB.out⟩

set_option maxRecDepth 100000 in
set_option maxHeartbeats 3200000 in
theorem marksSets_rise (a : Option Addr) (l : List Mrk) (c : Nat) (x : Mrk) (name : ByteArray) (w : World) (fp : Pcs w ⟨a, l, c⟩) (fl : l.length ≤ c ∧ c ≤ maxLen) (fx : x.name.size ≤ maxLen) (h : l.length ≤ 40) (hr : riseM l = true) :
    Calls Try.prog 4 #[.slice a l.length c, x.v, .string name] w fun e w' => e = .returned (.bool true) ∧ Below w.heap.size w w' := by
  obtain ⟨i0, hi, hz0, hz1, hz2⟩ := info_parts mrk_info
  have cfew := few_any a l.length c
  rw [decide_eq_true h] at cfew
  obtain ⟨xn, xp⟩ := x
  obtain ⟨wX, hwX⟩ : ∃ wX, w.alloc (.cells #[.string xn, .int .i64 xp] 30) = wX := ⟨_, rfl⟩
  have hb0 : Below w.heap.size w (w.alloc (.cells #[.string xn, .int .i64 xp] 30)) := (Below.refl w.heap.size w).alloc (Nat.le_refl _) _
  obtain ⟨x0, x1⟩ := box_mrk (N := w.heap.size + 1) (by omega) (Below.refl (w.heap.size + 1) (w.alloc (.cells #[.string xn, .int .i64 xp] 30)))
  have hX1 : w.heap.size + 1 ≤ wX.heap.size := by rw [← hwX]; simp
  rw [hwX] at x0 x1 hb0
  have hpX : Pcs wX ⟨a, l, c⟩ := fp.later hb0
  have cr := rrise22_any a l c _ wX hpX.row (fun _ h => h) (by omega)
  rw [hr] at cr
  have c1 := fun W (hW : Below wX.heap.size wX W) => mset_any a l c ⟨xn, xp⟩ W (hpX.later hW) fl.1 fl.2 h fx hr
  have c2 := fun W (hW : Below wX.heap.size wX W) => rset22_any a l c ⟨xn, xp⟩ _ W (hpX.later hW).row (fun _ h => h) (by omega) fx
  have c3 := fun W (hW : Below wX.heap.size wX W) => mdrop_any a l c name W (hpX.later hW) fl.1 fl.2 h hr
  have c4 := fun W (hW : Below wX.heap.size wX W) => rdrop22_any a l c name _ W (hpX.later hW).row (fun _ h => h) (by omega)
  have hl1 := setM_len l ⟨xn, xp⟩
  have hl2 := drpM_len l name
  have hl3 : l.length ≤ 1000000 := by omega
  have c5 := fun (av : Option Addr) (cv : Nat) W (hW : Below wX.heap.size wX W) (hav : Mrks W (· < W.heap.size) av l) => same_yes av a l cv c W hav (hpX.later hW).row hl3
  obtain ⟨⟨r1, e1⟩, hr1⟩ : ∃ r, setM l ⟨xn, xp⟩ = r := ⟨_, rfl⟩
  obtain ⟨⟨r2, e2⟩, hr2⟩ : ∃ r, drpM l name = r := ⟨_, rfl⟩
  rw [hr1] at c1 c2 hl1
  rw [hr2] at c3 c4 hl2
  have hq1 : r1.length ≤ 1000000 := by have : r1.length ≤ l.length + 1 := hl1; omega
  have hq2 : r2.length ≤ 1000000 := by have : r2.length ≤ l.length := hl2; omega
  have hnews := fun ad (e : a = some ad) W (hW : Below wX.heap.size wX W) => mrks_news (B := (· < W.heap.size)) (ad := ad) (l := l) (w := W) (by have := (hpX.later hW).row; simp only [e] at this; exact this)
  have hnil : a = none → l = [] ∧ c = 0 := fun e => ⟨hpX.len e, hpX.nil e⟩
  have hfl := Mrk.flat_len l
  have hofl := one_flat l
  obtain ⟨n, hn⟩ : ∃ n, l.length = n := ⟨_, rfl⟩
  have hn0 : a = none → n = 0 := fun e => by rw [← hn, (hnil e).1]; rfl
  rw [hn] at cfew cr c1 c2 c3 c4 c5 hfl h ⊢
  have CF := Lib.hid cfew; have CR := Lib.hid cr; have C1 := Lib.hid c1; have C2 := Lib.hid c2; have C3 := Lib.hid c3; have C4 := Lib.hid c4; have C5 := Lib.hid c5; have HN := Lib.hid hn
  have HX1 := Lib.hid hX1; have HEND := Lib.hid (fun w' (h : Below wX.heap.size wX w') => hb0.trans (h.mono (by omega)))
  have HQ1 := Lib.hid hq1; have HQ2 := Lib.hid hq2; have HNW := Lib.hid hnews; have HNIL := Lib.hid hnil; have HFL := Lib.hid hfl; have HOF := Lib.hid hofl; have HN0 := Lib.hid hn0
  have HXB := Lib.hid (show w.heap.size < wX.heap.size by omega)
  clear cfew cr hb0 fp fl fx hn hr hpX c1 c2 c3 c4 c5 hl1 hl2 hl3 hr1 hr2 hq1 hq2 hnews hnil hfl hofl hn0 hX1
  go_enter Try.func4, Try.ntmps4
  go_wp2_with fail
  refine (CF.out _).mono ?_; rintro e w0 ⟨rfl, rfl⟩
  go_wp2_with fail
  refine CR.out.mono ?_; rintro e w1 ⟨rfl, hb1⟩
  have HB1 := Lib.hid hb1
  clear hb1 hwX
  go_upto_region 3 with fail
  go_cut [7] (fun v wx => ∃ av cv, v = .slice av n cv ∧ Mrks wx (· < wx.heap.size) av l ∧ Below wX.heap.size wX wx)
  case first =>
    cases a with
    | none =>
      have l0 := (HNIL.out rfl).1
      have c0 := (HNIL.out rfl).2
      have n0 := HN0.out rfl
      subst l0
      subst c0
      subst n0
      have hown := own_empty w1 wX.heap.size HB1.out.size
      go_wp2_with (at_builtin; refine wpList_append_own_none rfl _ _ 22 rfl wX.heap.size 30 i0 2 Try.underlying22 hi _ _ _ rfl hown rfl ?_)
      go_meet
      exact ⟨_, _, rfl, fun k hk => absurd hk (by simp), HB1.out.alloc HB1.out.size _⟩
    | some ad =>
      have hown := own_empty w1 wX.heap.size HB1.out.size
      have hbA : Below wX.heap.size wX (w1.alloc (.cells #[] 30)) := HB1.out.alloc HB1.out.size _
      go_wp2_with (at_builtin; refine wpList_append_own _ rfl _ _ 22 rfl wX.heap.size 30 i0 _ 2 24 Try.underlying22 hi hz0 hz1 hz2 rfl (by decide) _ _ _ rfl hown ad n c (Mrk.flat l) rfl HFL.out (HNW.out ad rfl _ hbA) HOF.out (by unfold maxLen; omega) (by omega) hbA.size ?_; intro v1 w2 ho1 hg1 _)
      have hb2 : Below wX.heap.size wX w2 := hbA.grown hg1 hbA.size (own_block hown)
      have ho2 : w2.ownsRow wX.heap.size 30 2 v1 l.length (Mrk.flat l) := by rw [HN.out]; simpa using ho1
      obtain ⟨av, cv, rfl, hv⟩ := own_mrks ho2
      rw [HN.out]
      have HV := Lib.hid (hv.more (B' := (· < w2.heap.size)) fun b hb => hb.2); have HB2 := Lib.hid hb2
      clear hv hb2 ho1 ho2 hg1 hown hbA
      go_wp2
      go_meet
      exact ⟨av, cv, rfl, HV.out, HB2.out⟩
  case rest =>
    obtain ⟨av, cv, rfl, hv, hbw⟩ := hcut
    have HV := Lib.hid hv; have HB2 := Lib.hid hbw
    have y0 := (hbw.cell (p := ⟨w.heap.size, 0, none⟩) HXB.out).trans x0
    have y1 := (hbw.cell (p := ⟨w.heap.size, 1, none⟩) HXB.out).trans x1
    clear hv hbw
    go_wp2_with fail
    refine (C1.out _ HB2.out).mono ?_; rintro e w3 ⟨a3, c3, rfl, hm3, hb3⟩
    have HB3 := Lib.hid (HB2.out.trans (hb3.mono HB2.out.size))
    have HV3 := Lib.hid (mrks_on HV.out hb3); have HM3 := Lib.hid (hm3.more (B' := (· < w3.heap.size)) fun b hb => hb.2)
    have z0 := (HB3.out.cell (p := ⟨w.heap.size, 0, none⟩) HXB.out).trans x0
    have z1 := (HB3.out.cell (p := ⟨w.heap.size, 1, none⟩) HXB.out).trans x1
    clear hm3 hb3 y0 y1
    go_wp2_with fail
    refine (C2.out _ HB3.out).mono ?_; rintro e w4 ⟨a4, c4, rfl, hm4, hb4⟩
    have HB4 := Lib.hid (HB3.out.trans (hb4.mono HB3.out.size))
    have HV4 := Lib.hid (mrks_on HV3.out hb4); have HM34 := Lib.hid (mrks_on HM3.out hb4); have HM4 := Lib.hid (hm4.more (B' := (· < w4.heap.size)) fun b hb => hb.2)
    clear hm4 hb4 z0 z1
    go_wp2_with fail
    refine (C3.out _ HB4.out).mono ?_; rintro e w5 ⟨a5, c5, rfl, hm5, hb5⟩
    have HB5 := Lib.hid (HB4.out.trans (hb5.mono HB4.out.size))
    have HV5 := Lib.hid (mrks_on HV4.out hb5); have HM35 := Lib.hid (mrks_on HM34.out hb5); have HM45 := Lib.hid (mrks_on HM4.out hb5); have HM5 := Lib.hid (hm5.more (B' := (· < w5.heap.size)) fun b hb => hb.2)
    clear hm5 hb5
    go_wp2_with fail
    refine (C4.out _ HB5.out).mono ?_; rintro e w6 ⟨a6, c6, rfl, hm6, hb6⟩
    have HB6 := Lib.hid (HB5.out.trans (hb6.mono HB5.out.size))
    have HV6 := Lib.hid (mrks_on HV5.out hb6); have HM36 := Lib.hid (mrks_on HM35.out hb6); have HM46 := Lib.hid (mrks_on HM45.out hb6); have HM56 := Lib.hid (mrks_on HM5.out hb6); have HM6 := Lib.hid (hm6.more (B' := (· < w6.heap.size)) fun b hb => hb.2)
    clear hm6 hb6
    go_wp2_with fail
    refine (same_yes a3 a4 r1 c3 c4 _ HM36.out HM46.out HQ1.out).mono ?_; rintro e w7 ⟨rfl, hb7⟩
    have HB7 := Lib.hid (HB6.out.trans (hb7.mono HB6.out.size))
    have HV7 := Lib.hid (mrks_on HV6.out hb7); have HM57 := Lib.hid (mrks_on HM56.out hb7); have HM67 := Lib.hid (mrks_on HM6.out hb7)
    clear hb7
    go_wp2_with fail
    refine (same_yes a5 a6 r2 c5 c6 _ HM57.out HM67.out HQ2.out).mono ?_; rintro e w8 ⟨rfl, hb8⟩
    have HB8 := Lib.hid (HB7.out.trans (hb8.mono HB7.out.size))
    have HV8 := Lib.hid (mrks_on HV7.out hb8)
    clear hb8
    go_wp2_with fail
    refine (C5.out av cv _ HB8.out HV8.out).mono ?_; rintro e w9 ⟨rfl, hb9⟩
    have HB9 := Lib.hid (HB8.out.trans (hb9.mono HB8.out.size))
    clear hb9
    go_wp2_with fail
    refine (lives22_any _).mono ?_; rintro e w10 ⟨rfl, hb10⟩
    have HB10 := Lib.hid (HB9.out.trans (hb10.mono HB9.out.size))
    clear hb10
    go_wp2
    go_ret
    exact ⟨rfl, HEND.out _ HB10.out⟩

theorem marksSets_walk (a : Option Addr) (l : List Mrk) (c : Nat) (x : Mrk) (name : ByteArray) (w : World) (fp : Pcs w ⟨a, l, c⟩) (fl : l.length ≤ c ∧ c ≤ maxLen) (ff : ∀ x ∈ l, x.fits) (fx : x.fits) (hn : name.size ≤ maxLen) :
    Calls Try.prog 4 #[.slice a l.length c, x.v, .string name] w fun e w' => e = .returned (.bool true) ∧ Below w.heap.size w w' := by
  by_cases h : l.length ≤ 40
  case neg => exact marksSets_few a l.length c x name w h
  by_cases hr : riseM l = true
  · exact marksSets_rise a l c x name w fp fl fx.1 h hr
  · exact marksSets_fall a l c x name w fp h (by simpa using hr)
end Go.Proofs.Ytimlfgjljnkbcaa
