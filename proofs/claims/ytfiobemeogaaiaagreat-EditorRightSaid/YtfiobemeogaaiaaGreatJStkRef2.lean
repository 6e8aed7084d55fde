/-
  Joined: StkRef2, StkDev3, StkDev4, StkDev5.
-/
import Derived.Test.YtfiobemeogaaiaaGreatJStkRow
import Derived.Test.YtfiobemeogaaiaaGreatJStepRef2
import Derived.Deep.RegionWith
import Derived.Test.YtfiobemeogaaiaaGreatJStepRef
namespace Go.Proofs.YtfiobemeogaaiaaGreat
open Lib (hid)
open Go.RowKit
set_option linter.unusedVariables false
set_option linter.unusedSimpArgs false
set_option maxRecDepth 100000 in
set_option maxHeartbeats 3200000 in
theorem rundoes_any (t : ByteArray) (a : Option Addr) (l : List EPc) (c : Nat) (w : World) (hp : SPcs w ⟨a, l, c⟩) (ht : t.size ≤ 4294967296) (hl : l.length ≤ 1000000) (hb : ∀ x ∈ l, x.l.length ≤ 100000 ∧ Edtz x.l 4294967296) :
    Calls Tryz.prog 50 #[.string t, .slice a l.length c] w fun e w' => e = .returned (.bool (goes16 invL t (lsP l))) ∧ Below w.heap.size w w' := by
  have he : (goes16 invL t (lsP l)) = (goesE invL t (lsP l).reverse && decide (l.length ≤ 16)) := by unfold goes16; rw [lsP_len]
  rw [he]
  obtain ⟨n, hn⟩ : ∃ n, l.length = n := ⟨_, rfl⟩
  rw [hn] at hl ⊢
  obtain ⟨R, hR⟩ : ∃ R, goesE invL t (lsP l).reverse = R := ⟨_, rfl⟩
  rw [hR]
  have hR0 : goesE invL t ((lsP l).take n).reverse = R := by rw [List.take_of_length_le (by rw [lsP_len, hn]; exact Nat.le_refl _)]; exact hR
  obtain ⟨A, hA⟩ : ∃ A, (R && decide (n ≤ 16)) = A := ⟨_, rfl⟩
  rw [hA]
  have HP := hid hp; have HN := hid hn; have HR0 := hid hR0; have HBB := hid hb; have HA := hid hA
  clear hp hn hR hR0 hb he hA
  go_enter Tryz.func50, Tryz.ntmps50
  go_wp2
  go_loopw [0, 5] (fun tv i wr => ∃ (k : Nat) (z : Int) (s : ByteArray), k ≤ n ∧ i = .int .i64 z ∧ z = (k : Int) - 1 ∧ tv = .string s ∧ s.size ≤ 4294967296 ∧ goesE invL s ((lsP l).take k).reverse = R ∧ Below w.heap.size w wr) (fun _ i _ => (intOf i + 1).toNat)
  case atStart => exact ⟨n, (n : Int) - 1, t, Nat.le_refl _, rfl, rfl, rfl, ht, HR0.out, Below.refl _ _⟩
  case round =>
    obtain ⟨m, z, s, hm, rfl, hzm, rfl, hs, hgo, hbel⟩ := hrel
    cases m with
    | zero =>
      have h0 : true = R := hgo
      subst h0
      obtain rfl : z = -1 := by omega
      clear hgo hzm
      by_cases h16 : n ≤ 16
      · have g : (n : Int) ≤ 16 := by omega
        have e : A = true := by rw [← HA.out, decide_eq_true h16]; rfl
        subst e
        go_wp2
        go_ret
        exact ⟨rfl, hbel⟩
      · have g : ¬ (n : Int) ≤ 16 := by omega
        have e : A = false := by rw [← HA.out, decide_eq_false h16]; rfl
        subst e
        go_wp2
        go_ret
        exact ⟨by simp [go_sem, g], hbel⟩
    | succ k =>
      obtain rfl : z = (k : Int) := by omega
      have hkl : k < l.length := by rw [HN.out]; omega
      rw [rev_take _ _ (by rw [lsP_len]; exact hkl), lsP_get l k hkl] at hgo
      have hpr := HP.out.later hbel
      obtain ⟨ad, rfl, hab, q0⟩ := hpr.row k hkl
      have hx1 := hpr.all.at k hkl
      obtain ⟨hx2, hx3⟩ := HBB.out (l[k]!) (by rw [epget hkl]; exact List.getElem_mem hkl)
      obtain ⟨y, hy⟩ : ∃ y, l[k]! = y := ⟨_, rfl⟩
      rw [hy] at q0 hx1 hx2 hx3 hgo
      obtain ⟨ya, yl, yc⟩ := y
      simp only [EPc.v] at q0 hx2 hx3 hgo
      have cb := rinv23_any ya yl yc wr hx1.row hx2
      have hz := hx3.inv
      have hlen := invL_len yl
      have hsz := rightS_size (t := s) (l := invL yl)
      have hg1 := goesE_no (f := invL) (t := s) (x := yl) (r := ((lsP l).take k).reverse)
      have hg2 := goesE_ok (f := invL) (t := s) (x := yl) (r := ((lsP l).take k).reverse)
      obtain ⟨q, hq⟩ : ∃ q, yl.length = q := ⟨_, rfl⟩
      obtain ⟨Y, hY⟩ : ∃ Y, invL yl = Y := ⟨_, rfl⟩
      rw [hgo, hY] at hg1 hg2
      rw [hY] at cb hz hlen hsz
      rw [hq] at cb q0 hx2 hlen
      have cb : Calls Tryz.prog 47 #[stpV ya q yc] wr fun e w' => ∃ a3 c3, e = .returned (stpV a3 q c3) ∧ ERow w' wr.heap.size ⟨a3, Y, c3⟩ ∧ Below wr.heap.size wr w' := by rw [← hlen] at cb ⊢; exact cb
      have c1 := fun a' c' W (h : EPcs W ⟨a', Y, c'⟩) => rright23_any s a' Y c' W h.row hs (by omega) hz
      have c2 := fun a' c' W (h : EPcs W ⟨a', Y, c'⟩) => rrun23_any s a' Y c' W h.row hs (by omega) hz
      rw [hlen] at c1 c2
      obtain ⟨⟨u, e0⟩, hu⟩ : ∃ z, runE s Y = z := ⟨_, rfl⟩
      obtain ⟨r, hr⟩ : ∃ r, rightS s Y = r := ⟨_, rfl⟩
      rw [hr] at c1 hsz hg1 hg2
      rw [hu] at c2 hsz hg2
      have CB := hid cb; have C1 := hid c1; have C2 := hid c2
      have b0 : (0 : Int) ≤ (k : Int) := by omega
      have b1 : (k : Int) < (n : Int) := by omega
      clear cb c1 c2 hgo hy hz hlen hx1 hx2 hx3 hq hY hu hr hpr hab hzm
      cases r with
      | false =>
        have h0 := hg1 rfl
        subst h0
        have e : A = false := HA.out.symm
        subst e
        clear hg1 hg2 hsz
        go_wp2_with fail
        refine CB.out.mono ?_
        rintro e w2 ⟨a2, c2, rfl, hr2, hb2⟩
        have HR2 := hid (hr2.in.later ((Below.refl w2.heap.size w2).alloc (Nat.le_refl _) (.cells #[.slice a2 q c2] 69)))
        have HB2 := hid (hbel.trans ((hb2.alloc hb2.size (.cells #[.slice a2 q c2] 69)).mono hbel.size))
        clear hr2 hb2 q0 hbel
        go_wp2_with fail
        refine (C1.out _ _ _ HR2.out).mono ?_
        rintro e w3 ⟨rfl, hb3⟩
        have HB3 := hid (HB2.out.trans (hb3.mono HB2.out.size))
        clear hb3
        go_wp2
        go_ret
        exact ⟨rfl, HB3.out⟩
      | true =>
        have h0 := hg2 rfl
        have h1 : u.size ≤ max s.size 4096 := hsz rfl
        clear hg1 hg2 hsz
        go_wp2_with fail
        refine CB.out.mono ?_
        rintro e w2 ⟨a2, c2, rfl, hr2, hb2⟩
        have HR2 := hid (hr2.in.later ((Below.refl w2.heap.size w2).alloc (Nat.le_refl _) (.cells #[.slice a2 q c2] 69)))
        have HX2 := hid (Blk.new w2 #[.slice a2 q c2] 69)
        have HB2 := hid (hbel.trans ((hb2.alloc hb2.size (.cells #[.slice a2 q c2] 69)).mono hbel.size))
        clear hr2 hb2 q0 hbel
        go_wp2_with fail
        refine (C1.out _ _ _ HR2.out).mono ?_
        rintro e w3 ⟨rfl, hb3⟩
        have HR3 := hid (HR2.out.later hb3)
        have y3 : w3.cell? ⟨w2.heap.size, 0, none⟩ = some (.slice a2 q c2) := (HX2.out.onto hb3).cell 0 _ rfl
        have HB3 := hid (HB2.out.trans (hb3.mono HB2.out.size))
        clear hb3
        go_wp2_with fail
        refine (C2.out _ _ _ HR3.out).mono ?_
        rintro e w4 ⟨rfl, hb4⟩
        have HB4 := hid (HB3.out.trans (hb4.mono HB3.out.size))
        clear hb4 y3
        go_wp2
        go_roundw
        case rel => exact ⟨k, (k : Int) - 1, u, by omega, by go_num, rfl, rfl, by omega, h0.symm, HB4.out⟩
        case measure => simp [intOf]
set_option maxRecDepth 100000 in
set_option maxHeartbeats 3200000 in
theorem rredoes_any (t : ByteArray) (a : Option Addr) (l : List EPc) (c : Nat) (w : World) (hp : SPcs w ⟨a, l, c⟩) (ht : t.size ≤ 4294967296) (hl : l.length ≤ 1000000) (hb : ∀ x ∈ l, x.l.length ≤ 100000 ∧ Edtz x.l 4294967296) :
    Calls Tryz.prog 51 #[.string t, .slice a l.length c] w fun e w' => e = .returned (.bool (goes16 id t (lsP l))) ∧ Below w.heap.size w w' := by
  have he : (goes16 id t (lsP l)) = (goesE id t (lsP l).reverse && decide (l.length ≤ 16)) := by unfold goes16; rw [lsP_len]
  rw [he]
  obtain ⟨n, hn⟩ : ∃ n, l.length = n := ⟨_, rfl⟩
  rw [hn] at hl ⊢
  obtain ⟨R, hR⟩ : ∃ R, goesE id t (lsP l).reverse = R := ⟨_, rfl⟩
  rw [hR]
  have hR0 : goesE id t ((lsP l).take n).reverse = R := by rw [List.take_of_length_le (by rw [lsP_len, hn]; exact Nat.le_refl _)]; exact hR
  obtain ⟨A, hA⟩ : ∃ A, (R && decide (n ≤ 16)) = A := ⟨_, rfl⟩
  rw [hA]
  have HP := hid hp; have HN := hid hn; have HR0 := hid hR0; have HBB := hid hb; have HA := hid hA
  clear hp hn hR hR0 hb he hA
  go_enter Tryz.func51, Tryz.ntmps51
  go_wp2
  go_loopw [0, 5] (fun tv i wr => ∃ (k : Nat) (z : Int) (s : ByteArray), k ≤ n ∧ i = .int .i64 z ∧ z = (k : Int) - 1 ∧ tv = .string s ∧ s.size ≤ 4294967296 ∧ goesE id s ((lsP l).take k).reverse = R ∧ Below w.heap.size w wr) (fun _ i _ => (intOf i + 1).toNat)
  case atStart => exact ⟨n, (n : Int) - 1, t, Nat.le_refl _, rfl, rfl, rfl, ht, HR0.out, Below.refl _ _⟩
  case round =>
    obtain ⟨m, z, s, hm, rfl, hzm, rfl, hs, hgo, hbel⟩ := hrel
    cases m with
    | zero =>
      have h0 : true = R := hgo
      subst h0
      obtain rfl : z = -1 := by omega
      clear hgo hzm
      by_cases h16 : n ≤ 16
      · have g : (n : Int) ≤ 16 := by omega
        have e : A = true := by rw [← HA.out, decide_eq_true h16]; rfl
        subst e
        go_wp2
        go_ret
        exact ⟨rfl, hbel⟩
      · have g : ¬ (n : Int) ≤ 16 := by omega
        have e : A = false := by rw [← HA.out, decide_eq_false h16]; rfl
        subst e
        go_wp2
        go_ret
        exact ⟨by simp [go_sem, g], hbel⟩
    | succ k =>
      obtain rfl : z = (k : Int) := by omega
      have hkl : k < l.length := by rw [HN.out]; omega
      rw [rev_take _ _ (by rw [lsP_len]; exact hkl), lsP_get l k hkl] at hgo
      have hpr := HP.out.later hbel
      obtain ⟨ad, rfl, hab, q0⟩ := hpr.row k hkl
      have hab : ad.block < wr.heap.size := hab
      have hx1 := hpr.all.at k hkl
      obtain ⟨hx2, hx3⟩ := HBB.out (l[k]!) (by rw [epget hkl]; exact List.getElem_mem hkl)
      obtain ⟨y, hy⟩ : ∃ y, l[k]! = y := ⟨_, rfl⟩
      rw [hy] at q0 hx1 hx2 hx3 hgo
      obtain ⟨ya, yl, yc⟩ := y
      simp only [EPc.v] at q0 hx2 hx3 hgo
      have hsz := rightS_size (t := s) (l := yl)
      have hg1 := goesE_no (f := id) (t := s) (x := yl) (r := ((lsP l).take k).reverse)
      have hg2 := goesE_ok (f := id) (t := s) (x := yl) (r := ((lsP l).take k).reverse)
      rw [hgo, id] at hg1 hg2
      have c1 := rright23_any s ya yl yc wr hx1.row hs (by omega) hx3
      have c2 := fun W (h : Below wr.heap.size wr W) => rrun23_any s ya yl yc W (hx1.later h).row hs (by omega) hx3
      obtain ⟨q, hq⟩ : ∃ q, yl.length = q := ⟨_, rfl⟩
      rw [hq] at c1 c2 q0
      obtain ⟨⟨u, e0⟩, hu⟩ : ∃ z, runE s yl = z := ⟨_, rfl⟩
      obtain ⟨r, hr⟩ : ∃ r, rightS s yl = r := ⟨_, rfl⟩
      rw [hr] at c1 hsz hg1 hg2
      rw [hu] at c2 hsz hg2
      have C1 := hid c1; have C2 := hid c2
      have b0 : (0 : Int) ≤ (k : Int) := by omega
      have b1 : (k : Int) < (n : Int) := by omega
      clear c1 c2 hgo hy hx1 hx2 hx3 hq hu hr hpr hzm
      cases r with
      | false =>
        have h0 := hg1 rfl
        subst h0
        have e : A = false := HA.out.symm
        subst e
        clear hg1 hg2 hsz
        go_wp2_with fail
        refine C1.out.mono ?_
        rintro e w3 ⟨rfl, hb3⟩
        have HB3 := hid (hbel.trans (hb3.mono hbel.size))
        clear hb3 hbel
        go_wp2
        go_ret
        exact ⟨rfl, HB3.out⟩
      | true =>
        have h0 := hg2 rfl
        have h1 : u.size ≤ max s.size 4096 := hsz rfl
        clear hg1 hg2 hsz
        go_wp2_with fail
        refine C1.out.mono ?_
        rintro e w3 ⟨rfl, hb3⟩
        have q3 := (hb3.cell (p := ad.add k) (by rw [stk_block]; exact hab)).trans q0
        have HB3 := hid hb3
        clear hb3 q0
        go_wp2_with fail
        refine (C2.out _ HB3.out).mono ?_
        rintro e w4 ⟨rfl, hb4⟩
        have HB4 := hid (hbel.trans ((HB3.out.trans (hb4.mono HB3.out.size)).mono hbel.size))
        clear hb4 q3 hbel
        go_wp2
        go_roundw
        case rel => exact ⟨k, (k : Int) - 1, u, by omega, by go_num, rfl, rfl, by omega, h0.symm, HB4.out⟩
        case measure => simp [intOf]
theorem lsame_more {a b : List EPc} {k : Nat} (h : ∀ j, j < k → (a[j]!).l = (b[j]!).l) : (a[k]!).l = (b[k]!).l → ∀ j, j < k + 1 → (a[j]!).l = (b[j]!).l := fun e j hj => by
  rcases Nat.lt_or_ge j k with g | g
  · exact h j g
  · obtain rfl : j = k := by omega
    exact e
theorem lsame_all {a b : List EPc} (hl : a.length = b.length) (h : ∀ j, j < a.length → (a[j]!).l = (b[j]!).l) : lsP a = lsP b := by
  refine List.ext_getElem (by rw [lsP_len, lsP_len, hl]) fun j h1 h2 => ?_
  have g1 : j < a.length := by rwa [lsP_len] at h1
  have := h j g1
  rw [epget g1, epget (by omega)] at this
  simpa [lsP] using this
theorem lsame_at {a b : List EPc} {k : Nat} (ha : k < a.length) (hb : k < b.length) (h : lsP a = lsP b) : (a[k]!).l = (b[k]!).l := by
  rw [← lsP_get a k ha, ← lsP_get b k hb, h]
set_option maxRecDepth 100000 in
set_option maxHeartbeats 1600000 in
theorem rsteps23_any (a b : Option Addr) (la lb : List EPc) (c d : Nat) (w : World) (ha : SPcs w ⟨a, la, c⟩) (hb : SPcs w ⟨b, lb, d⟩) (h1 : ∀ x ∈ la, x.l.length ≤ 1000000) (h2 : ∀ x ∈ lb, x.l.length ≤ 1000000) :
    Calls Tryz.prog 35 #[.slice a la.length c, .slice b lb.length d] w fun e w' => e = .returned (.bool (decide (lsP la = lsP lb))) ∧ Below w.heap.size w w' := by
  by_cases hne : la.length = lb.length
  case neg =>
    have h0 : decide (lsP la = lsP lb) = false := decide_eq_false fun e => hne (by rw [← lsP_len la, e, lsP_len])
    rw [h0]
    have hm1 : la.length ≤ maxLen := Nat.le_trans ha.le ha.cap
    have hm2 : lb.length ≤ maxLen := Nat.le_trans hb.le hb.cap
    unfold maxLen at hm1 hm2
    obtain ⟨n, hn⟩ : ∃ n, la.length = n := ⟨_, rfl⟩
    obtain ⟨m, hm⟩ : ∃ n, lb.length = n := ⟨_, rfl⟩
    rw [hn] at hne hm1 ⊢
    rw [hm] at hne hm2 ⊢
    clear hn hm ha hb h1 h2
    have hne2 : ¬ (n : Int) = (m : Int) := by omega
    go_enter Tryz.func35, Tryz.ntmps35
    go_wp2
    go_ret
    exact ⟨rfl, Below.refl _ _⟩
  have HE := hid hne
  have hm1 : la.length ≤ maxLen := Nat.le_trans ha.le ha.cap
  unfold maxLen at hm1
  rw [← hne]
  obtain ⟨n, hn⟩ : ∃ n, la.length = n := ⟨_, rfl⟩
  obtain ⟨r, hfr⟩ : ∃ r, decide (lsP la = lsP lb) = r := ⟨_, rfl⟩
  rw [hfr]
  rw [hn] at hm1 ⊢
  have HN := hid hn; have HA := hid ha; have HB := hid hb; have H1 := hid h1; have H2 := hid h2; have HF := hid hfr
  clear hn ha hb h1 h2 hfr hne
  go_enter Tryz.func35, Tryz.ntmps35
  go_wp2
  go_loopw [5] (fun i wr => ∃ k : Nat, k ≤ n ∧ i = .int .i64 k ∧ (∀ j, j < k → (la[j]!).l = (lb[j]!).l) ∧ Below w.heap.size w wr) (fun i _ => n - (intOf i).toNat)
  case atStart => exact ⟨0, Nat.zero_le _, rfl, fun j hj => absurd hj (Nat.not_lt_zero _), Below.refl _ _⟩
  case round =>
    obtain ⟨k, hk, rfl, hall, hbel⟩ := hrel
    by_cases hlt : k < n
    · have hkl : k < la.length := by rw [HN.out]; exact hlt
      have hkl2 : k < lb.length := by rw [← HE.out]; exact hkl
      have hpa := HA.out.later hbel
      have hpb := HB.out.later hbel
      obtain ⟨ad, rfl, hab, q0⟩ := hpa.row k hkl
      obtain ⟨bd, rfl, hbb, r0⟩ := hpb.row k hkl2
      have hx1 := hpa.all.at k hkl
      have hx2 := hpb.all.at k hkl2
      have hz1 := H1.out (la[k]!) (by rw [epget hkl]; exact List.getElem_mem hkl)
      have hz2 := H2.out (lb[k]!) (by rw [epget hkl2]; exact List.getElem_mem hkl2)
      have hyes := lsame_more (a := la) (b := lb) hall
      have hno : ¬ (la[k]!).l = (lb[k]!).l → decide (lsP la = lsP lb) = false := fun h => decide_eq_false fun e => h (lsame_at hkl hkl2 e)
      obtain ⟨x, hx⟩ : ∃ x, la[k]! = x := ⟨_, rfl⟩
      obtain ⟨y, hy⟩ : ∃ x, lb[k]! = x := ⟨_, rfl⟩
      rw [hx] at q0 hx1 hz1 hyes hno
      rw [hy] at r0 hx2 hz2 hyes hno
      obtain ⟨xa, xl, xc⟩ := x
      obtain ⟨ya, yl, yc⟩ := y
      simp only [EPc.v] at q0 r0 hz1 hz2 hyes hno
      have cs := rsame23_any xa ya xl yl xc yc wr.drew (by exact hx1.row) (by exact hx2.row) hz1 hz2
      obtain ⟨p, hp⟩ : ∃ p, xl.length = p := ⟨_, rfl⟩
      obtain ⟨q, hq⟩ : ∃ p, yl.length = p := ⟨_, rfl⟩
      rw [hp] at q0 cs
      rw [hq] at r0 cs
      have b0 : (0 : Int) ≤ (k : Int) := by omega
      have b1 : (k : Int) < (n : Int) := by omega
      have q1 : wr.drew.cell? (ad.add k) = some (.slice xa p xc) := q0
      have r1 : wr.drew.cell? (bd.add k) = some (.slice ya q yc) := r0
      clear hall hx hy hab hbb hpa hpb hx1 hx2 hz1 hz2 hp hq
      by_cases he : xl = yl
      · rw [decide_eq_true he] at cs
        have HY := hid (hyes he); have CS := hid cs
        clear hyes hno cs
        go_wp2_with fail
        go_region_with (go_at_call 36; refine CS.out.mono ?_; rintro e w1 ⟨rfl, hb1⟩)
        all_goals
          have HB1 := hid (hbel.trans (((Below.refl wr.heap.size wr).drew.trans hb1).mono hbel.size))
          clear hb1 q0 q1 r0 r1
          go_wp2
          go_roundw
          case rel => exact ⟨k + 1, by omega, by go_num, HY.out, HB1.out⟩
          case measure => simp [intOf]; omega
      · rw [decide_eq_false he] at cs
        have h0 := hno he
        rw [HF.out] at h0
        subst h0
        have CS := hid cs
        clear hyes hno cs
        go_wp2_with fail
        go_region_with (go_at_call 36; refine CS.out.mono ?_; rintro e w1 ⟨rfl, hb1⟩)
        all_goals
          have HB1 := hid (hbel.trans (((Below.refl wr.heap.size wr).drew.trans hb1).mono hbel.size))
          clear hb1 q0 q1 r0 r1
          go_wp2
          go_ret
          exact ⟨rfl, HB1.out⟩
    · obtain rfl : k = n := by omega
      have h0 : r = true := by
        rw [← HF.out]
        exact decide_eq_true (lsame_all HE.out (by rw [HN.out]; exact hall))
      subst h0
      clear hall
      go_wp2
      go_ret
      exact ⟨rfl, hbel⟩
end Go.Proofs.YtfiobemeogaaiaaGreat
namespace Go.Proofs.YtfiobemeogaaiaaGreat
open Lib (hid)
open Go.RowKit
set_option linter.unusedVariables false
set_option linter.unusedSimpArgs false
set_option maxRecDepth 100000 in
set_option maxHeartbeats 1600000 in
theorem push_some (ad : Addr) (l : List EPc) (c : Nat) (y : EPc) (w : World) (hp : SPcs w ⟨some ad, l, c⟩) (hy : EPcs w y) (hl : l.length ≤ 900) :
    Calls Tryz.prog 162 #[.slice (some ad) l.length c, stpV y.a y.l.length y.c, .int .i64 16] w (RetSRow w ((l ++ [y]).drop (l.length + 1 - 16))) := by
  obtain ⟨ya, yl, yc⟩ := y
  obtain ⟨n, hn⟩ : ∃ n, l.length = n := ⟨_, rfl⟩
  obtain ⟨m, hm⟩ : ∃ n, yl.length = n := ⟨_, rfl⟩
  simp only [hm]
  obtain ⟨W1, hW1⟩ : ∃ W1, w.alloc (.cells #[.slice ya m yc] 69) = W1 := ⟨_, rfl⟩
  have b1 : Below w.heap.size w W1 := by rw [← hW1]; exact (Below.refl _ _).alloc (Nat.le_refl _) _
  have B1 := Blk.new w #[.slice ya m yc] 69
  rw [hW1] at B1
  have x0 : W1.drew.cell? ⟨w.heap.size, 0, none⟩ = some (.slice ya m yc) := B1.cell 0 _ rfl
  have hcm : c ≤ maxLen := hp.cap
  have hnc : l.length ≤ c := hp.le
  rw [hn] at hnc hl ⊢
  unfold maxLen at hcm
  obtain ⟨j, hj⟩ : ∃ j, n + 1 - 16 = j := ⟨_, rfl⟩
  have hw1 : IntKind.i64.wrap ((n : Int) + 1) = (n : Int) + 1 := IntWalk.i64_in _ (by omega)
  have hw2 : IntKind.i64.wrap ((n : Int) + 1 - 16) = (n : Int) + 1 - 16 := IntWalk.i64_in _ (by omega)
  have hM : max 0 ((n : Int) + 1 - 16) = (j : Int) := by omega
  have hM0 : (0 : Int) ≤ (j : Int) := by omega
  have hM1 : (j : Int) ≤ (n : Int) := by omega
  have hA : (if c = j then some ad else some (ad.add j)) = some (ad.add j) := by
    split
    · rw [show j = 0 by omega]; rfl
    · rfl
  have e0 : (l ++ [(⟨ya, yl, yc⟩ : EPc)]).drop (n + 1 - 16) = l.drop j ++ [⟨ya, yl, yc⟩] := by rw [hj, List.drop_append_of_le_length (by omega)]
  rw [e0]
  obtain ⟨W, hW⟩ : ∃ W, W1.drew.alloc (.cells #[.slice ya m yc] 69) = W := ⟨_, rfl⟩
  have b2 : Below W1.heap.size W1 W := by rw [← hW]; exact ((Below.refl W1.heap.size W1).drew).alloc (Nat.le_refl _) _
  have B2 : Blk W W1.heap.size #[.slice ya m yc] 69 := by rw [← hW]; exact Blk.new W1.drew _ _
  have z2 : W.heap.size = W1.heap.size + 1 := by rw [← hW]; simp
  have hpW := (hp.later (b1.trans (b2.mono b1.size))).drop j
  have hyW := hy.later (b1.trans (b2.mono b1.size))
  have hq : SPcs W ⟨some ⟨W1.heap.size, 0, none⟩, [⟨ya, yl, yc⟩], 1⟩ := ⟨fun k hk => by
      match k, hk with
      | 0, _ => exact ⟨_, rfl, by show W1.heap.size < W.heap.size; omega, by rw [← hm] at B2; exact B2.cell 0 _ rfl⟩, fun x hx => by obtain rfl := List.mem_singleton.1 hx; exact hyW, fun e => (by cases e), Nat.le_refl _, by show 1 ≤ maxLen; decide⟩
  have cc := scat2 (n - j) 1 hpW hq (by rw [List.length_drop, hn]) rfl (by omega) 167
  simp only at cc
  rw [← hW, show (W1.drew.alloc (.cells #[.slice ya m yc] 69)).heap.size = W1.heap.size + 1 by simp] at cc
  have hfin : ∀ (L : List EPc) (e : Ending) (w' : World), RetSRow ((W1.drew.alloc (.cells #[.slice ya m yc] 69)).alloc (.cells #[.slice (some (ad.add j)) (n - j) (c - j), .slice (some ⟨W1.heap.size, 0, none⟩) 1 1] 167)) L e w' → RetSRow w L e w' := fun L e w' ⟨a', c', he, hr, hb⟩ => by
    have z : w.heap.size ≤ ((W1.drew.alloc (.cells #[.slice ya m yc] 69)).alloc (.cells #[.slice (some (ad.add j)) (n - j) (c - j), .slice (some ⟨W1.heap.size, 0, none⟩) 1 1] 167)).heap.size := by have := b1.size; simp; omega
    refine ⟨a', c', he, hr.mono z, ?_⟩
    exact (((b1.drew).alloc b1.size _).alloc (by have := b1.size; simp; omega) _).trans (hb.mono z)
  obtain ⟨L, hL⟩ : ∃ L, l.drop j ++ [(⟨ya, yl, yc⟩ : EPc)] = L := ⟨_, rfl⟩
  rw [hL] at cc ⊢
  have cc : Calls Tryz.prog 182 #[.slice (some ⟨W1.heap.size + 1, 0, none⟩) 2 2] ((W1.alloc (.cells #[.slice ya m yc] 69)).alloc (.cells #[.slice (some (ad.add j)) (n - j) (c - j), .slice (some ⟨W1.heap.size, 0, none⟩) 1 1] 167)).drew (RetSRow ((W1.drew.alloc (.cells #[.slice ya m yc] 69)).alloc (.cells #[.slice (some (ad.add j)) (n - j) (c - j), .slice (some ⟨W1.heap.size, 0, none⟩) 1 1] 167)) L) := cc
  have CC := hid cc; have HF := hid (hfin L)
  clear cc hfin hq hyW hpW B2 b2 z2 hW hp hy hn hm b1 B1 e0 hj hL
  go_enter Tryz.func162, Tryz.ntmps162
  go_wp2
  go_region_with (go_at_call 182; refine CC.out.mono ?_; intro e w2 hr; have HR := hid (HF.out _ _ hr); obtain ⟨a2, c2, rfl, -, -⟩ := hr)
  all_goals go_wp2
  all_goals go_ret
  all_goals exact HR.out
set_option maxRecDepth 100000 in
set_option maxHeartbeats 1600000 in
theorem push_none (y : EPc) (w : World) (hy : EPcs w y) :
    Calls Tryz.prog 162 #[.slice none 0 0, stpV y.a y.l.length y.c, .int .i64 16] w (RetSRow w [y]) := by
  obtain ⟨ya, yl, yc⟩ := y
  obtain ⟨m, hm⟩ : ∃ n, yl.length = n := ⟨_, rfl⟩
  simp only [hm]
  obtain ⟨W1, hW1⟩ : ∃ W1, w.alloc (.cells #[.slice ya m yc] 69) = W1 := ⟨_, rfl⟩
  have b1 : Below w.heap.size w W1 := by rw [← hW1]; exact (Below.refl _ _).alloc (Nat.le_refl _) _
  have B1 := Blk.new w #[.slice ya m yc] 69
  rw [hW1] at B1
  have x0 : W1.drew.cell? ⟨w.heap.size, 0, none⟩ = some (.slice ya m yc) := B1.cell 0 _ rfl
  obtain ⟨W, hW⟩ : ∃ W, W1.drew.alloc (.cells #[.slice ya m yc] 69) = W := ⟨_, rfl⟩
  have b2 : Below W1.heap.size W1 W := by rw [← hW]; exact ((Below.refl W1.heap.size W1).drew).alloc (Nat.le_refl _) _
  have B2 : Blk W W1.heap.size #[.slice ya m yc] 69 := by rw [← hW]; exact Blk.new W1.drew _ _
  have z2 : W.heap.size = W1.heap.size + 1 := by rw [← hW]; simp
  have hyW := hy.later (b1.trans (b2.mono b1.size))
  have hq : SPcs W ⟨some ⟨W1.heap.size, 0, none⟩, [⟨ya, yl, yc⟩], 1⟩ := ⟨fun k hk => by
      match k, hk with
      | 0, _ => exact ⟨_, rfl, by show W1.heap.size < W.heap.size; omega, by rw [← hm] at B2; exact B2.cell 0 _ rfl⟩, fun x hx => by obtain rfl := List.mem_singleton.1 hx; exact hyW, fun e => (by cases e), Nat.le_refl _, by show 1 ≤ maxLen; decide⟩
  have cc := scat2 0 1 (SPcs.empty W) hq rfl rfl (by omega) 167
  simp only [List.nil_append] at cc
  rw [← hW, show (W1.drew.alloc (.cells #[.slice ya m yc] 69)).heap.size = W1.heap.size + 1 by simp] at cc
  have hfin : ∀ (L : List EPc) (e : Ending) (w' : World), RetSRow ((W1.drew.alloc (.cells #[.slice ya m yc] 69)).alloc (.cells #[.slice none 0 0, .slice (some ⟨W1.heap.size, 0, none⟩) 1 1] 167)) L e w' → RetSRow w L e w' := fun L e w' ⟨a', c', he, hr, hb⟩ => by
    have z : w.heap.size ≤ ((W1.drew.alloc (.cells #[.slice ya m yc] 69)).alloc (.cells #[.slice none 0 0, .slice (some ⟨W1.heap.size, 0, none⟩) 1 1] 167)).heap.size := by have := b1.size; simp; omega
    refine ⟨a', c', he, hr.mono z, ?_⟩
    exact (((b1.drew).alloc b1.size _).alloc (by have := b1.size; simp; omega) _).trans (hb.mono z)
  obtain ⟨L, hL⟩ : ∃ L, [(⟨ya, yl, yc⟩ : EPc)] = L := ⟨_, rfl⟩
  rw [hL] at cc ⊢
  have cc : Calls Tryz.prog 182 #[.slice (some ⟨W1.heap.size + 1, 0, none⟩) 2 2] ((W1.alloc (.cells #[.slice ya m yc] 69)).alloc (.cells #[.slice none 0 0, .slice (some ⟨W1.heap.size, 0, none⟩) 1 1] 167)).drew (RetSRow ((W1.drew.alloc (.cells #[.slice ya m yc] 69)).alloc (.cells #[.slice none 0 0, .slice (some ⟨W1.heap.size, 0, none⟩) 1 1] 167)) L) := cc
  have CC := hid cc; have HF := hid (hfin L)
  clear cc hfin hq hyW B2 b2 z2 hW hy hm b1 B1 hL
  go_enter Tryz.func162, Tryz.ntmps162
  go_wp2
  go_region_with (go_at_call 182; refine CC.out.mono ?_; intro e w2 hr; have HR := hid (HF.out _ _ hr); obtain ⟨a2, c2, rfl, -, -⟩ := hr)
  all_goals go_wp2
  all_goals go_ret
  all_goals exact HR.out
theorem push_any (a : Option Addr) (l : List EPc) (c : Nat) (y : EPc) (w : World) (hp : SPcs w ⟨a, l, c⟩) (hy : EPcs w y) (hl : l.length ≤ 900) :
    Calls Tryz.prog 162 #[.slice a l.length c, stpV y.a y.l.length y.c, .int .i64 16] w (RetSRow w ((l ++ [y]).drop (l.length + 1 - 16))) := by
  cases a with
  | some ad => exact push_some ad l c y w hp hy hl
  | none =>
    have e0 : l = [] := hp.len rfl
    have e1 : c = 0 := hp.nil rfl
    subst e0
    subst e1
    exact push_none y w hy
set_option maxRecDepth 100000 in
set_option maxHeartbeats 1600000 in
theorem stk_push_any (a : Option Addr) (l : List EPc) (c : Nat) (y : EPc) (w : World) (hp : SPcs w ⟨a, l, c⟩) (hy : EPcs w y) (hl : l.length ≤ 900) (hb : ∀ x ∈ l, x.l.length ≤ 1000000) (hb2 : y.l.length ≤ 1000000) :
    Calls Tryz.prog 139 #[.slice a l.length c, stpV y.a y.l.length y.c] w (RetStk w (pushL (lsP l) y.l)) := by
  obtain ⟨ya, yl, yc⟩ := y
  simp only at hb2
  obtain ⟨W1, hW1⟩ : ∃ W1, w.alloc (.cells #[.slice ya yl.length yc] 69) = W1 := ⟨_, rfl⟩
  have b1 : Below w.heap.size w W1 := by rw [← hW1]; exact (Below.refl _ _).alloc (Nat.le_refl _) _
  have B1 := Blk.new w #[.slice ya yl.length yc] 69
  rw [hW1] at B1
  have x0 : W1.cell? ⟨w.heap.size, 0, none⟩ = some (.slice ya yl.length yc) := B1.cell 0 _ rfl
  have cp := push_any a l c ⟨ya, yl, yc⟩ W1 (hp.later b1) (hy.later b1) hl
  have he : lsP ((l ++ [(⟨ya, yl, yc⟩ : EPc)]).drop (l.length + 1 - 16)) = pushL (lsP l) yl := by
    unfold pushL
    rw [lsP_drop, lsP_app, lsP_len]
    rfl
  have hlen : ((l ++ [(⟨ya, yl, yc⟩ : EPc)]).drop (l.length + 1 - 16)).length ≤ 1000 := by rw [List.length_drop, List.length_append]; simp; omega
  have hbb : ∀ x ∈ (l ++ [(⟨ya, yl, yc⟩ : EPc)]).drop (l.length + 1 - 16), x.l.length ≤ 1000000 := fun x hx => by
    rcases List.mem_append.1 (List.mem_of_mem_drop hx) with h | h
    · exact hb x h
    · obtain rfl := List.mem_singleton.1 h
      exact hb2
  obtain ⟨n, hn⟩ : ∃ n, l.length = n := ⟨_, rfl⟩
  obtain ⟨m, hm⟩ : ∃ n, yl.length = n := ⟨_, rfl⟩
  rw [hn] at cp he hlen hbb
  obtain ⟨Q, hQ⟩ : ∃ Q, (l ++ [(⟨ya, yl, yc⟩ : EPc)]).drop (n + 1 - 16) = Q := ⟨_, rfl⟩
  rw [hQ] at cp he hlen hbb
  simp only [hm] at cp x0 hW1 ⊢
  rw [hn]
  rw [← he]
  have ce := fun a2 c2 w2 (h : SRow w2 W1.heap.size ⟨a2, Q, c2⟩) => each_any a2 Q c2 w2 h.in hlen hbb
  obtain ⟨q, hq⟩ : ∃ q, Q.length = q := ⟨_, rfl⟩
  have cp : Calls Tryz.prog 162 #[.slice a n c, stpV ya m yc, .int .i64 16] W1 fun e w2 => ∃ a2 c2, e = .returned (.slice a2 q c2) ∧ SRow w2 W1.heap.size ⟨a2, Q, c2⟩ ∧ Below W1.heap.size W1 w2 := by rw [← hq]; exact cp
  rw [hq] at ce
  have CP := hid cp; have CE := hid ce; have HB1 := hid b1
  clear cp ce b1 B1 hp hy hb hb2 hlen hbb hQ he hq hn hm
  go_enter Tryz.func139, Tryz.ntmps139
  go_wp2_with fail
  refine CP.out.mono ?_
  rintro e w2 ⟨a2, c2, rfl, hr2, hb2⟩
  have HB2 := hid (HB1.out.trans (hb2.mono HB1.out.size)); have HR2 := hid hr2; clear hr2 hb2
  go_wp2_with fail
  refine (CE.out _ _ _ HR2.out).mono ?_
  rintro e w3 ⟨a3, c3, l3, rfl, hl3, hr3, ⟨g3, eg3, hg3, hq3⟩, ho3, hb3⟩
  have HB3 := hid (HB2.out.trans (hb3.mono HB2.out.size)); have HR3 := hid (hr3.mono HB2.out.size); have HQ3 := hid (show ∃ g, a3 = some ⟨g, 0, none⟩ ∧ w.heap.size ≤ g ∧ ∀ x ∈ l3, ERow w3 (g + 1) x from ⟨g3, eg3, Nat.le_trans HB2.out.size hg3, hq3⟩); have HO3 := hid (own_mono ho3 HB2.out.size); clear hr3 hb3 hq3 ho3 eg3 hg3
  go_wp2
  go_ret
  exact ⟨a3, c3, l3, rfl, hl3, HR3.out, HQ3.out, HO3.out, HB3.out⟩
end Go.Proofs.YtfiobemeogaaiaaGreat
namespace Go.Proofs.YtfiobemeogaaiaaGreat
open Lib (hid)
open Go.RowKit
set_option linter.unusedVariables false
set_option linter.unusedSimpArgs false
def RetPop (w : World) (L : List (List Edt)) (s : List Edt) (e : Ending) (w' : World) : Prop :=
  ∃ a c l a2 c2, e = .returned (.tuple #[.slice a l.length c, stpV a2 s.length c2, .int .i64 0]) ∧ lsP l = L ∧ SRow w' w.heap.size ⟨a, l, c⟩ ∧ (∀ x ∈ l, ERow w' w.heap.size x) ∧ ERow w' w.heap.size ⟨a2, s, c2⟩ ∧ Below w.heap.size w w'
set_option maxRecDepth 100000 in
set_option maxHeartbeats 800000 in
theorem stk_pop_none (a : Option Addr) (c : Nat) (w : World) :
    Calls Tryz.prog 138 #[.slice a 0 c] w fun e w' => e = .returned (.tuple #[.slice none 0 0, stpV none 0 0, .int .i64 10]) ∧ Below w.heap.size w w' := by
  obtain ⟨W, hW⟩ : ∃ W, w.alloc (.cells #[.slice none 0 0] 69) = W := ⟨_, rfl⟩
  have hb0 : Below w.heap.size w W := by rw [← hW]; exact (Below.refl w.heap.size w).alloc (Nat.le_refl _) _
  have B := Blk.new w #[.slice none 0 0] 69
  rw [hW] at B
  have HB0 := hid hb0; have HBK := hid B; have cp := pop_none a c W
  have CP := hid cp
  clear hb0 B cp
  go_enter Tryz.func138, Tryz.ntmps138
  go_wp2_with fail
  refine CP.out.mono ?_
  rintro e w1 ⟨rfl, hb1⟩
  have B1 := HBK.out.onto hb1
  have B2 := B1.alloc (.cells #[.slice none 0 0] 69)
  have q2 : (w1.alloc (.cells #[.slice none 0 0] 69)).cell? ⟨w.heap.size, 0, none⟩ = some (.slice none 0 0) := B2.cell 0 _ rfl
  have q4 : ((w1.alloc (.cells #[.slice none 0 0] 69)).setCell ⟨w.heap.size, 0, none⟩ (.slice none 0 0)).cell? ⟨w.heap.size, 0, none⟩ = some (.slice none 0 0) := World.cell?_setCell_same' _ _ _ (by rw [q2]; rfl)
  have q3 := B2.free 0
  have HB1 := hid ((((HB0.out.trans (hb1.mono HB0.out.size)).alloc (Nat.le_trans HB0.out.size hb1.size) (.cells #[.slice none 0 0] 69))).setCell (p := ⟨w.heap.size, 0, none⟩) (Nat.le_refl _) (.slice none 0 0))
  clear B1 B2 hb1
  go_wp2
  refine bodyPost_ret (v := .tuple #[.slice none 0 0, stpV none 0 0, .int .i64 10]) (by simp [results, Tryz.results138, go_sem, q4]) rfl ?_
  exact ⟨rfl, HB1.out⟩
set_option maxRecDepth 100000 in
set_option maxHeartbeats 1600000 in
theorem stk_pop_some (a : Option Addr) (l : List EPc) (c k : Nat) (w : World) (hp : SPcs w ⟨a, l, c⟩) (hl : l.length = k + 1) (hk : k ≤ 900) (hb : ∀ x ∈ l, x.l.length ≤ 1000000) :
    Calls Tryz.prog 138 #[.slice a (k + 1 : Nat) c] w (RetPop w ((lsP l).take k) (l[k]!).l) := by
  obtain ⟨ad, ha, hab, hcell⟩ := hp.row k (by show k < l.length; omega)
  have ha : a = some ad := ha
  subst ha
  have hcell : w.cell? (ad.add k) = some (l[k]!).v := hcell
  have hx1 : EPcs w (l[k]!) := hp.all.at k (by show k < l.length; omega)
  have hx2 := hb (l[k]!) (by rw [epget (show k < l.length by omega)]; exact List.getElem_mem _)
  have hkc : k + 1 ≤ c := by have h : l.length ≤ c := hp.le; omega
  have hcm : c ≤ maxLen := hp.cap
  obtain ⟨y, hy⟩ : ∃ y, l[k]! = y := ⟨_, rfl⟩
  rw [hy] at hcell hx1 hx2 ⊢
  obtain ⟨W, hW⟩ : ∃ W, w.alloc (.cells #[.slice none 0 0] 69) = W := ⟨_, rfl⟩
  have hb0 : Below w.heap.size w W := by rw [← hW]; exact (Below.refl w.heap.size w).alloc (Nat.le_refl _) _
  have hbs : w.heap.size < W.heap.size := by rw [← hW]; simp
  have B := Blk.new w #[.slice none 0 0] 69
  rw [hW] at B
  have hlt := World.block_lt_of_cell? w _ hcell
  have cp := pop_some ad c k y W ((hb0.cell hlt).trans hcell) hkc hcm
  have hpt := (hp.later hb0).take k
  have hlk : (l.take k).length = k := by rw [List.length_take]; omega
  have ce := fun w2 (h : Below W.heap.size W w2) => each_any (some ad) (l.take k) c w2 (hpt.later h) (by omega) (fun x hx => hb x (List.mem_of_mem_take hx))
  rw [hlk, lsP_take] at ce
  obtain ⟨ya, yl, yc⟩ := y
  simp only at cp hx1 hx2 ⊢
  have co := fun w2 (h : Below W.heap.size W w2) => own_any ya yl yc w2 ((hx1.later hb0).later h) hx2
  obtain ⟨m, hm⟩ : ∃ m, yl.length = m := ⟨_, rfl⟩
  have co : ∀ w2, Below W.heap.size W w2 → Calls Tryz.prog 161 #[stpV ya m yc] w2 fun e w' => ∃ a2 c2, e = .returned (stpV a2 m c2) ∧ ERow w' w2.heap.size ⟨a2, yl, c2⟩ ∧ Below w2.heap.size w2 w' := fun w2 h => by rw [← hm]; exact co w2 h
  rw [hm] at cp
  have HM := hid hm
  have HB0 := hid hb0; have HBK := hid B; have CP := hid cp; have CE := hid ce; have CO := hid co; have HBS := hid hbs
  obtain ⟨L, hL⟩ : ∃ L, (lsP l).take k = L := ⟨_, rfl⟩
  rw [hL] at CE ⊢
  clear hb0 B cp ce co hp hl hb hx1 hx2 hcell hy hlt hpt hlk hm hkc hcm hab hbs hL
  go_enter Tryz.func138, Tryz.ntmps138
  go_wp2_with fail
  refine CP.out.mono ?_
  rintro e w1 ⟨rfl, hb1⟩
  have HW1 := hid (Nat.lt_of_lt_of_le HBS.out hb1.size)
  have HX := hid (Blk.new w1 #[.slice ya m yc] 69)
  have HK := hid ((HBK.out.onto hb1).alloc (.cells #[.slice ya m yc] 69))
  have HB1 := hid (hb1.alloc hb1.size (.cells #[.slice ya m yc] 69))
  obtain ⟨w2, hw2⟩ : ∃ w2, w1.alloc (.cells #[.slice ya m yc] 69) = w2 := ⟨_, rfl⟩
  rw [hw2] at HX HK HB1
  have x0 : w2.drew.cell? ⟨w1.heap.size, 0, none⟩ = some (.slice ya m yc) := HX.out.cell 0 _ rfl
  have HX1 := hid HX.out.lt
  clear hb1
  go_wp2
  go_region_with (first
    | (go_at_call 160; refine (CE.out _ HB1.out.drew).mono ?_; rintro e w3 ⟨a3, c3, l3, rfl, hl3, hr3, ⟨g3, -, hg3, hq3⟩, -, hb3⟩; have hb3 : Below w2.heap.size w2 w3 := ((Below.refl w2.heap.size w2).drew).trans hb3; have x1 := (hb3.cell (p := ⟨w1.heap.size, 0, none⟩) HX1.out).trans x0; have HB3 := hid hb3; have HR3 := hid hr3; have HQ3 := hid (fun x hx => (hq3 x hx).mono (b2 := w2.heap.size) (Nat.le_succ_of_le hg3)); have HL3 := hid hl3; clear hb3 hr3 hq3 hl3 hg3)
    | (go_at_call 161; refine (CO.out _ (HB1.out.trans (HB3.out.mono HB1.out.size))).mono ?_; rintro e w4 ⟨a4, c4, rfl, hr4, hb4⟩; have HB4 := hid (HB3.out.trans (hb4.mono HB3.out.size)); have HR4 := hid hr4; have HR5 := hid (HR3.out.below hb4); have HQ5 := hid (fun x hx => (HQ3.out x hx).below hb4); have k5 := HK.out.onto HB4.out; have x5 : w4.cell? ⟨w.heap.size, 0, none⟩ = some (.slice none 0 0) := k5.cell 0 _ rfl; have x6 := k5.free 0; clear hb4 hr4 k5))
  all_goals
    have q4 : (w4.setCell ⟨w.heap.size, 0, none⟩ (.slice a4 m c4)).cell? ⟨w.heap.size, 0, none⟩ = some (.slice a4 m c4) := World.cell?_setCell_same' _ _ _ (by rw [x5]; rfl)
    go_wp2
    refine bodyPost_ret (v := .tuple #[.slice a3 l3.length c3, stpV a4 m c4, .int .i64 0]) (by simp [results, Tryz.results138, go_sem, q4]) rfl ?_
    have hs2 : w.heap.size < w2.heap.size := Nat.lt_trans HW1.out HX1.out
    have hs3 : w.heap.size < w3.heap.size := Nat.lt_of_lt_of_le hs2 HB3.out.size
    exact ⟨a3, c3, l3, a4, c4, by rw [HM.out], HL3.out, (HR5.out.set (p := ⟨w.heap.size, 0, none⟩) hs2 x5 _).mono (Nat.le_of_lt hs2), fun x hx => ((HQ5.out x hx).set (p := ⟨w.heap.size, 0, none⟩) hs2 _).mono (Nat.le_of_lt hs2), (HR4.out.set (p := ⟨w.heap.size, 0, none⟩) hs3 _).mono (Nat.le_of_lt hs3), (HB0.out.trans ((HB1.out.trans (HB4.out.mono HB1.out.size)).mono HB0.out.size)).setCell (p := ⟨w.heap.size, 0, none⟩) (Nat.le_refl _) _⟩
end Go.Proofs.YtfiobemeogaaiaaGreat
namespace Go.Proofs.YtfiobemeogaaiaaGreat
open Lib (hid)
open Go.RowKit
set_option linter.unusedVariables false
set_option linter.unusedSimpArgs false
def PopS (l : List EPc) (a : Option Addr) (c n : Nat) (ra : Option Addr) (rk rc : Nat) (ta : Option Addr) (tn tc : Nat) (ok : Bool) : Prop :=
  (n = 0 ∧ ra = none ∧ rk = 0 ∧ rc = 0 ∧ ta = none ∧ tn = 0 ∧ tc = 0 ∧ ok = false) ∨
  (∃ k, n = k + 1 ∧ ra = a ∧ rk = k ∧ rc = c ∧ ta = (l[k]!).a ∧ tn = (l[k]!).l.length ∧ tc = (l[k]!).c ∧ ok = true)
def popM (rv ov : Value) : Nat := match ov, rv with
  | .bool true, .slice _ k _ => k + 1
  | _, _ => 0
theorem PopS.m {l : List EPc} {a : Option Addr} {c n : Nat} {ra : Option Addr} {rk rc : Nat} {ta : Option Addr} {tn tc : Nat} {ok : Bool} (h : PopS l a c n ra rk rc ta tn tc ok) : popM (.slice ra rk rc) (.bool ok) = n := by
  rcases h with ⟨rfl, -, -, -, -, -, -, rfl⟩ | ⟨k, rfl, -, rfl, -, -, -, -, rfl⟩
  · rfl
  · rfl
theorem pop_any (l : List EPc) (a : Option Addr) (c n : Nat) (w : World) (hp : SPcs w ⟨a, l, c⟩) (hn : n ≤ l.length) :
    Calls Tryz.prog 145 #[.slice a n c] w fun e w' => ∃ ra rk rc ta tn tc ok, e = .returned (.tuple #[.slice ra rk rc, stpV ta tn tc, .bool ok]) ∧ PopS l a c n ra rk rc ta tn tc ok ∧ Below w.heap.size w w' := by
  cases n with
  | zero => exact (pop_none a c w).mono fun e w' ⟨he, hb⟩ => ⟨none, 0, 0, none, 0, 0, false, he, .inl ⟨rfl, rfl, rfl, rfl, rfl, rfl, rfl, rfl⟩, hb⟩
  | succ k =>
    obtain ⟨ad, ha, -, hc⟩ := hp.row k (by show k < l.length; omega)
    have ha : a = some ad := ha
    subst ha
    have h := pop_some ad c k (l[k]!) w hc (by have h : l.length ≤ c := hp.le; omega) hp.cap
    exact h.mono fun e w' ⟨he, hb⟩ => ⟨some ad, k, c, _, _, _, true, he, .inr ⟨k, rfl, rfl, rfl, rfl, rfl, rfl, rfl, rfl⟩, hb⟩
structure ByF (f : List Edt → List Edt) (F : FuncId) : Prop where
  enter : ∀ (args : Array Value) (w : World), (callFunc F args).run Tryz.prog w = .ok (.enter F args) w
  len : ∀ l, (f l).length = l.length
  z : ∀ l b, Edtz l b → Edtz (f l) b
  call : ∀ (a : Option Addr) (l : List Edt) (c : Nat) (w : World), EPcs w ⟨a, l, c⟩ → l.length ≤ 100000 → Calls Tryz.prog F #[stpV a l.length c] w fun e w' => ∃ a' c', e = .returned (stpV a' (f l).length c') ∧ EPcs w' ⟨a', f l, c'⟩ ∧ Below w.heap.size w w'
set_option maxRecDepth 100000 in
theorem by_inverse : ByF invL 88 := ⟨fun _ _ => by rfl, invL_len, fun _ _ h => h.inv, fun a l c w h hl =>
  (sinv_any a l c w h.row hl).mono fun e w' ⟨a', c', he, hr, hb⟩ => ⟨a', c', he, hr.in, hb⟩⟩
set_option maxRecDepth 100000 in
theorem by_same : ByF id 125 := ⟨fun _ _ => by rfl, fun _ => rfl, fun _ _ h => h, fun a l c w h hl =>
  (same_step a l.length c w).mono fun e w' ⟨he, hb⟩ => ⟨a, c, he, h.later hb, hb⟩⟩
def HeadR (f : List Edt → List Edt) (l : List EPc) (a : Option Addr) (c : Nat) (R : Bool) (w : World) (tv rv bv ov : Value) (wr : World) : Prop :=
  ∃ (m : Nat) (s : ByteArray) (b : Nat) (ra : Option Addr) (rk rc : Nat) (ta : Option Addr) (tn tc : Nat) (ok : Bool),
    tv = .string s ∧ rv = .slice ra rk rc ∧ bv = .pointer (some ⟨b, 0, none⟩) ∧ ov = .bool ok ∧ PopS l a c m ra rk rc ta tn tc ok ∧ m ≤ l.length ∧ s.size ≤ 4294967296 ∧ goesE f s ((lsP l).take m).reverse = R ∧
    w.heap.size ≤ b ∧ b < wr.heap.size ∧ wr.cell? ⟨b, 0, none⟩ = some (.slice ta tn tc) ∧ wr.frozen? ⟨b, 0, none⟩ = false ∧ Below w.heap.size w wr
set_option maxRecDepth 100000 in
set_option maxHeartbeats 3200000 in
theorem runs_any {f : List Edt → List Edt} {F : FuncId} (by1 : ByF f F) (t : ByteArray) (a : Option Addr) (l : List EPc) (c : Nat) (w : World) (hp : SPcs w ⟨a, l, c⟩) (ht : t.size ≤ 4294967296) (hl : l.length ≤ 1000000) (hb : ∀ x ∈ l, x.l.length ≤ 100000 ∧ Edtz x.l 4294967296) :
    Calls Tryz.prog 121 #[.string t, .slice a l.length c, .func (.func F) #[] #[]] w fun e w' => e = .returned (.bool (goes16 f t (lsP l))) ∧ Below w.heap.size w w' := by
  have he : (goes16 f t (lsP l)) = (goesE f t (lsP l).reverse && decide (l.length ≤ 16)) := by unfold goes16; rw [lsP_len]
  rw [he]
  obtain ⟨n, hn⟩ : ∃ n, l.length = n := ⟨_, rfl⟩
  rw [hn] at hl ⊢
  by_cases h16 : 16 < n
  · have h1 : (16 : Int) < (n : Int) := by omega
    have h2 : (goesE f t (lsP l).reverse && decide (n ≤ 16)) = false := by rw [decide_eq_false (by omega), Bool.and_false]
    rw [h2]
    clear he h2 hn hp hb
    go_enter Tryz.func121, Tryz.ntmps121
    go_wp2
    go_ret
    exact ⟨rfl, Below.refl _ _⟩
  have h1 : (n : Int) ≤ 16 := by omega
  rw [decide_eq_true (show n ≤ 16 by omega), Bool.and_true]
  obtain ⟨R, hR⟩ : ∃ R, goesE f t (lsP l).reverse = R := ⟨_, rfl⟩
  rw [hR]
  have hR0 : goesE f t ((lsP l).take n).reverse = R := by rw [List.take_of_length_le (by rw [lsP_len, hn]; exact Nat.le_refl _)]; exact hR
  have ce := by1.enter
  have cp := pop_any l a c n w hp (by omega)
  have HP := hid hp; have HN := hid hn; have HR0 := hid hR0; have HBB := hid hb; have CP := hid cp; have BY := hid by1
  clear hp hn hR hR0 hb cp he by1
  go_enter Tryz.func121, Tryz.ntmps121
  go_wp2_with fail
  refine CP.out.mono ?_
  rintro e w1 ⟨ra, rk, rc, ta, tn, tc, ok, rfl, hps, hb1⟩
  have HPS := hid hps; have HB1 := hid (hb1.alloc hb1.size (.cells #[.slice ta tn tc] 69)); have HK := hid (Blk.new w1 #[.slice ta tn tc] 69); have HWW := hid hb1.size
  clear hps hb1
  go_wp2
  clear CP
  go_loopw [0, 7, 8, 9] (fun tv rv bv ov wr => HeadR f l a c R w tv rv bv ov wr) (fun _ rv _ ov _ => popM rv ov)
  case atStart => exact ⟨n, t, w1.heap.size, ra, rk, rc, ta, tn, tc, ok, rfl, rfl, rfl, rfl, HPS.out, Nat.le_of_eq HN.out.symm, ht, HR0.out, HWW.out, HK.out.lt, HK.out.cell 0 _ rfl, HK.out.free 0, HB1.out⟩
  case round =>
    obtain ⟨m, s, b, ra, rk, rc, ta, tn, tc, ok, rfl, rfl, rfl, rfl, hps, hml, hs, hgo, hwb, hbl, x0, x5, hbel⟩ := hrel
    rcases hps with ⟨rfl, rfl, rfl, rfl, rfl, rfl, rfl, rfl⟩ | ⟨k, rfl, rfl, rfl, rfl, rfl, rfl, rfl, rfl⟩
    · have h0 : R = true := hgo.symm
      subst h0
      clear hgo x0 x5
      go_wp2
      go_ret
      exact ⟨rfl, hbel⟩
    · have hkl : rk < l.length := hml
      rw [rev_take _ _ (by rw [lsP_len]; exact hkl), lsP_get l rk hkl] at hgo
      have hx1 := (HP.out.later hbel).all.at rk hkl
      obtain ⟨hx2, hx3⟩ := HBB.out (l[rk]!) (by rw [epget hkl]; exact List.getElem_mem hkl)
      obtain ⟨y, hy⟩ : ∃ y, l[rk]! = y := ⟨_, rfl⟩
      rw [hy] at x0 hx1 hx2 hx3 hgo
      obtain ⟨ya, yl, yc⟩ := y
      simp only at x0 hx2 hx3 hgo
      have cb := BY.out.call ya yl yc wr hx1 hx2
      have hz := BY.out.z yl _ hx3
      have hlen := BY.out.len yl
      obtain ⟨q, hq⟩ : ∃ q, yl.length = q := ⟨_, rfl⟩
      obtain ⟨Y, hY⟩ : ∃ Y, f yl = Y := ⟨_, rfl⟩
      rw [hY] at cb hz hlen
      rw [hlen] at cb
      rw [hq] at cb x0 hx2 hlen
      have c1 := fun a' c' W (h : EPcs W ⟨a', Y, c'⟩) => sright_any s a' Y c' W h.row hs (by omega) hz
      have c2 := fun a' c' W (h : EPcs W ⟨a', Y, c'⟩) => srun_any s a' Y c' W h.row hs (by omega) hz
      rw [hlen] at c1 c2
      have hsz := rightS_size (t := s) (l := Y)
      have hg1 := goesE_no (f := f) (t := s) (x := yl) (r := ((lsP l).take rk).reverse)
      have hg2 := goesE_ok (f := f) (t := s) (x := yl) (r := ((lsP l).take rk).reverse)
      rw [hY, hgo] at hg1 hg2
      obtain ⟨⟨u, e0⟩, hu⟩ : ∃ z, runE s Y = z := ⟨_, rfl⟩
      obtain ⟨r, hr⟩ : ∃ r, rightS s Y = r := ⟨_, rfl⟩
      rw [hr] at c1 hsz hg1 hg2
      rw [hu] at c2 hsz hg2
      have CB := hid cb; have C1 := hid c1; have C2 := hid c2
      clear cb c1 c2 hgo hy hz hlen hx1 hx2 hx3 hq hY hu hr
      cases r with
      | false =>
        have h0 := hg1 rfl
        subst h0
        clear hg1 hg2 hsz
        go_wp2_with fail
        refine CB.out.mono ?_
        rintro e w2 ⟨a2, c2, rfl, hr2, hb2⟩
        have hb3 : Below wr.heap.size wr (w2.alloc (.cells #[.slice a2 q c2] 69)) := hb2.alloc hb2.size _
        have HR2 := hid (hr2.later ((Below.refl w2.heap.size w2).alloc (Nat.le_refl _) (.cells #[.slice a2 q c2] 69)))
        have HB2 := hid (hbel.trans (hb3.mono hbel.size))
        clear hr2 hb2 hb3 x0 x5 hbel
        go_wp2_with fail
        refine (C1.out _ _ _ HR2.out).mono ?_
        rintro e w3 ⟨rfl, hb3⟩
        have HB3 := hid (HB2.out.trans (hb3.mono HB2.out.size))
        clear hb3
        go_wp2
        go_ret
        exact ⟨rfl, HB3.out⟩
      | true =>
        have h0 := hg2 rfl
        have h1 : u.size ≤ max s.size 4096 := hsz rfl
        clear hg1 hg2 hsz
        have CPK := hid (fun W (hB : Below w.heap.size w W) => pop_any l ra rc rk W (HP.out.later hB) (Nat.le_of_lt hkl))
        go_wp2_with fail
        refine CB.out.mono ?_
        rintro e w2 ⟨a2, c2, rfl, hr2, hb2⟩
        have hb3 : Below wr.heap.size wr (w2.alloc (.cells #[.slice a2 q c2] 69)) := hb2.alloc hb2.size _
        have HR2 := hid (hr2.later ((Below.refl w2.heap.size w2).alloc (Nat.le_refl _) (.cells #[.slice a2 q c2] 69)))
        have HX2 := hid (Blk.new w2 #[.slice a2 q c2] 69)
        have HB2 := hid hb3
        clear hr2 hb2 hb3
        go_wp2_with fail
        refine (C1.out _ _ _ HR2.out).mono ?_
        rintro e w3 ⟨rfl, hb3⟩
        have HR3 := hid (HR2.out.later hb3)
        have y3 : w3.cell? ⟨w2.heap.size, 0, none⟩ = some (.slice a2 q c2) := (HX2.out.onto hb3).cell 0 _ rfl
        have HB3 := hid (HB2.out.trans (hb3.mono HB2.out.size))
        clear hb3
        go_wp2_with fail
        refine (C2.out _ _ _ HR3.out).mono ?_
        rintro e w4 ⟨rfl, hb4⟩
        have hb5 : Below wr.heap.size wr w4 := HB3.out.trans (hb4.mono HB3.out.size)
        have z0 := (hb5.cell (p := ⟨b, 0, none⟩) hbl).trans x0
        have HB5 := hid ((hbel.trans (hb5.mono hbel.size)).alloc (Nat.le_trans hbel.size hb5.size) (.cells #[.slice ya q yc] 69))
        have HX5 := hid (Blk.new w4 #[.slice ya q yc] 69)
        have HW4 := hid (Nat.le_trans hbel.size hb5.size)
        clear hb4 hb5 x0 x5 y3 hbel
        go_wp2_with fail
        refine (CPK.out _ HB5.out).mono ?_
        rintro e w6 ⟨ra', rk', rc', ta', tn', tc', ok', rfl, hps, hb6⟩
        have q0 : w6.cell? ⟨w4.heap.size, 0, none⟩ = some (.slice ya q yc) := (HX5.out.onto hb6).cell 0 _ rfl
        have q5 := (HX5.out.onto hb6).free 0
        have HPS6 := hid hps
        have HX6 := hid ((HX5.out.onto hb6).set 0 (.slice ta' tn' tc'))
        have HB6 := hid ((HB5.out.trans (hb6.mono HB5.out.size)).setCell (p := ⟨w4.heap.size, 0, none⟩) HW4.out (.slice ta' tn' tc'))
        clear hb6 hps z0
        go_wp2
        go_roundw
        case rel => exact ⟨rk, u, w4.heap.size, ra', rk', rc', ta', tn', tc', ok', rfl, rfl, rfl, rfl, HPS6.out, Nat.le_of_lt hkl, by omega, h0.symm, HW4.out, HX6.out.lt, HX6.out.cell 0 _ rfl, HX6.out.free 0, HB6.out⟩
        case measure =>
          rw [HPS6.out.m]
          show rk < rk + 1
          omega
theorem undoes_any (t : ByteArray) (a : Option Addr) (l : List EPc) (c : Nat) (w : World) (hp : SPcs w ⟨a, l, c⟩) (ht : t.size ≤ 4294967296) (hl : l.length ≤ 1000000) (hb : ∀ x ∈ l, x.l.length ≤ 100000 ∧ Edtz x.l 4294967296) :
    Calls Tryz.prog 83 #[.string t, .slice a l.length c] w fun e w' => e = .returned (.bool (goes16 invL t (lsP l))) ∧ Below w.heap.size w w' := by
  have cr := runs_any by_inverse t a l c w hp ht hl hb
  obtain ⟨R, hR⟩ : ∃ R, goes16 invL t (lsP l) = R := ⟨_, rfl⟩
  obtain ⟨n, hn⟩ : ∃ n, l.length = n := ⟨_, rfl⟩
  rw [hR, hn] at cr
  rw [hR, hn]
  have CR := hid cr
  clear cr hR hn hp hl hb
  go_enter Tryz.func83, Tryz.ntmps83
  go_wp2_with fail
  refine CR.out.mono ?_; rintro e w1 ⟨rfl, hb1⟩
  go_wp2
  go_ret
  exact ⟨rfl, hb1⟩
theorem redoes_any (t : ByteArray) (a : Option Addr) (l : List EPc) (c : Nat) (w : World) (hp : SPcs w ⟨a, l, c⟩) (ht : t.size ≤ 4294967296) (hl : l.length ≤ 1000000) (hb : ∀ x ∈ l, x.l.length ≤ 100000 ∧ Edtz x.l 4294967296) :
    Calls Tryz.prog 87 #[.string t, .slice a l.length c] w fun e w' => e = .returned (.bool (goes16 id t (lsP l))) ∧ Below w.heap.size w w' := by
  have cr := runs_any by_same t a l c w hp ht hl hb
  obtain ⟨R, hR⟩ : ∃ R, goes16 id t (lsP l) = R := ⟨_, rfl⟩
  obtain ⟨n, hn⟩ : ∃ n, l.length = n := ⟨_, rfl⟩
  rw [hR, hn] at cr
  rw [hR, hn]
  have CR := hid cr
  clear cr hR hn hp hl hb
  go_enter Tryz.func87, Tryz.ntmps87
  go_wp2_with fail
  refine CR.out.mono ?_; rintro e w1 ⟨rfl, hb1⟩
  go_wp2
  go_ret
  exact ⟨rfl, hb1⟩
end Go.Proofs.YtfiobemeogaaiaaGreat
