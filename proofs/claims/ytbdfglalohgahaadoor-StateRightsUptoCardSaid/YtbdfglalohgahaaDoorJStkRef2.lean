/-
  Joined: StkRef2, StkDev3, StkDev4, StkDev5.
-/
import Derived.Test.YtbdfglalohgahaaDoorJStkRow
import Derived.Test.YtbdfglalohgahaaDoorJStepRef2
import Derived.Deep.RegionWith
import Derived.Test.YtbdfglalohgahaaDoorJStepRef
namespace Go.Proofs.YtbdfglalohgahaaDoor
open Go.RowKit
set_option linter.unusedVariables false
set_option linter.unusedSimpArgs false

set_option maxRecDepth 100000 in
set_option maxHeartbeats 3200000 in
theorem rundoes_any (t : ByteArray) (a : Option Addr) (l : List EPc) (c : Nat) (w : World) (hp : SPcs w ⟨a, l, c⟩) (ht : t.size ≤ 4294967296) (hl : l.length ≤ 1000000) (hb : ∀ x ∈ l, x.l.length ≤ 100000 ∧ Edtz x.l 4294967296) :
    Calls Tryd.prog 32 #[.string t, .slice a l.length c] w fun e w' => e = .returned (.bool (goes16 invL t (lsP l))) ∧ Below w.heap.size w w' := by
  have he : (goes16 invL t (lsP l)) = (goesE invL t (lsP l).reverse && decide (l.length ≤ 16)) := by unfold goes16; rw [lsP_len]
  rw [he]
  obtain ⟨n, hn⟩ : ∃ n, l.length = n := ⟨_, rfl⟩
  rw [hn] at hl ⊢
  obtain ⟨R, hR⟩ : ∃ R, goesE invL t (lsP l).reverse = R := ⟨_, rfl⟩
  rw [hR]
  have hR0 : goesE invL t ((lsP l).take n).reverse = R := by rw [List.take_of_length_le (by rw [lsP_len, hn]; exact Nat.le_refl _)]; exact hR
  obtain ⟨A, hA⟩ : ∃ A, (R && decide (n ≤ 16)) = A := ⟨_, rfl⟩
  rw [hA]
  have HP := Lib.hid hp; have HN := Lib.hid hn; have HR0 := Lib.hid hR0; have HBB := Lib.hid hb; have HA := Lib.hid hA
  clear hp hn hR hR0 hb he hA
  go_enter Tryd.func32, Tryd.ntmps32
  go_wp2
  go_loopw [0, 5] (fun tv i wr => ∃ (k : Nat) (z : Int) (s : ByteArray), k ≤ n ∧ i = .int .i64 z ∧ z = (k : Int) - 1 ∧ tv = .string s ∧ s.size ≤ 4294967296 ∧ goesE invL s ((lsP l).take k).reverse = R ∧ Below w.heap.size w wr) (fun _ i _ => (intOf i + 1).toNat)
  case atStart => exact ⟨n, (n : Int) - 1, t, Nat.le_refl _, rfl, rfl, rfl, ht, HR0.out, Below.refl _ _⟩
  case round =>
    obtain ⟨m, z, s, hm, rfl, hzm, rfl, hs, hgo, hbel⟩ := hrel
    cases m with
    | zero =>
      have h0 : true = R := hgo
      subst h0
      obtain rfl : z = -1 := by omega
      clear hgo hzm
      by_cases h16 : n ≤ 16
      · have g : (n : Int) ≤ 16 := by omega
        have e : A = true := by rw [← HA.out, decide_eq_true h16]; rfl
        subst e
        go_wp2
        go_ret
        exact ⟨rfl, hbel⟩
      · have g : ¬ (n : Int) ≤ 16 := by omega
        have e : A = false := by rw [← HA.out, decide_eq_false h16]; rfl
        subst e
        go_wp2
        go_ret
        exact ⟨by simp [go_sem, g], hbel⟩
    | succ k =>
      obtain rfl : z = (k : Int) := by omega
      have hkl : k < l.length := by rw [HN.out]; omega
      rw [rev_take _ _ (by rw [lsP_len]; exact hkl), lsP_get l k hkl] at hgo
      have hpr := HP.out.later hbel
      obtain ⟨ad, rfl, hab, q0⟩ := hpr.row k hkl
      have hx1 := hpr.all.at k hkl
      obtain ⟨hx2, hx3⟩ := HBB.out (l[k]!) (by rw [epget hkl]; exact List.getElem_mem hkl)
      obtain ⟨y, hy⟩ : ∃ y, l[k]! = y := ⟨_, rfl⟩
      rw [hy] at q0 hx1 hx2 hx3 hgo
      obtain ⟨ya, yl, yc⟩ := y
      simp only [EPc.v] at q0 hx2 hx3 hgo
      have cb := rinv23_any ya yl yc wr hx1.row hx2
      have hz := hx3.inv
      have hlen := invL_len yl
      have hsz := rightS_size (t := s) (l := invL yl)
      have hg1 := goesE_no (f := invL) (t := s) (x := yl) (r := ((lsP l).take k).reverse)
      have hg2 := goesE_ok (f := invL) (t := s) (x := yl) (r := ((lsP l).take k).reverse)
      obtain ⟨q, hq⟩ : ∃ q, yl.length = q := ⟨_, rfl⟩
      obtain ⟨Y, hY⟩ : ∃ Y, invL yl = Y := ⟨_, rfl⟩
      rw [hgo, hY] at hg1 hg2
      rw [hY] at cb hz hlen hsz
      rw [hq] at cb q0 hx2 hlen
      have cb : Calls Tryd.prog 29 #[stpV ya q yc] wr fun e w' => ∃ a3 c3, e = .returned (stpV a3 q c3) ∧ ERow w' wr.heap.size ⟨a3, Y, c3⟩ ∧ Below wr.heap.size wr w' := by rw [← hlen] at cb ⊢; exact cb
      have c1 := fun a' c' W (h : EPcs W ⟨a', Y, c'⟩) => rright23_any s a' Y c' W h.row hs (by omega) hz
      have c2 := fun a' c' W (h : EPcs W ⟨a', Y, c'⟩) => rrun23_any s a' Y c' W h.row hs (by omega) hz
      rw [hlen] at c1 c2
      obtain ⟨⟨u, e0⟩, hu⟩ : ∃ z, runE s Y = z := ⟨_, rfl⟩
      obtain ⟨r, hr⟩ : ∃ r, rightS s Y = r := ⟨_, rfl⟩
      rw [hr] at c1 hsz hg1 hg2
      rw [hu] at c2 hsz hg2
      have CB := Lib.hid cb; have C1 := Lib.hid c1; have C2 := Lib.hid c2
      have b0 : (0 : Int) ≤ (k : Int) := by omega
      have b1 : (k : Int) < (n : Int) := by omega
      clear cb c1 c2 hgo hy hz hlen hx1 hx2 hx3 hq hY hu hr hpr hab hzm
      cases r with
      | false =>
        have h0 := hg1 rfl
        subst h0
        have e : A = false := HA.out.symm
        subst e
        clear hg1 hg2 hsz
        go_wp2_with fail
        refine CB.out.mono ?_
        rintro e w2 ⟨a2, c2, rfl, hr2, hb2⟩
        have HR2 := Lib.hid (hr2.in.later ((Below.refl w2.heap.size w2).alloc (Nat.le_refl _) (.cells #[.slice a2 q c2] 38)))
        have HB2 := Lib.hid (hbel.trans ((hb2.alloc hb2.size (.cells #[.slice a2 q c2] 38)).mono hbel.size))
        clear hr2 hb2 q0 hbel
        go_wp2_with fail
        refine (C1.out _ _ _ HR2.out).mono ?_
        rintro e w3 ⟨rfl, hb3⟩
        have HB3 := Lib.hid (HB2.out.trans (hb3.mono HB2.out.size))
        clear hb3
        go_wp2
        go_ret
        exact ⟨rfl, HB3.out⟩
      | true =>
        have h0 := hg2 rfl
        have h1 : u.size ≤ max s.size 4096 := hsz rfl
        clear hg1 hg2 hsz
        go_wp2_with fail
        refine CB.out.mono ?_
        rintro e w2 ⟨a2, c2, rfl, hr2, hb2⟩
        have HR2 := Lib.hid (hr2.in.later ((Below.refl w2.heap.size w2).alloc (Nat.le_refl _) (.cells #[.slice a2 q c2] 38)))
        have HX2 := Lib.hid (Blk.new w2 #[.slice a2 q c2] 38)
        have HB2 := Lib.hid (hbel.trans ((hb2.alloc hb2.size (.cells #[.slice a2 q c2] 38)).mono hbel.size))
        clear hr2 hb2 q0 hbel
        go_wp2_with fail
        refine (C1.out _ _ _ HR2.out).mono ?_
        rintro e w3 ⟨rfl, hb3⟩
        have HR3 := Lib.hid (HR2.out.later hb3)
        have y3 : w3.cell? ⟨w2.heap.size, 0, none⟩ = some (.slice a2 q c2) := (HX2.out.onto hb3).cell 0 _ rfl
        have HB3 := Lib.hid (HB2.out.trans (hb3.mono HB2.out.size))
        clear hb3
        go_wp2_with fail
        refine (C2.out _ _ _ HR3.out).mono ?_
        rintro e w4 ⟨rfl, hb4⟩
        have HB4 := Lib.hid (HB3.out.trans (hb4.mono HB3.out.size))
        clear hb4 y3
        go_wp2
        go_roundw
        case rel => exact ⟨k, (k : Int) - 1, u, by omega, by go_num, rfl, rfl, by omega, h0.symm, HB4.out⟩
        case measure => simp [intOf]

set_option maxRecDepth 100000 in
set_option maxHeartbeats 3200000 in
theorem rredoes_any (t : ByteArray) (a : Option Addr) (l : List EPc) (c : Nat) (w : World) (hp : SPcs w ⟨a, l, c⟩) (ht : t.size ≤ 4294967296) (hl : l.length ≤ 1000000) (hb : ∀ x ∈ l, x.l.length ≤ 100000 ∧ Edtz x.l 4294967296) :
    Calls Tryd.prog 33 #[.string t, .slice a l.length c] w fun e w' => e = .returned (.bool (goes16 id t (lsP l))) ∧ Below w.heap.size w w' := by
  have he : (goes16 id t (lsP l)) = (goesE id t (lsP l).reverse && decide (l.length ≤ 16)) := by unfold goes16; rw [lsP_len]
  rw [he]
  obtain ⟨n, hn⟩ : ∃ n, l.length = n := ⟨_, rfl⟩
  rw [hn] at hl ⊢
  obtain ⟨R, hR⟩ : ∃ R, goesE id t (lsP l).reverse = R := ⟨_, rfl⟩
  rw [hR]
  have hR0 : goesE id t ((lsP l).take n).reverse = R := by rw [List.take_of_length_le (by rw [lsP_len, hn]; exact Nat.le_refl _)]; exact hR
  obtain ⟨A, hA⟩ : ∃ A, (R && decide (n ≤ 16)) = A := ⟨_, rfl⟩
  rw [hA]
  have HP := Lib.hid hp; have HN := Lib.hid hn; have HR0 := Lib.hid hR0; have HBB := Lib.hid hb; have HA := Lib.hid hA
  clear hp hn hR hR0 hb he hA
  go_enter Tryd.func33, Tryd.ntmps33
  go_wp2
  go_loopw [0, 5] (fun tv i wr => ∃ (k : Nat) (z : Int) (s : ByteArray), k ≤ n ∧ i = .int .i64 z ∧ z = (k : Int) - 1 ∧ tv = .string s ∧ s.size ≤ 4294967296 ∧ goesE id s ((lsP l).take k).reverse = R ∧ Below w.heap.size w wr) (fun _ i _ => (intOf i + 1).toNat)
  case atStart => exact ⟨n, (n : Int) - 1, t, Nat.le_refl _, rfl, rfl, rfl, ht, HR0.out, Below.refl _ _⟩
  case round =>
    obtain ⟨m, z, s, hm, rfl, hzm, rfl, hs, hgo, hbel⟩ := hrel
    cases m with
    | zero =>
      have h0 : true = R := hgo
      subst h0
      obtain rfl : z = -1 := by omega
      clear hgo hzm
      by_cases h16 : n ≤ 16
      · have g : (n : Int) ≤ 16 := by omega
        have e : A = true := by rw [← HA.out, decide_eq_true h16]; rfl
        subst e
        go_wp2
        go_ret
        exact ⟨rfl, hbel⟩
      · have g : ¬ (n : Int) ≤ 16 := by omega
        have e : A = false := by rw [← HA.out, decide_eq_false h16]; rfl
        subst e
        go_wp2
        go_ret
        exact ⟨by simp [go_sem, g], hbel⟩
    | succ k =>
      obtain rfl : z = (k : Int) := by omega
      have hkl : k < l.length := by rw [HN.out]; omega
      rw [rev_take _ _ (by rw [lsP_len]; exact hkl), lsP_get l k hkl] at hgo
      have hpr := HP.out.later hbel
      obtain ⟨ad, rfl, hab, q0⟩ := hpr.row k hkl
      have hab : ad.block < wr.heap.size := hab
      have hx1 := hpr.all.at k hkl
      obtain ⟨hx2, hx3⟩ := HBB.out (l[k]!) (by rw [epget hkl]; exact List.getElem_mem hkl)
      obtain ⟨y, hy⟩ : ∃ y, l[k]! = y := ⟨_, rfl⟩
      rw [hy] at q0 hx1 hx2 hx3 hgo
      obtain ⟨ya, yl, yc⟩ := y
      simp only [EPc.v] at q0 hx2 hx3 hgo
      have hsz := rightS_size (t := s) (l := yl)
      have hg1 := goesE_no (f := id) (t := s) (x := yl) (r := ((lsP l).take k).reverse)
      have hg2 := goesE_ok (f := id) (t := s) (x := yl) (r := ((lsP l).take k).reverse)
      rw [hgo, id] at hg1 hg2
      have c1 := rright23_any s ya yl yc wr hx1.row hs (by omega) hx3
      have c2 := fun W (h : Below wr.heap.size wr W) => rrun23_any s ya yl yc W (hx1.later h).row hs (by omega) hx3
      obtain ⟨q, hq⟩ : ∃ q, yl.length = q := ⟨_, rfl⟩
      rw [hq] at c1 c2 q0
      obtain ⟨⟨u, e0⟩, hu⟩ : ∃ z, runE s yl = z := ⟨_, rfl⟩
      obtain ⟨r, hr⟩ : ∃ r, rightS s yl = r := ⟨_, rfl⟩
      rw [hr] at c1 hsz hg1 hg2
      rw [hu] at c2 hsz hg2
      have C1 := Lib.hid c1; have C2 := Lib.hid c2
      have b0 : (0 : Int) ≤ (k : Int) := by omega
      have b1 : (k : Int) < (n : Int) := by omega
      clear c1 c2 hgo hy hx1 hx2 hx3 hq hu hr hpr hzm
      cases r with
      | false =>
        have h0 := hg1 rfl
        subst h0
        have e : A = false := HA.out.symm
        subst e
        clear hg1 hg2 hsz
        go_wp2_with fail
        refine C1.out.mono ?_
        rintro e w3 ⟨rfl, hb3⟩
        have HB3 := Lib.hid (hbel.trans (hb3.mono hbel.size))
        clear hb3 hbel
        go_wp2
        go_ret
        exact ⟨rfl, HB3.out⟩
      | true =>
        have h0 := hg2 rfl
        have h1 : u.size ≤ max s.size 4096 := hsz rfl
        clear hg1 hg2 hsz
        go_wp2_with fail
        refine C1.out.mono ?_
        rintro e w3 ⟨rfl, hb3⟩
        have q3 := (hb3.cell (p := ad.add k) (by rw [stk_block]; exact hab)).trans q0
        have HB3 := Lib.hid hb3
        clear hb3 q0
        go_wp2_with fail
        refine (C2.out _ HB3.out).mono ?_
        rintro e w4 ⟨rfl, hb4⟩
        have HB4 := Lib.hid (hbel.trans ((HB3.out.trans (hb4.mono HB3.out.size)).mono hbel.size))
        clear hb4 q3 hbel
        go_wp2
        go_roundw
        case rel => exact ⟨k, (k : Int) - 1, u, by omega, by go_num, rfl, rfl, by omega, h0.symm, HB4.out⟩
        case measure => simp [intOf]

/-- Two rows of steps alike: so far, wholly. -/
theorem lsame_more {a b : List EPc} {k : Nat} (h : ∀ j, j < k → (a[j]!).l = (b[j]!).l) : (a[k]!).l = (b[k]!).l → ∀ j, j < k + 1 → (a[j]!).l = (b[j]!).l := fun e j hj => by
  rcases Nat.lt_or_ge j k with g | g
  · exact h j g
  · obtain rfl : j = k := by omega
    exact e
theorem lsame_all {a b : List EPc} (hl : a.length = b.length) (h : ∀ j, j < a.length → (a[j]!).l = (b[j]!).l) : lsP a = lsP b := by
  refine List.ext_getElem (by rw [lsP_len, lsP_len, hl]) fun j h1 h2 => ?_
  have g1 : j < a.length := by rwa [lsP_len] at h1
  have := h j g1
  rw [epget g1, epget (by omega)] at this
  simpa [lsP] using this
theorem lsame_at {a b : List EPc} {k : Nat} (ha : k < a.length) (hb : k < b.length) (h : lsP a = lsP b) : (a[k]!).l = (b[k]!).l := by
  rw [← lsP_get a k ha, ← lsP_get b k hb, h]

set_option maxRecDepth 100000 in
set_option maxHeartbeats 1600000 in
theorem rsteps23_any (a b : Option Addr) (la lb : List EPc) (c d : Nat) (w : World) (ha : SPcs w ⟨a, la, c⟩) (hb : SPcs w ⟨b, lb, d⟩) (h1 : ∀ x ∈ la, x.l.length ≤ 1000000) (h2 : ∀ x ∈ lb, x.l.length ≤ 1000000) :
    Calls Tryd.prog 47 #[.slice a la.length c, .slice b lb.length d] w fun e w' => e = .returned (.bool (decide (lsP la = lsP lb))) ∧ Below w.heap.size w w' := by
  by_cases hne : la.length = lb.length
  case neg =>
    have h0 : decide (lsP la = lsP lb) = false := decide_eq_false fun e => hne (by rw [← lsP_len la, e, lsP_len])
    rw [h0]
    have hm1 : la.length ≤ maxLen := Nat.le_trans ha.le ha.cap
    have hm2 : lb.length ≤ maxLen := Nat.le_trans hb.le hb.cap
    unfold maxLen at hm1 hm2
    obtain ⟨n, hn⟩ : ∃ n, la.length = n := ⟨_, rfl⟩
    obtain ⟨m, hm⟩ : ∃ n, lb.length = n := ⟨_, rfl⟩
    rw [hn] at hne hm1 ⊢
    rw [hm] at hne hm2 ⊢
    clear hn hm ha hb h1 h2
    have hne2 : ¬ (n : Int) = (m : Int) := by omega
    go_enter Tryd.func47, Tryd.ntmps47
    go_wp2
    go_ret
    exact ⟨rfl, Below.refl _ _⟩
  have HE := Lib.hid hne
  have hm1 : la.length ≤ maxLen := Nat.le_trans ha.le ha.cap
  unfold maxLen at hm1
  rw [← hne]
  obtain ⟨n, hn⟩ : ∃ n, la.length = n := ⟨_, rfl⟩
  obtain ⟨r, hfr⟩ : ∃ r, decide (lsP la = lsP lb) = r := ⟨_, rfl⟩
  rw [hfr]
  rw [hn] at hm1 ⊢
  have HN := Lib.hid hn; have HA := Lib.hid ha; have HB := Lib.hid hb; have H1 := Lib.hid h1; have H2 := Lib.hid h2; have HF := Lib.hid hfr
  clear hn ha hb h1 h2 hfr hne
  go_enter Tryd.func47, Tryd.ntmps47
  go_wp2
  go_loopw [5] (fun i wr => ∃ k : Nat, k ≤ n ∧ i = .int .i64 k ∧ (∀ j, j < k → (la[j]!).l = (lb[j]!).l) ∧ Below w.heap.size w wr) (fun i _ => n - (intOf i).toNat)
  case atStart => exact ⟨0, Nat.zero_le _, rfl, fun j hj => absurd hj (Nat.not_lt_zero _), Below.refl _ _⟩
  case round =>
    obtain ⟨k, hk, rfl, hall, hbel⟩ := hrel
    by_cases hlt : k < n
    · have hkl : k < la.length := by rw [HN.out]; exact hlt
      have hkl2 : k < lb.length := by rw [← HE.out]; exact hkl
      have hpa := HA.out.later hbel
      have hpb := HB.out.later hbel
      obtain ⟨ad, rfl, hab, q0⟩ := hpa.row k hkl
      obtain ⟨bd, rfl, hbb, r0⟩ := hpb.row k hkl2
      have hx1 := hpa.all.at k hkl
      have hx2 := hpb.all.at k hkl2
      have hz1 := H1.out (la[k]!) (by rw [epget hkl]; exact List.getElem_mem hkl)
      have hz2 := H2.out (lb[k]!) (by rw [epget hkl2]; exact List.getElem_mem hkl2)
      have hyes := lsame_more (a := la) (b := lb) hall
      have hno : ¬ (la[k]!).l = (lb[k]!).l → decide (lsP la = lsP lb) = false := fun h => decide_eq_false fun e => h (lsame_at hkl hkl2 e)
      obtain ⟨x, hx⟩ : ∃ x, la[k]! = x := ⟨_, rfl⟩
      obtain ⟨y, hy⟩ : ∃ x, lb[k]! = x := ⟨_, rfl⟩
      rw [hx] at q0 hx1 hz1 hyes hno
      rw [hy] at r0 hx2 hz2 hyes hno
      obtain ⟨xa, xl, xc⟩ := x
      obtain ⟨ya, yl, yc⟩ := y
      simp only [EPc.v] at q0 r0 hz1 hz2 hyes hno
      have cs := rsame23_any xa ya xl yl xc yc wr.drew (by exact hx1.row) (by exact hx2.row) hz1 hz2
      obtain ⟨p, hp⟩ : ∃ p, xl.length = p := ⟨_, rfl⟩
      obtain ⟨q, hq⟩ : ∃ p, yl.length = p := ⟨_, rfl⟩
      rw [hp] at q0 cs
      rw [hq] at r0 cs
      have b0 : (0 : Int) ≤ (k : Int) := by omega
      have b1 : (k : Int) < (n : Int) := by omega
      have q1 : wr.drew.cell? (ad.add k) = some (.slice xa p xc) := q0
      have r1 : wr.drew.cell? (bd.add k) = some (.slice ya q yc) := r0
      clear hall hx hy hab hbb hpa hpb hx1 hx2 hz1 hz2 hp hq
      by_cases he : xl = yl
      · rw [decide_eq_true he] at cs
        have HY := Lib.hid (hyes he); have CS := Lib.hid cs
        clear hyes hno cs
        go_wp2_with fail
        go_region_with (go_at_call 48; refine CS.out.mono ?_; rintro e w1 ⟨rfl, hb1⟩)
        all_goals
          have HB1 := Lib.hid (hbel.trans (((Below.refl wr.heap.size wr).drew.trans hb1).mono hbel.size))
          clear hb1 q0 q1 r0 r1
          go_wp2
          go_roundw
          case rel => exact ⟨k + 1, by omega, by go_num, HY.out, HB1.out⟩
          case measure => simp [intOf]; omega
      · rw [decide_eq_false he] at cs
        have h0 := hno he
        rw [HF.out] at h0
        subst h0
        have CS := Lib.hid cs
        clear hyes hno cs
        go_wp2_with fail
        go_region_with (go_at_call 48; refine CS.out.mono ?_; rintro e w1 ⟨rfl, hb1⟩)
        all_goals
          have HB1 := Lib.hid (hbel.trans (((Below.refl wr.heap.size wr).drew.trans hb1).mono hbel.size))
          clear hb1 q0 q1 r0 r1
          go_wp2
          go_ret
          exact ⟨rfl, HB1.out⟩
    · obtain rfl : k = n := by omega
      have h0 : r = true := by
        rw [← HF.out]
        exact decide_eq_true (lsame_all HE.out (by rw [HN.out]; exact hall))
      subst h0
      clear hall
      go_wp2
      go_ret
      exact ⟨rfl, hbel⟩
end Go.Proofs.YtbdfglalohgahaaDoor
namespace Go.Proofs.YtbdfglalohgahaaDoor
open Go.RowKit
set_option linter.unusedVariables false
set_option linter.unusedSimpArgs false

end Go.Proofs.YtbdfglalohgahaaDoor
namespace Go.Proofs.YtbdfglalohgahaaDoor
open Go.RowKit
set_option linter.unusedVariables false
set_option linter.unusedSimpArgs false

/-- What Pop tells of a stack that has steps. -/
def RetPop (w : World) (L : List (List Edt)) (s : List Edt) (e : Ending) (w' : World) : Prop :=
  ∃ a c l a2 c2, e = .returned (.tuple #[.slice a l.length c, stpV a2 s.length c2, .int .i64 0]) ∧ lsP l = L ∧ SRow w' w.heap.size ⟨a, l, c⟩ ∧ (∀ x ∈ l, ERow w' w.heap.size x) ∧ ERow w' w.heap.size ⟨a2, s, c2⟩ ∧ Below w.heap.size w w'

end Go.Proofs.YtbdfglalohgahaaDoor
namespace Go.Proofs.YtbdfglalohgahaaDoor
open Go.RowKit
set_option linter.unusedVariables false
set_option linter.unusedSimpArgs false

/-- What pop tells of the n first ones of a row. -/
def PopS (l : List EPc) (a : Option Addr) (c n : Nat) (ra : Option Addr) (rk rc : Nat) (ta : Option Addr) (tn tc : Nat) (ok : Bool) : Prop :=
  (n = 0 ∧ ra = none ∧ rk = 0 ∧ rc = 0 ∧ ta = none ∧ tn = 0 ∧ tc = 0 ∧ ok = false) ∨
  (∃ k, n = k + 1 ∧ ra = a ∧ rk = k ∧ rc = c ∧ ta = (l[k]!).a ∧ tn = (l[k]!).l.length ∧ tc = (l[k]!).c ∧ ok = true)
def popM (rv ov : Value) : Nat := match ov, rv with
  | .bool true, .slice _ k _ => k + 1
  | _, _ => 0
theorem PopS.m {l : List EPc} {a : Option Addr} {c n : Nat} {ra : Option Addr} {rk rc : Nat} {ta : Option Addr} {tn tc : Nat} {ok : Bool} (h : PopS l a c n ra rk rc ta tn tc ok) : popM (.slice ra rk rc) (.bool ok) = n := by
  rcases h with ⟨rfl, -, -, -, -, -, -, rfl⟩ | ⟨k, rfl, -, rfl, -, -, -, -, rfl⟩
  · rfl
  · rfl
theorem pop_any (l : List EPc) (a : Option Addr) (c n : Nat) (w : World) (hp : SPcs w ⟨a, l, c⟩) (hn : n ≤ l.length) :
    Calls Tryd.prog 72 #[.slice a n c] w fun e w' => ∃ ra rk rc ta tn tc ok, e = .returned (.tuple #[.slice ra rk rc, stpV ta tn tc, .bool ok]) ∧ PopS l a c n ra rk rc ta tn tc ok ∧ Below w.heap.size w w' := by
  cases n with
  | zero => exact (pop_none a c w).mono fun e w' ⟨he, hb⟩ => ⟨none, 0, 0, none, 0, 0, false, he, .inl ⟨rfl, rfl, rfl, rfl, rfl, rfl, rfl, rfl⟩, hb⟩
  | succ k =>
    obtain ⟨ad, ha, -, hc⟩ := hp.row k (by show k < l.length; omega)
    have ha : a = some ad := ha
    subst ha
    have h := pop_some ad c k (l[k]!) w hc (by have h : l.length ≤ c := hp.le; omega) hp.cap
    exact h.mono fun e w' ⟨he, hb⟩ => ⟨some ad, k, c, _, _, _, true, he, .inr ⟨k, rfl, rfl, rfl, rfl, rfl, rfl, rfl, rfl⟩, hb⟩

/-- What of each step is run, and the program's function that makes it. -/
structure ByF (f : List Edt → List Edt) (F : FuncId) : Prop where
  enter : ∀ (args : Array Value) (w : World), (callFunc F args).run Tryd.prog w = .ok (.enter F args) w
  len : ∀ l, (f l).length = l.length
  z : ∀ l b, Edtz l b → Edtz (f l) b
  call : ∀ (a : Option Addr) (l : List Edt) (c : Nat) (w : World), EPcs w ⟨a, l, c⟩ → l.length ≤ 100000 → Calls Tryd.prog F #[stpV a l.length c] w fun e w' => ∃ a' c', e = .returned (stpV a' (f l).length c') ∧ EPcs w' ⟨a', f l, c'⟩ ∧ Below w.heap.size w w'
set_option maxRecDepth 100000 in
theorem by_inverse : ByF invL 23 := ⟨fun _ _ => by rfl, invL_len, fun _ _ h => h.inv, fun a l c w h hl =>
  (sinv_any a l c w h.row hl).mono fun e w' ⟨a', c', he, hr, hb⟩ => ⟨a', c', he, hr.in, hb⟩⟩
set_option maxRecDepth 100000 in
theorem by_same : ByF id 56 := ⟨fun _ _ => by rfl, fun _ => rfl, fun _ _ h => h, fun a l c w h hl =>
  (same_step a l.length c w).mono fun e w' ⟨he, hb⟩ => ⟨a, c, he, h.later hb, hb⟩⟩

/-- What holds at a round's head: m steps are left, the top of these in its box. -/
def HeadR (f : List Edt → List Edt) (l : List EPc) (a : Option Addr) (c : Nat) (R : Bool) (w : World) (tv rv bv ov : Value) (wr : World) : Prop :=
  ∃ (m : Nat) (s : ByteArray) (b : Nat) (ra : Option Addr) (rk rc : Nat) (ta : Option Addr) (tn tc : Nat) (ok : Bool),
    tv = .string s ∧ rv = .slice ra rk rc ∧ bv = .pointer (some ⟨b, 0, none⟩) ∧ ov = .bool ok ∧ PopS l a c m ra rk rc ta tn tc ok ∧ m ≤ l.length ∧ s.size ≤ 4294967296 ∧ goesE f s ((lsP l).take m).reverse = R ∧
    w.heap.size ≤ b ∧ b < wr.heap.size ∧ wr.cell? ⟨b, 0, none⟩ = some (.slice ta tn tc) ∧ wr.frozen? ⟨b, 0, none⟩ = false ∧ Below w.heap.size w wr

set_option maxRecDepth 100000 in
set_option maxHeartbeats 3200000 in
theorem runs_any {f : List Edt → List Edt} {F : FuncId} (by1 : ByF f F) (t : ByteArray) (a : Option Addr) (l : List EPc) (c : Nat) (w : World) (hp : SPcs w ⟨a, l, c⟩) (ht : t.size ≤ 4294967296) (hl : l.length ≤ 1000000) (hb : ∀ x ∈ l, x.l.length ≤ 100000 ∧ Edtz x.l 4294967296) :
    Calls Tryd.prog 52 #[.string t, .slice a l.length c, .func (.func F) #[] #[]] w fun e w' => e = .returned (.bool (goes16 f t (lsP l))) ∧ Below w.heap.size w w' := by
  have he : (goes16 f t (lsP l)) = (goesE f t (lsP l).reverse && decide (l.length ≤ 16)) := by unfold goes16; rw [lsP_len]
  rw [he]
  obtain ⟨n, hn⟩ : ∃ n, l.length = n := ⟨_, rfl⟩
  rw [hn] at hl ⊢
  by_cases h16 : 16 < n
  · have h1 : (16 : Int) < (n : Int) := by omega
    have h2 : (goesE f t (lsP l).reverse && decide (n ≤ 16)) = false := by rw [decide_eq_false (by omega), Bool.and_false]
    rw [h2]
    clear he h2 hn hp hb
    go_enter Tryd.func52, Tryd.ntmps52
    go_wp2
    go_ret
    exact ⟨rfl, Below.refl _ _⟩
  have h1 : (n : Int) ≤ 16 := by omega
  rw [decide_eq_true (show n ≤ 16 by omega), Bool.and_true]
  obtain ⟨R, hR⟩ : ∃ R, goesE f t (lsP l).reverse = R := ⟨_, rfl⟩
  rw [hR]
  have hR0 : goesE f t ((lsP l).take n).reverse = R := by rw [List.take_of_length_le (by rw [lsP_len, hn]; exact Nat.le_refl _)]; exact hR
  have ce := by1.enter
  have cp := pop_any l a c n w hp (by omega)
  have HP := Lib.hid hp; have HN := Lib.hid hn; have HR0 := Lib.hid hR0; have HBB := Lib.hid hb; have CP := Lib.hid cp; have BY := Lib.hid by1
  clear hp hn hR hR0 hb cp he by1
  go_enter Tryd.func52, Tryd.ntmps52
  go_wp2_with fail
  refine CP.out.mono ?_
  rintro e w1 ⟨ra, rk, rc, ta, tn, tc, ok, rfl, hps, hb1⟩
  have HPS := Lib.hid hps; have HB1 := Lib.hid (hb1.alloc hb1.size (.cells #[.slice ta tn tc] 38)); have HK := Lib.hid (Blk.new w1 #[.slice ta tn tc] 38); have HWW := Lib.hid hb1.size
  clear hps hb1
  go_wp2
  clear CP
  go_loopw [0, 7, 8, 9] (fun tv rv bv ov wr => HeadR f l a c R w tv rv bv ov wr) (fun _ rv _ ov _ => popM rv ov)
  case atStart => exact ⟨n, t, w1.heap.size, ra, rk, rc, ta, tn, tc, ok, rfl, rfl, rfl, rfl, HPS.out, Nat.le_of_eq HN.out.symm, ht, HR0.out, HWW.out, HK.out.lt, HK.out.cell 0 _ rfl, HK.out.free 0, HB1.out⟩
  case round =>
    obtain ⟨m, s, b, ra, rk, rc, ta, tn, tc, ok, rfl, rfl, rfl, rfl, hps, hml, hs, hgo, hwb, hbl, x0, x5, hbel⟩ := hrel
    rcases hps with ⟨rfl, rfl, rfl, rfl, rfl, rfl, rfl, rfl⟩ | ⟨k, rfl, rfl, rfl, rfl, rfl, rfl, rfl, rfl⟩
    · have h0 : R = true := hgo.symm
      subst h0
      clear hgo x0 x5
      go_wp2
      go_ret
      exact ⟨rfl, hbel⟩
    · have hkl : rk < l.length := hml
      rw [rev_take _ _ (by rw [lsP_len]; exact hkl), lsP_get l rk hkl] at hgo
      have hx1 := (HP.out.later hbel).all.at rk hkl
      obtain ⟨hx2, hx3⟩ := HBB.out (l[rk]!) (by rw [epget hkl]; exact List.getElem_mem hkl)
      obtain ⟨y, hy⟩ : ∃ y, l[rk]! = y := ⟨_, rfl⟩
      rw [hy] at x0 hx1 hx2 hx3 hgo
      obtain ⟨ya, yl, yc⟩ := y
      simp only at x0 hx2 hx3 hgo
      have cb := BY.out.call ya yl yc wr hx1 hx2
      have hz := BY.out.z yl _ hx3
      have hlen := BY.out.len yl
      obtain ⟨q, hq⟩ : ∃ q, yl.length = q := ⟨_, rfl⟩
      obtain ⟨Y, hY⟩ : ∃ Y, f yl = Y := ⟨_, rfl⟩
      rw [hY] at cb hz hlen
      rw [hlen] at cb
      rw [hq] at cb x0 hx2 hlen
      have c1 := fun a' c' W (h : EPcs W ⟨a', Y, c'⟩) => sright_any s a' Y c' W h.row hs (by omega) hz
      have c2 := fun a' c' W (h : EPcs W ⟨a', Y, c'⟩) => srun_any s a' Y c' W h.row hs (by omega) hz
      rw [hlen] at c1 c2
      have hsz := rightS_size (t := s) (l := Y)
      have hg1 := goesE_no (f := f) (t := s) (x := yl) (r := ((lsP l).take rk).reverse)
      have hg2 := goesE_ok (f := f) (t := s) (x := yl) (r := ((lsP l).take rk).reverse)
      rw [hY, hgo] at hg1 hg2
      obtain ⟨⟨u, e0⟩, hu⟩ : ∃ z, runE s Y = z := ⟨_, rfl⟩
      obtain ⟨r, hr⟩ : ∃ r, rightS s Y = r := ⟨_, rfl⟩
      rw [hr] at c1 hsz hg1 hg2
      rw [hu] at c2 hsz hg2
      have CB := Lib.hid cb; have C1 := Lib.hid c1; have C2 := Lib.hid c2
      clear cb c1 c2 hgo hy hz hlen hx1 hx2 hx3 hq hY hu hr
      cases r with
      | false =>
        have h0 := hg1 rfl
        subst h0
        clear hg1 hg2 hsz
        go_wp2_with fail
        refine CB.out.mono ?_
        rintro e w2 ⟨a2, c2, rfl, hr2, hb2⟩
        have hb3 : Below wr.heap.size wr (w2.alloc (.cells #[.slice a2 q c2] 38)) := hb2.alloc hb2.size _
        have HR2 := Lib.hid (hr2.later ((Below.refl w2.heap.size w2).alloc (Nat.le_refl _) (.cells #[.slice a2 q c2] 38)))
        have HB2 := Lib.hid (hbel.trans (hb3.mono hbel.size))
        clear hr2 hb2 hb3 x0 x5 hbel
        go_wp2_with fail
        refine (C1.out _ _ _ HR2.out).mono ?_
        rintro e w3 ⟨rfl, hb3⟩
        have HB3 := Lib.hid (HB2.out.trans (hb3.mono HB2.out.size))
        clear hb3
        go_wp2
        go_ret
        exact ⟨rfl, HB3.out⟩
      | true =>
        have h0 := hg2 rfl
        have h1 : u.size ≤ max s.size 4096 := hsz rfl
        clear hg1 hg2 hsz
        have CPK := Lib.hid (fun W (hB : Below w.heap.size w W) => pop_any l ra rc rk W (HP.out.later hB) (Nat.le_of_lt hkl))
        go_wp2_with fail
        refine CB.out.mono ?_
        rintro e w2 ⟨a2, c2, rfl, hr2, hb2⟩
        have hb3 : Below wr.heap.size wr (w2.alloc (.cells #[.slice a2 q c2] 38)) := hb2.alloc hb2.size _
        have HR2 := Lib.hid (hr2.later ((Below.refl w2.heap.size w2).alloc (Nat.le_refl _) (.cells #[.slice a2 q c2] 38)))
        have HX2 := Lib.hid (Blk.new w2 #[.slice a2 q c2] 38)
        have HB2 := Lib.hid hb3
        clear hr2 hb2 hb3
        go_wp2_with fail
        refine (C1.out _ _ _ HR2.out).mono ?_
        rintro e w3 ⟨rfl, hb3⟩
        have HR3 := Lib.hid (HR2.out.later hb3)
        have y3 : w3.cell? ⟨w2.heap.size, 0, none⟩ = some (.slice a2 q c2) := (HX2.out.onto hb3).cell 0 _ rfl
        have HB3 := Lib.hid (HB2.out.trans (hb3.mono HB2.out.size))
        clear hb3
        go_wp2_with fail
        refine (C2.out _ _ _ HR3.out).mono ?_
        rintro e w4 ⟨rfl, hb4⟩
        have hb5 : Below wr.heap.size wr w4 := HB3.out.trans (hb4.mono HB3.out.size)
        have z0 := (hb5.cell (p := ⟨b, 0, none⟩) hbl).trans x0
        have HB5 := Lib.hid ((hbel.trans (hb5.mono hbel.size)).alloc (Nat.le_trans hbel.size hb5.size) (.cells #[.slice ya q yc] 38))
        have HX5 := Lib.hid (Blk.new w4 #[.slice ya q yc] 38)
        have HW4 := Lib.hid (Nat.le_trans hbel.size hb5.size)
        clear hb4 hb5 x0 x5 y3 hbel
        go_wp2_with fail
        refine (CPK.out _ HB5.out).mono ?_
        rintro e w6 ⟨ra', rk', rc', ta', tn', tc', ok', rfl, hps, hb6⟩
        have q0 : w6.cell? ⟨w4.heap.size, 0, none⟩ = some (.slice ya q yc) := (HX5.out.onto hb6).cell 0 _ rfl
        have q5 := (HX5.out.onto hb6).free 0
        have HPS6 := Lib.hid hps
        have HX6 := Lib.hid ((HX5.out.onto hb6).set 0 (.slice ta' tn' tc'))
        have HB6 := Lib.hid ((HB5.out.trans (hb6.mono HB5.out.size)).setCell (p := ⟨w4.heap.size, 0, none⟩) HW4.out (.slice ta' tn' tc'))
        clear hb6 hps z0
        go_wp2
        go_roundw
        case rel => exact ⟨rk, u, w4.heap.size, ra', rk', rc', ta', tn', tc', ok', rfl, rfl, rfl, rfl, HPS6.out, Nat.le_of_lt hkl, by omega, h0.symm, HW4.out, HX6.out.lt, HX6.out.cell 0 _ rfl, HX6.out.free 0, HB6.out⟩
        case measure =>
          rw [HPS6.out.m]
          show rk < rk + 1
          omega
theorem undoes_any (t : ByteArray) (a : Option Addr) (l : List EPc) (c : Nat) (w : World) (hp : SPcs w ⟨a, l, c⟩) (ht : t.size ≤ 4294967296) (hl : l.length ≤ 1000000) (hb : ∀ x ∈ l, x.l.length ≤ 100000 ∧ Edtz x.l 4294967296) :
    Calls Tryd.prog 18 #[.string t, .slice a l.length c] w fun e w' => e = .returned (.bool (goes16 invL t (lsP l))) ∧ Below w.heap.size w w' := by
  have cr := runs_any by_inverse t a l c w hp ht hl hb
  obtain ⟨R, hR⟩ : ∃ R, goes16 invL t (lsP l) = R := ⟨_, rfl⟩
  obtain ⟨n, hn⟩ : ∃ n, l.length = n := ⟨_, rfl⟩
  rw [hR, hn] at cr
  rw [hR, hn]
  have CR := Lib.hid cr
  clear cr hR hn hp hl hb
  go_enter Tryd.func18, Tryd.ntmps18
  go_wp2_with fail
  refine CR.out.mono ?_; rintro e w1 ⟨rfl, hb1⟩
  go_wp2
  go_ret
  exact ⟨rfl, hb1⟩
theorem redoes_any (t : ByteArray) (a : Option Addr) (l : List EPc) (c : Nat) (w : World) (hp : SPcs w ⟨a, l, c⟩) (ht : t.size ≤ 4294967296) (hl : l.length ≤ 1000000) (hb : ∀ x ∈ l, x.l.length ≤ 100000 ∧ Edtz x.l 4294967296) :
    Calls Tryd.prog 22 #[.string t, .slice a l.length c] w fun e w' => e = .returned (.bool (goes16 id t (lsP l))) ∧ Below w.heap.size w w' := by
  have cr := runs_any by_same t a l c w hp ht hl hb
  obtain ⟨R, hR⟩ : ∃ R, goes16 id t (lsP l) = R := ⟨_, rfl⟩
  obtain ⟨n, hn⟩ : ∃ n, l.length = n := ⟨_, rfl⟩
  rw [hR, hn] at cr
  rw [hR, hn]
  have CR := Lib.hid cr
  clear cr hR hn hp hl hb
  go_enter Tryd.func22, Tryd.ntmps22
  go_wp2_with fail
  refine CR.out.mono ?_; rintro e w1 ⟨rfl, hb1⟩
  go_wp2
  go_ret
  exact ⟨rfl, hb1⟩
end Go.Proofs.YtbdfglalohgahaaDoor
