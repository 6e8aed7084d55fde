/-
  The walks of TapePlays, TapeKeeps and TapeNobody (layer 7).
-/
import Derived.Test.YtcoacbknhlnjmaaLawTape
namespace Go.Proofs.Ytcoacbknhlnjmaa
open Go.RowKit
set_option linter.unusedVariables false

theorem big3 {a b c m n : Nat} (h : ¬ (a ≤ m ∧ b ≤ m ∧ c ≤ n)) : m < a ∨ (a ≤ m ∧ m < b) ∨ (a ≤ m ∧ b ≤ m ∧ n < c) := by omega

set_option maxRecDepth 100000 in
set_option maxHeartbeats 3200000 in
theorem tapePlays_walk (kept now : ByteArray) (a0 : Option Addr) (l : List Op07) (c : Nat) (w : World) (_w0 : kept.size ≤ maxLen) (_w1 : now.size ≤ maxLen) (hr : Op07s w w.heap.size a0 l) (_hfit : ∀ x ∈ l, x.fits) (_hm : l.length ≤ maxLen) :
    Calls Try.prog 3 #[.string kept, .string now, .slice a0 l.length c] w fun e w' => e = .returned (.bool true) ∧ Below w.heap.size w w' := by
  clear _w0 _w1 _hfit _hm
  obtain ⟨n, hn⟩ : ∃ n, l.length = n := ⟨_, rfl⟩
  have HN := Lib.hid hn
  rw [hn]
  clear hn
  by_cases hs : kept.size ≤ 300 ∧ now.size ≤ 300 ∧ n ≤ 20
  · obtain ⟨s0, s1, s2⟩ := hs
    have HR := Lib.hid hr; clear hr
    go_enter Try.func3, Try.ntmps3
    go_wp2_with fail
    refine (tload_any kept now _).mono ?_
    rintro e w1 ⟨b, rfl, hb, ht, hb1⟩
    have hbn := (Below.refl w1.heap.size w1).alloc (Nat.le_refl _) (.cells #[.string kept, .string now] 27)
    have inv : Inv7 w w1.heap.size b kept now 300 (w1.alloc (.cells #[.string kept, .string now] 27)) :=
      ⟨ht.below hbn, Two.new _ _ _, s0, s1, hb, hb1.size, by have := Tap3.lt ht; omega, hb1.trans (hbn.mono hb1.size)⟩
    have INV := Lib.hid inv
    clear inv ht hb hb1 hbn
    obtain ⟨g, hg⟩ : ∃ g, w1.heap.size = g := ⟨_, rfl⟩
    go_wp2
    rw [hg] at INV
    clear hg
    go_loopw [7, 9] (fun v i wr => ∃ (j b : Nat) (k n' : ByteArray), j ≤ n ∧ i = .int .i64 j ∧ v = .pointer (some ⟨b, 0, none⟩) ∧ Inv7 w g b k n' (300 + 100 * j) wr) (fun _ i _ => n - (intOf i).toNat)
    case atStart => exact ⟨0, b, kept, now, Nat.zero_le _, rfl, rfl, INV.out⟩
    case round =>
      obtain ⟨j, b, k, n', hj, rfl, rfl, hinv⟩ := hrel
      by_cases hlt : j < n
      · have hjl : j < l.length := by rw [HN.out]; exact hlt
        have hI := hinv
        obtain ⟨t, q, hk, hn', h1, h2, h3, hbel⟩ := hI
        obtain ⟨ad, rfl, hab, q0, q1, q2⟩ := (HR.out.below hbel) j hjl
        obtain ⟨x, hx⟩ : ∃ x, l[j]'hjl = x := ⟨_, rfl⟩
        rw [hx] at q0 q1 q2
        obtain ⟨xk, xm, xs⟩ := x
        simp only at q0 q1 q2
        clear hx
        have b0 : (0 : Int) ≤ (j : Int) := by omega
        have b1 : (j : Int) < (n : Int) := by omega
        have hj20 : j < 20 := by omega
        have hk2 : k.size ≤ 100000 := by omega
        have hn2 : n'.size ≤ 100000 := by omega
        by_cases h4 : xk = 4
        · subst h4
          have INV2 := Lib.hid hinv; have T := Lib.hid t
          clear hinv t q hbel
          go_wp2_with fail
          refine (tcopy_yes T.out).mono ?_
          rintro e w3 ⟨b3, rfl, hb3, t3, l3⟩
          have tt := T.out.below l3
          have T3 := Lib.hid t3; have L3 := Lib.hid l3; have TT := Lib.hid tt
          clear t3 l3 tt
          go_wp2_with fail
          refine (tappend_yes TT.out ⟨#[111, 118, 101, 114]⟩ (by show n'.size + 4 ≤ _; omega)).mono ?_
          rintro e w4 ⟨rfl, t4, a4⟩
          have T4 := Lib.hid t4; have A4 := Lib.hid a4
          clear t4 a4
          go_wp2_with fail
          refine (tsync_yes T4.out).mono ?_
          rintro e w5 ⟨rfl, t5, a5⟩
          have A5 := Lib.hid a5
          clear t5 a5
          go_wp2
          refine ⟨⟨j + 1, b3, k, n', hlt, rfl, rfl, ?_⟩, by simp [intOf]; omega⟩
          have i5 := inv7_copy INV2.out T3.out hb3 L3.out A4.out A5.out
          obtain ⟨p1, p2, p3, p4, p5⟩ := i5
          exact ⟨p1, p2, by omega, by omega, p5⟩
        · have t4 : (xk == 4) = false := beq_eq_false_iff_ne.2 h4
          clear h4
          go_wp2_with fail
          obtain ⟨kn, hkn⟩ : ∃ z, stT k n' xk xm xs = z := ⟨_, rfl⟩
          have hsz := stT_size k n' xk xm xs (300 + 100 * j) hk hn'
          have CA := fun (W : World) (hw : Tap W b k n') => step7_any hw hk2 hn2 xk xm xs
          rw [hkn] at hsz
          simp only [hkn] at CA
          obtain ⟨k', m'⟩ := kn
          simp only at hsz CA
          clear hkn
          have hl := Tap3.lt t
          have q7 : Two (wr.alloc (.cells #[.string ⟨#[]⟩, .string ⟨#[]⟩] 27)) wr.heap.size ⟨#[]⟩ ⟨#[]⟩ := Two.new wr ByteArray.empty ByteArray.empty
          have hbA := (Below.refl wr.heap.size wr).alloc (Nat.le_refl _) (.cells #[.string ⟨#[]⟩, .string ⟨#[]⟩] 27)
          have hbl : (ad.add (j * 3)).block = ad.block := by unfold Addr.add; split <;> rfl
          have hadl : (ad.add (j * 3)).block < wr.heap.size := by have := hbel.size; omega
          have a0 : (wr.alloc (.cells #[.string ⟨#[]⟩, .string ⟨#[]⟩] 27)).drew.cell? (ad.add (j * 3)) = _ := (hbA.cell hadl).trans q0
          have a1 : (wr.alloc (.cells #[.string ⟨#[]⟩, .string ⟨#[]⟩] 27)).drew.cell? ⟨(ad.add (j * 3)).block, (ad.add (j * 3)).off + 1, none⟩ = _ := (hbA.cell (p := ⟨(ad.add (j * 3)).block, (ad.add (j * 3)).off + 1, none⟩) hadl).trans q1
          have a2 : (wr.alloc (.cells #[.string ⟨#[]⟩, .string ⟨#[]⟩] 27)).drew.cell? ⟨(ad.add (j * 3)).block, (ad.add (j * 3)).off + 2, none⟩ = _ := (hbA.cell (p := ⟨(ad.add (j * 3)).block, (ad.add (j * 3)).off + 2, none⟩) hadl).trans q2
          have c0 : (wr.alloc (.cells #[.string ⟨#[]⟩, .string ⟨#[]⟩] 27)).drew.cell? ⟨g, 0, none⟩ = some (.string k) := (hbA.cell (p := ⟨g, 0, none⟩) q.lt).trans q.cells.1
          have c1 : (wr.alloc (.cells #[.string ⟨#[]⟩, .string ⟨#[]⟩] 27)).drew.cell? ⟨g, 1, none⟩ = some (.string n') := (hbA.cell (p := ⟨g, 1, none⟩) q.lt).trans q.cells.2.1
          have d0 : wr.drew.cell? (ad.add (j * 3)) = _ := q0
          have d1 : wr.drew.cell? ⟨(ad.add (j * 3)).block, (ad.add (j * 3)).off + 1, none⟩ = _ := q1
          have d2 : wr.drew.cell? ⟨(ad.add (j * 3)).block, (ad.add (j * 3)).off + 2, none⟩ = _ := q2
          have e0 : wr.drew.cell? ⟨g, 0, none⟩ = some (.string k) := q.cells.1
          have e1 : wr.drew.cell? ⟨g, 1, none⟩ = some (.string n') := q.cells.2.1
          have tA : Tap (wr.alloc (.cells #[.string ⟨#[]⟩, .string ⟨#[]⟩] 27)).drew b k n' := t.below hbA.drew
          have tB : Tap wr.drew b k n' := t
          have n7 : wr.heap.size ∉ [b] := by simp; omega
          have CA1 := Lib.hid (CA _ tA); have CB1 := Lib.hid (CA _ tB); have Q := Lib.hid q; have Q7 := Lib.hid q7; have HB := Lib.hid hbel; have N7 := Lib.hid n7; have HSZ := Lib.hid hsz
          clear CA tA tB q q7 hbel n7 hsz hbA hbl hinv t hadl
          go_cut [11, 12] (fun v11 v12 wx => Aft7 w g b k' m' v11 v12 wx)
          case first =>
            go_region_with (go_at_call 11; first
              | (refine CA1.out.mono ?_; rintro e w4 ⟨rfl, t4, a4⟩; have q4 := Q7.out.keep (w' := w4) (a4.block _ Q7.out.lt N7.out); obtain ⟨x0, x1, x2, x3⟩ := q4.cells; have T4 := Lib.hid t4; have A4 := Lib.hid a4; clear t4 a4 q4)
              | (refine CB1.out.mono ?_; rintro e w4 ⟨rfl, t4, a4⟩; have T4 := Lib.hid t4; have A4 := Lib.hid a4; clear t4 a4))
            all_goals
              go_wp2_with fail
              go_meet
              first
                | exact aft7_B Q.out h1 hl h3 HB.out T4.out A4.out
                | exact aft7_A Q.out h1 hl h3 HB.out T4.out A4.out
          case rest =>
            clear CA1 CB1 a0 a1 a2 c0 c1 d0 d1 d2 e0 e1 Q Q7 HB N7 q0 q1 q2
            obtain ⟨g7, rfl, rfl, t7, p7, hg7b, hg7g, hg7w, ⟨k0, n0, pg⟩, hb7⟩ := hcut
            have inv := aft7_inv t7 pg HSZ.out.1 HSZ.out.2 h1 h2 h3 hb7
            obtain ⟨x0, x1, x2, x3⟩ := p7.cells
            obtain ⟨y0, y1, y2, y3⟩ := pg.cells
            have INV2 := Lib.hid inv
            clear inv t7 p7 pg hb7
            go_upto_region 16 with fail
            obtain ⟨wy, hwy⟩ : ∃ wy, (wc.setCell ⟨g, 0, none⟩ (.string k')).setCell ⟨g, 1, none⟩ (.string m') = wy := ⟨_, rfl⟩
            rw [hwy] at INV2 ⊢
            clear x0 x1 x2 x3 y0 y1 y2 y3 hwy
            obtain ⟨ty, qy, hky, hny, _, _, _, hby⟩ := INV2.out
            have gy := qy.lt
            have hk3 : k'.size ≤ 4294967296 := by omega
            have hn3 : m'.size ≤ 4294967296 := by omega
            have TY := Lib.hid ty; have QY := Lib.hid qy; have HBY := Lib.hid hby
            have R1 := Lib.hid (rtdirty_any k' m' hk3 hn3); have R2 := Lib.hid (rtsectors_any k' m' hk3 hn3)
            clear ty qy hby hky hny HSZ
            obtain ⟨u1, hu1⟩ : ∃ u, (unlL k'.data.toList m'.data.toList).length = u := ⟨_, rfl⟩
            obtain ⟨u2, hu2⟩ : ∃ u, cntN (max k'.size m'.size) = u := ⟨_, rfl⟩
            have D1 := fun (W : World) (hw : Tap W b k' m') => tdirty_b hk3 hn3 hw
            have D2 := fun (W : World) (hw : Tap W b k' m') => tsectors_b hk3 hn3 hw
            rw [hu1] at R1
            rw [hu2] at R2
            simp only [hu1] at D1
            simp only [hu2] at D2
            have DD1 := Lib.hid D1; have DD2 := Lib.hid D2
            clear D1 D2 hu1 hu2
            go_region_held3 (fun w' => Below wy.heap.size wy w' ∧ w'.cell? ⟨g, 0, none⟩ = some (.string k') ∧ w'.cell? ⟨g, 1, none⟩ = some (.string m'))
              (first | exact held7_start (b := b) QY.out | exact held7_call (b := b) gy (by assumption) hb1)
              (first
                | (go_at_call 12; refine (tnow_b (held7_tap (b := b) TY.out (by assumption))).mono ?_; rintro e w1 ⟨rfl, hb1⟩)
                | (go_at_call 13; refine (tkept_b (held7_tap (b := b) TY.out (by assumption))).mono ?_; rintro e w1 ⟨rfl, hb1⟩)
                | (go_at_call 14; refine (DD1.out _ (held7_tap (b := b) TY.out (by assumption))).mono ?_; rintro e w1 ⟨rfl, hb1⟩)
                | (go_at_call 16; refine (DD2.out _ (held7_tap (b := b) TY.out (by assumption))).mono ?_; rintro e w1 ⟨rfl, hb1⟩)
                | (go_at_call 15; refine (R1.out _).mono ?_; rintro e w1 ⟨rfl, hb1⟩)
                | (go_at_call 17; refine (R2.out _).mono ?_; rintro e w1 ⟨rfl, hb1⟩))
            go_wp2
            refine ⟨⟨j + 1, b, k', m', hlt, rfl, rfl, ?_⟩, by simp [intOf]; omega⟩
            rw [show 300 + 100 * (j + 1) = 300 + 100 * j + 100 by omega]
            exact inv7_below INV2.out (show Held7 wy b g k' m' _ by assumption).1
      · obtain rfl : j = n := by omega
        have hw := hinv.2.2.2.2.2.2.2
        clear hinv
        go_wp2_with fail
        refine (lives7_any _).mono ?_; rintro e w3 ⟨rfl, hb3⟩
        go_wp2
        go_ret
        exact ⟨rfl, hw.trans (hb3.mono hw.size)⟩
  · clear hr HN
    rcases big3 hs with h | ⟨h1, h⟩ | ⟨h1, h2, h⟩
    all_goals
      clear hs
      go_enter Try.func3, Try.ntmps3
      go_wp2_with fail
      refine (lives7_any _).mono ?_; rintro e w1 ⟨rfl, hb1⟩
      go_wp2
      go_ret
      exact ⟨rfl, hb1⟩
end Go.Proofs.Ytcoacbknhlnjmaa
