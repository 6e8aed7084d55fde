/-
  The walk of FolderPlays (layer 9), last part.
-/
import Derived.Test.YtpcbfkcpefcnjaaLawFold6
namespace Go.Proofs.Ytpcbfkcpefcnjaa
open Go.RowKit
set_option linter.unusedVariables false

set_option maxRecDepth 100000 in
set_option maxHeartbeats 3200000 in
theorem folderPlays_walk (a0 : Option Addr) (l : List Op09) (c0 : Nat) (ask : ByteArray) (w : World) (hr : Op09s w (· < w.heap.size) a0 l) (hfit : ∀ x ∈ l, x.fits) (_hm : l.length ≤ maxLen) (w1 : ask.size ≤ maxLen) :
    Calls Try.prog 3 #[.slice a0 l.length c0, .string ask] w fun e w' => e = .returned (.bool true) ∧ Below w.heap.size w w' := by
  by_cases hl : l.length ≤ 30
  · obtain ⟨n, hn⟩ : ∃ n, l.length = n := ⟨_, rfl⟩
    have HN := Lib.hid hn
    rw [hn] at hl ⊢
    have HR := Lib.hid hr; have HFIT := Lib.hid hfit; have HASK := Lib.hid w1
    clear hn hr hfit _hm w1
    go_enter Try.func3, Try.ntmps3
    go_wp2_with fail
    refine (fonew_any _).mono ?_
    rintro e w1 ⟨f, S, rfl, hF, hS, hb1⟩
    have HF := Lib.hid hF; have HS := Lib.hid hS; have HB1 := Lib.hid hb1
    clear hF hS hb1
    go_wp2_with fail
    refine (rnew9_any _).mono ?_
    rintro e w2 ⟨qa, qc, rfl, hq, hb2⟩
    have inv : Inv9 w w2.heap.size f [[]] 1 (w2.alloc (.cells #[.slice qa 1 qc] 28)) := by
      have hbn := (Below.refl w2.heap.size w2).alloc (Nat.le_refl _) (.cells #[.slice qa 1 qc] 28)
      have hlt := HF.out.lt
      have z1 := HB1.out.size
      have z2 := hb2.size
      have hs : (w2.alloc (.cells #[.slice qa 1 qc] 28)).heap.size = w2.heap.size + 1 := by simp
      refine ⟨S, qa, qc, (HF.out.below hb2).below hbn, by simp [okL], by simp [World.cell?_alloc_at], World.frozen?_alloc_at _ _ _ _ rfl, ?_, HS.out, fun g => ?_, by omega, by rw [hs]; omega, ?_⟩
      · refine (hq.below (fun b hb => by rcases hb with hb | hb; exact hb.elim; exact hb.2) hbn).more (fun b hb => ?_)
        rcases hb with hb | hb
        · exact hb.elim
        · exact ⟨by rw [hs]; omega, fun hh => by have := hlt _ hh; omega, by omega⟩
      · have := hlt _ g; omega
      · exact (HB1.out.trans (hb2.mono z1)).trans (hbn.mono (by omega))
    have INV := Lib.hid inv
    clear inv hq hb2
    obtain ⟨g, hg⟩ : ∃ g, w2.heap.size = g := ⟨_, rfl⟩
    go_wp2
    rw [hg] at INV
    clear hg
    go_loopw [5, 7] (fun v i wr => ∃ (j : Nat) (f : Addr) (L : List (List Ent)), j ≤ n ∧ i = .int .i64 j ∧ v = .pointer (some f) ∧ Inv9 w g f L (1 + j) wr) (fun _ i _ => n - (intOf i).toNat)
    case atStart => exact ⟨0, f, [[]], Nat.zero_le _, rfl, rfl, INV.out⟩
    case round =>
      obtain ⟨j, f, L, hj, rfl, rfl, hinv⟩ := hrel
      have hI := hinv
      obtain ⟨S, a, c, hF, hok, hq, hz, hll, hS, hgS, hg0, hg1, hbel⟩ := hI
      by_cases hlt : j < n
      · have hjl : j < l.length := by rw [HN.out]; exact hlt
        obtain ⟨ad, rfl, hab, q0, q1, q2, q3⟩ := (HR.out.below (fun b hb => hb) hbel) j hjl
        have hxf := HFIT.out (l[j]'hjl) (List.getElem_mem hjl)
        obtain ⟨x, hx⟩ : ∃ x, l[j]'hjl = x := ⟨_, rfl⟩
        rw [hx] at q0 q1 q2 q3 hxf
        obtain ⟨xk, xm, xs, xd⟩ := x
        obtain ⟨_, ⟨m0, m1⟩, fs, fd⟩ := hxf
        simp only at q0 q1 q2 q3 m0 m1 fs fd
        clear hx
        have b0 : (0 : Int) ≤ (j : Int) := by omega
        have b1 : (j : Int) < (n : Int) := by omega
        have hj30 : j < 30 := by omega
        have hok4 : okL 400 L := okL_more hok (by omega)
        by_cases h5 : xk = 5
        · subst h5
          have K := Lib.hid (show okL 500 L from okL_more hok (by omega))
          have K2 := Lib.hid (show okL 500 (putF L ⟨#[111, 118, 101, 114]⟩ 9) from okL_more (okL_step hok 0 9 ⟨#[111, 118, 101, 114]⟩ ByteArray.empty) (by omega))
          have HFF := Lib.hid hF; have HOK := Lib.hid hok; have HQ := Lib.hid hq; have HZ := Lib.hid hz; have HLL := Lib.hid hll; have HS2 := Lib.hid hS; have HGS := Lib.hid hgS; have HBEL := Lib.hid hbel
          clear hinv hF hok hq hz hll hS hgS hbel hok4
          go_wp2_with fail
          refine (focopy_any HFF.out K.out).mono ?_
          rintro e w3 ⟨f3, S3, rfl, hF3, hS3, hb3⟩
          have hFo := HFF.out.below hb3
          have HF3 := Lib.hid hF3; have HS3 := Lib.hid hS3; have HB3 := Lib.hid hb3; have HFO := Lib.hid hFo
          clear hF3 hS3 hb3 hFo
          go_wp2_with fail
          refine (foput_any HFO.out K.out ⟨#[111, 118, 101, 114]⟩ (by unfold maxLen; show 4 ≤ 9223372036854775807; omega) 9 (by omega) (by omega)).mono ?_
          rintro e w4 ⟨rfl, S4, hF4, hA4, hS4⟩
          have HF4 := Lib.hid hF4; have HA4 := Lib.hid hA4; have HS4 := Lib.hid hS4
          clear hF4 hA4 hS4
          go_wp2_with fail
          refine (fosync_any HF4.out K2.out).mono ?_
          rintro e w5 ⟨rfl, S5, hF5, hA5, hS5⟩
          have i5 := inv9_copy HFF.out HOK.out HQ.out HZ.out HLL.out HS2.out HGS.out hg0 hg1 HBEL.out HF3.out HS3.out HB3.out HA4.out HS4.out hA5
          have I5 := Lib.hid i5
          clear hF5 hA5 hS5 i5
          go_wp2
          refine ⟨⟨j + 1, f3, L, hlt, rfl, rfl, ?_⟩, by simp [intOf]; omega⟩
          obtain ⟨p1, p2, p3, p4, p5, p6⟩ := I5.out
          exact ⟨p1, p2, p3, p4, okL_more p5 (by omega), p6⟩
        · have t5 : (xk == 5) = false := beq_eq_false_iff_ne.2 h5
          clear h5
          go_wp2_with fail
          obtain ⟨L2, hL2⟩ : ∃ L2, stepL L xk xm xs xd = L2 := ⟨_, rfl⟩
          have hok2 := okL_step hok xk xm xs xd
          have CA := fun (W : World) (hw : IsFold W S f L) (hP : ∀ b, (b < wr.heap.size ∧ b ∉ S ∧ b ≠ g) → b < W.heap.size ∧ b ∉ S) (hll : LLs W (fun b => b < wr.heap.size ∧ b ∉ S ∧ b ≠ g) a L) => step9_any hw hok4 a c _ hP hll xk xm xs xd m0 m1 fs fd
          obtain ⟨nl, hnl⟩ : ∃ nl, L.length = nl := ⟨_, rfl⟩
          rw [hL2] at hok2
          simp only [hL2] at CA
          simp only [hnl] at CA
          rw [hnl] at hq
          clear hL2 hnl
          have hltS := hF.lt
          have hbA := (Below.refl wr.heap.size wr).alloc (Nat.le_refl _) (.cells #[.slice none 0 0] 28)
          have hbl : (ad.add (j * 4)).block = ad.block := by unfold Addr.add; split <;> rfl
          have hadl : (ad.add (j * 4)).block < wr.heap.size := by have := hbel.size; omega
          have a0 : (wr.alloc (.cells #[.slice none 0 0] 28)).drew.cell? (ad.add (j * 4)) = _ := (hbA.cell hadl).trans q0
          have a1 : (wr.alloc (.cells #[.slice none 0 0] 28)).drew.cell? ⟨(ad.add (j * 4)).block, (ad.add (j * 4)).off + 1, none⟩ = _ := (hbA.cell (p := ⟨(ad.add (j * 4)).block, (ad.add (j * 4)).off + 1, none⟩) hadl).trans q1
          have a2 : (wr.alloc (.cells #[.slice none 0 0] 28)).drew.cell? ⟨(ad.add (j * 4)).block, (ad.add (j * 4)).off + 2, none⟩ = _ := (hbA.cell (p := ⟨(ad.add (j * 4)).block, (ad.add (j * 4)).off + 2, none⟩) hadl).trans q2
          have a3 : (wr.alloc (.cells #[.slice none 0 0] 28)).drew.cell? ⟨(ad.add (j * 4)).block, (ad.add (j * 4)).off + 3, none⟩ = _ := (hbA.cell (p := ⟨(ad.add (j * 4)).block, (ad.add (j * 4)).off + 3, none⟩) hadl).trans q3
          have ca : (wr.alloc (.cells #[.slice none 0 0] 28)).drew.cell? ⟨g, 0, none⟩ = _ := (hbA.cell (p := ⟨g, 0, none⟩) hg1).trans hq
          have d0 : wr.drew.cell? (ad.add (j * 4)) = _ := q0
          have d1 : wr.drew.cell? ⟨(ad.add (j * 4)).block, (ad.add (j * 4)).off + 1, none⟩ = _ := q1
          have d2 : wr.drew.cell? ⟨(ad.add (j * 4)).block, (ad.add (j * 4)).off + 2, none⟩ = _ := q2
          have d3 : wr.drew.cell? ⟨(ad.add (j * 4)).block, (ad.add (j * 4)).off + 3, none⟩ = _ := q3
          have cb : wr.drew.cell? ⟨g, 0, none⟩ = _ := hq
          have cA := CA (wr.alloc (.cells #[.slice none 0 0] 28)).drew (hF.below hbA.drew) (fun b hb => ⟨by show b < (wr.alloc _).heap.size; simp; omega, hb.2.1⟩) (hll.below (fun b hb => hb.1) hbA.drew)
          have cB := CA wr.drew (hF.below (Below.refl _ _).drew) (fun b hb => ⟨hb.1, hb.2.1⟩) hll
          have n7 : wr.heap.size ∉ S := fun hh => by have := hltS _ hh; omega
          have e7 : (wr.alloc (.cells #[.slice none 0 0] 28)).drew.cell? ⟨wr.heap.size, 0, none⟩ = some (.slice none 0 0) := by show (wr.alloc _).cell? _ = _; simp [World.cell?_alloc_at]
          have r7 : (wr.alloc (.cells #[.slice none 0 0] 28)).drew.frozen? ⟨wr.heap.size, 0, none⟩ = false := World.frozen?_alloc_at _ _ _ _ rfl
          have CA1 := Lib.hid cA; have CB1 := Lib.hid cB; have E7 := Lib.hid e7; have R7 := Lib.hid r7; have N7 := Lib.hid n7; have HQ := Lib.hid hq; have HZ := Lib.hid hz; have HS2 := Lib.hid hS; have HGS := Lib.hid hgS; have HBEL := Lib.hid hbel; have HLT := Lib.hid hltS; have HOK2 := Lib.hid hok2
          clear CA cA cB e7 r7 n7 hz hS hgS hbel hltS hok2 hF hok hll hbA hbl hadl hinv hok4 fs fd m0 m1
          go_cut [9, 10] (fun v9 v10 wx => Aft9 w g f L2 v9 v10 wx)
          case first =>
            go_region_with (go_at_call 12; first
              | (refine CA1.out.mono ?_; rintro e w4 ⟨a4, c4, S4, rfl, hF4, hA4, hS4, hl4⟩; have x0 := (hA4.cell (p := ⟨wr.heap.size, 0, none⟩) (by show _ < (wr.alloc _).heap.size; simp) N7.out).trans E7.out; have x1 := (hA4.frozen (p := ⟨wr.heap.size, 0, none⟩) (by show _ < (wr.alloc _).heap.size; simp) N7.out).trans R7.out; have HF4 := Lib.hid hF4; have HA4 := Lib.hid hA4; have HS4 := Lib.hid hS4; have HL4 := Lib.hid hl4; clear hF4 hA4 hS4 hl4)
              | (refine CB1.out.mono ?_; rintro e w4 ⟨a4, c4, S4, rfl, hF4, hA4, hS4, hl4⟩; have HF4 := Lib.hid hF4; have HA4 := Lib.hid hA4; have HS4 := Lib.hid hS4; have HL4 := Lib.hid hl4; clear hF4 hA4 hS4 hl4))
            all_goals
              go_wp2_with fail
              go_meet
              first
                | exact aft9_B HQ.out HZ.out HS2.out HGS.out hg0 hg1 HBEL.out HF4.out HA4.out HS4.out HL4.out
                | exact aft9_A HQ.out HZ.out HS2.out HLT.out HGS.out hg0 hg1 HBEL.out HF4.out HA4.out HS4.out HL4.out
          case rest =>
            clear CA1 CB1 a0 a1 a2 a3 ca d0 d1 d2 d3 cb E7 R7 N7 HQ HZ HS2 HGS HBEL HLT q0 q1 q2 q3 hq hg1
            obtain ⟨g7, S7, a7, c7, rfl, rfl, hF7, k7, ⟨xx, yy, zz, kg⟩, kz, hl7, hS7, hg7, _, hg17, hb7⟩ := hcut
            have inv := aft9_inv (c := c7) HOK2.out hF7 kg kz hl7 hS7 hg7 hg0 hg17 hb7
            have INV2 := Lib.hid inv
            obtain ⟨n2, hn2⟩ : ∃ n2, L2.length = n2 := ⟨_, rfl⟩
            have HN2 := Lib.hid hn2
            rw [hn2] at k7 INV2
            clear inv hF7 hl7 hS7 hg7 hb7 hn2
            go_upto_region 16 with fail
            obtain ⟨wy, hwy⟩ : ∃ wy, wc.setCell ⟨g, 0, none⟩ (.slice a7 n2 c7) = wy := ⟨_, rfl⟩
            rw [hwy] at INV2 ⊢
            clear k7 kg kz hwy hg17
            obtain ⟨Sy, ay, cy, hFy, hoky, hqy, hzy, hly, hSy, hgSy, _, hgy, hby⟩ := INV2.out
            have cs := stands9_any hFy (okL_more hoky (by omega)) ay cy _ (fun b hb => hb.1) hly
            rw [HN2.out] at hqy cs
            have CS := Lib.hid cs
            clear hFy hoky hzy hly hSy hgSy hby cs
            go_wp2_with fail
            refine CS.out.mono ?_
            rintro e w6 ⟨rfl, hb6⟩
            have i6 := inv9_below INV2.out hb6
            have I6 := Lib.hid i6
            clear i6 hb6 hqy
            go_wp2
            refine ⟨⟨j + 1, f, L2, hlt, rfl, rfl, ?_⟩, by simp [intOf]; omega⟩
            obtain ⟨p1, p2, p3, p4, p5, p6⟩ := I6.out
            exact ⟨p1, p2, p3, p4, okL_more p5 (by omega), p6⟩
      · obtain rfl : j = n := by omega
        have cf := fun (W : World) (S : List Nat) (h : IsFold W S f L) => fofind_any h (okL_more hok (by omega)) ask HASK.out
        have cn := fun (W : World) (P : Nat → Prop) (hP : ∀ b, P b → b < W.heap.size) (h : LLs W P a L) => rnow9_any a L c P W h hP hok.1 (by have := hok.2.1; omega)
        have cr := fun (ai : Option Addr) (ci : Nat) (B : Nat → Prop) (W : World) (h : Ents W B ai (nowL L)) => rfind9_any ai (nowL L) ci ask B W h (by have := okL_now hok; omega)
        obtain ⟨r, hr⟩ : ∃ r, findE (nowL L) ask = r := ⟨_, rfl⟩
        obtain ⟨ln, hln⟩ : ∃ ln, nowL L = ln := ⟨_, rfl⟩
        obtain ⟨nl, hnl⟩ : ∃ nl, L.length = nl := ⟨_, rfl⟩
        simp only [hr] at cf cr
        simp only [hln] at cn cr
        simp only [hnl] at cn
        rw [hnl] at hq
        have CF := Lib.hid cf; have CN := Lib.hid cn; have CR := Lib.hid cr; have HFF := Lib.hid hF; have HLL := Lib.hid hll; have HBEL := Lib.hid hbel; have HQ := Lib.hid hq
        clear cf cn cr hF hll hbel hinv hok hS hgS hz hr hln hnl
        go_wp2_with fail
        refine (CF.out _ _ HFF.out).mono ?_
        rintro e w3 ⟨rfl, hb3⟩
        have q3 := (hb3.cell (p := ⟨g, 0, none⟩) hg1).trans HQ.out
        have hl3 := HLL.out.below (fun b hb => hb.1) hb3
        have z3 := hb3.size
        have HL3 := Lib.hid hl3; have HB3 := Lib.hid (HBEL.out.trans (hb3.mono HBEL.out.size)); have Z3 := Lib.hid z3
        clear hl3 hb3 hq z3
        go_wp2_with fail
        refine (CN.out _ _ (fun b hb => Nat.lt_of_lt_of_le hb.1 Z3.out) HL3.out).mono ?_
        rintro e w4 ⟨ai, ci, rfl, he, hb4⟩
        have HE := Lib.hid he; have HB4 := Lib.hid (HB3.out.trans (hb4.mono HB3.out.size))
        clear he hb4 q3
        go_wp2_with fail
        refine (CR.out _ _ _ _ HE.out).mono ?_
        rintro e w5 ⟨rfl, rfl⟩
        go_wp2_with fail
        refine (lives9_any _).mono ?_
        rintro e w6 ⟨rfl, hb6⟩
        go_wp2
        go_ret
        exact ⟨by simp, HB4.out.trans (hb6.mono HB4.out.size)⟩
  · have hg : 30 < l.length := by omega
    clear hl hr hfit _hm
    go_enter Try.func3, Try.ntmps3
    go_wp2_with fail
    refine (lives9_any _).mono ?_; rintro e w1 ⟨rfl, hb1⟩
    go_wp2
    go_ret
    exact ⟨rfl, hb1⟩
end Go.Proofs.Ytpcbfkcpefcnjaa
