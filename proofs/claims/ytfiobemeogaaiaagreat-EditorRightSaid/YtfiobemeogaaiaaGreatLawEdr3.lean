/-
  LawEdr3
-/
import Derived.Test.YtfiobemeogaaiaaGreatLawEdr2
import Derived.Test.YtfiobemeogaaiaaGreatJChunkRef
namespace Go.Proofs.YtfiobemeogaaiaaGreat
open Lib (hid)
open Go.RowKit
set_option linter.unusedVariables false
set_option linter.unusedSimpArgs false
abbrev Sta.cells (s : Sta) : Array Value := #[.string s.t, .slice s.m.a s.m.l.length s.m.c, .slice s.u.a s.u.l.length s.u.c, .slice s.r.a s.r.l.length s.r.c, .bool s.o, .slice s.g.a s.g.l.length s.g.c]
theorem InvS.z25 {s : Sta} (h : InvS s.d) : StaZ s := by
  have h2 : (lsP s.u.l).length ≤ 16 := h.ul.1
  have h3 : (lsP s.r.l).length ≤ 16 := h.rl.1
  have h4 : s.t.size ≤ 4096 := h.z
  have h5 : s.m.l.length ≤ 16 := h.ml
  have h6 : s.g.l.length ≤ 32 := h.gl
  rw [lsP_len] at h2 h3
  refine ⟨by omega, by omega, fun x hx => ?_, by omega, by omega, fun x hx => ?_⟩
  · have hm : rightM s.m.l s.t = true := h.m
    have := (markB_in (okM_parts ((rightM_mem.1 hm).1 x hx)).1).2.1
    have e : x.name.data.toList.length = x.name.size := by simp
    unfold maxLen
    omega
  · have ez : ∀ l : List Edt, (∀ y ∈ l, okE5 y = true) → Edtz l 4294967296 := fun l hl => h.edz hl
    unfold Sta.rows at hx
    rcases List.mem_append.1 hx with hx | hx
    · rcases List.mem_append.1 hx with hx | hx
      · have hl := lsP_all (fun y hy => (h.ul.2 y hy).2) x hx
        exact ⟨by omega, ez _ (lsP_all (fun y hy => h.ue y hy) x hx)⟩
      · have hl := lsP_all (fun y hy => (h.rl.2 y hy).2) x hx
        exact ⟨by omega, ez _ (lsP_all (fun y hy => h.re y hy) x hx)⟩
    · obtain rfl := List.mem_singleton.1 hx
      exact ⟨by omega, ez _ h.ge⟩
theorem InvS.of_d {s s' : Sta} (h : InvS s.d) (e : s'.d = s.d) : InvS s'.d := by rw [e]; exact h
theorem opr_at {w W : World} {a : Option Addr} {l : List Opr} (hr : Oprs w (· < w.heap.size) a l) (hb : Below w.heap.size w W) {k : Nat} (hk : k < l.length) : ∃ ad, a = some ad ∧ W.cell? (ad.add (k * 4)) = some (.int .i64 l[k].k) ∧ W.cell? ⟨(ad.add (k * 4)).block, (ad.add (k * 4)).off + 1, none⟩ = some (.int .i64 l[k].a) ∧ W.cell? ⟨(ad.add (k * 4)).block, (ad.add (k * 4)).off + 2, none⟩ = some (.int .i64 l[k].n) ∧ W.cell? ⟨(ad.add (k * 4)).block, (ad.add (k * 4)).off + 3, none⟩ = some (.string l[k].s) := by
  obtain ⟨ad, e, -, q0, q1, q2, q3⟩ := (hr.below (fun _ h => h) hb) k hk
  exact ⟨ad, e, q0, q1, q2, q3⟩
theorem fits_i64 {x : Opr} (h : x.fits) : i64P x.a := h.2.1
set_option maxRecDepth 100000 in
set_option maxHeartbeats 3200000 in
theorem editorRight_go (a : Option Addr) (l : List Opr) (c n : Nat) (w : World) (hr : Oprs w (· < w.heap.size) a l) (hf : ∀ x ∈ l, x.fits) (hn : l.length = n) (hw : fewO l = true) (h40 : n ≤ 40) :
    Calls Tryz.prog 5 #[.slice a n c] w fun e w' => e = .returned (.bool true) ∧ Below w.heap.size w w' := by
  have cw := few26_any a l c w hr (by unfold maxLen; omega)
  rw [hw, hn] at cw
  have CW := hid cw; have CN := hid (ed_new w); have HR := hid hr; have HF := hid hf; have HN := hid hn; have HW := hid (fewO_iff.1 hw).2
  have g40 : ¬ (40 : Int) < (n : Int) := by omega
  clear cw hr hf hn hw
  go_enter Tryz.func5, Tryz.ntmps5
  go_wp2_with fail
  refine CW.out.mono ?_; rintro e w1 ⟨rfl, rfl⟩
  go_wp2_with fail
  refine CN.out.mono ?_; rintro e w0 ⟨b, s0, r0, p0, L0, rfl, hi0, -, hb0, hbel0⟩
  have H0 := hid hi0; have HB0 := hid hb0; have HL0 := hid hbel0
  clear hi0 hb0 hbel0 CW CN
  go_wp2
  go_loopw [4] (fun i wr => ∃ (k : Nat) (s : Sta) (rb : Nat) (p : Option Addr) (L : List ByteArray), k ≤ n ∧ i = .int .i64 k ∧ IsEd wr b s rb p L ∧ Below w.heap.size w wr) (fun i _ => n - (intOf i).toNat)
  case atStart => exact ⟨0, s0, r0, p0, L0, Nat.zero_le _, rfl, H0.out, HL0.out⟩
  case round =>
    obtain ⟨k, s, rb, p, L, hk, rfl, hi, hbel⟩ := hrel
    by_cases hlt : k < n
    · have hkl : k < l.length := by rw [HN.out]; exact hlt
      have hbb := HB0.out
      have hbr : b < wr.heap.size := hi.lt
      have fx := HF.out (l[k]) (List.getElem_mem hkl)
      have sx := HW.out (l[k]) (List.getElem_mem hkl)
      have HI := hid hi; have HBEL := hid hbel; have CS := hid (hi.state [b] (fun i hi2 => by rw [List.mem_singleton.1 hi2]; exact hbr))
      have b0 : (0 : Int) ≤ (k : Int) := by omega
      have b1 : (k : Int) < (n : Int) := by omega
      clear hi hbel
      go_wp2_with fail
      refine CS.out.mono ?_; rintro e w1 ⟨s1, rfl, hd1, hs1, hb1⟩
      obtain ⟨wA, hwA, kA, hbA, hzA⟩ := box1 w1 s1.cells 31
      have hbel1 := HBEL.out.trans ((hb1.trans (hbA.mono hb1.size)).mono HBEL.out.size)
      obtain ⟨ad, rfl, q0, q1, q2, q3⟩ := opr_at HR.out hbel1 hkl
      have iA := (HI.out.later hb1).later hbA
      have cd := ed_do_any iA (l[k]).k (l[k]).a (l[k]).n (l[k]).s (fits_i64 fx) (by omega)
      obtain ⟨x, hx⟩ : ∃ x, l[k] = x := ⟨_, rfl⟩
      rw [hx] at q0 q1 q2 q3 cd
      obtain ⟨xk, xa, xn, xs⟩ := x
      simp only at q0 q1 q2 q3 cd
      obtain ⟨R, hR⟩ : ∃ R, doD s.d xk xa xn xs = R := ⟨_, rfl⟩
      have hno : R.2 ≠ 0 → R.1 = s.d := fun h => by rw [← hR] at h ⊢; exact do_no h
      rw [hR] at cd
      obtain ⟨Rs, Re⟩ := R
      have hne : w1.heap.size ≠ b := by have := hb1.size; omega
      have CD := hid cd; have KA := hid kA; have HS1 := hid (hs1.later hbA); have HD1 := hid hd1; have HNO := hid hno; have HB1 := hid hbel1; have HZA := hid (show w1.heap.size < wA.heap.size by omega)
      clear cd hbA hzA hb1 hs1 hd1 hno hR hx iA hbel1 fx sx CS kA
      go_wp2_with fail
      refine CD.out.mono ?_; rintro e w2 ⟨s2, r2, p2, L2, rfl, hi2, hd2, ha2⟩
      have KA2 := hid (KA.out.apart ha2 (by simpa using hne)); have HS2 := hid (HS1.out.apart ha2); have HB2 := hid (to_low HB1.out hbb ha2); have HZ2 := hid (Nat.lt_of_lt_of_le HZA.out ha2.size)
      have CS2 := hid (hi2.state [b] (fun i hi3 => by rw [List.mem_singleton.1 hi3]; exact hi2.lt)); have HI2 := hid hi2; have HD2 := hid hd2
      clear q0 q1 q2 q3 hwA ha2 hi2 hd2 CD KA HS1
      go_wp2_with fail
      refine CS2.out.mono ?_; rintro e w3 ⟨s3, rfl, hd3, hs3, hb3⟩
      obtain ⟨wB, hwB, kB, hbB, hzB⟩ := box1 w3 s3.cells 31
      have inv3 : InvS s3.d := HI2.out.inv.of_d hd3
      have cr := fun W (hW : Below wB.heap.size wB W) => rrightD_any s3 W ((hs3.later hbB).later hW).in inv3.z25
      simp only [right_eq, (inv_iff s3).2 inv3] at cr
      have kA3 := (KA2.out.onto hb3).onto hbB
      have cq := fun W (hW : Below wB.heap.size wB W) => rsame26_any s1 s3 W (((HS2.out.later hb3).later hbB).later hW).in ((hs3.later hbB).later hW).in ((HI.out.inv.of_d HD1.out).few) inv3.few
      have hb23 := hb3.trans (hbB.mono hb3.size)
      have hdd : s3.d = Rs := hd3.trans HD2.out
      have hsq : Re ≠ 0 → sameD s1.d s3.d = true := fun h => by rw [HD1.out, hdd, show Rs = s.d from HNO.out h]; exact sameD_refl _
      have CR := hid cr; have CQ := hid cq; have KB := hid kB; have KA3 := hid kA3; have HB3 := hid (HB2.out.trans (hb23.mono HB2.out.size)); have HI3 := hid (HI2.out.later hb23); have HSQ := hid hsq
      obtain ⟨z0, z1, z2, z3, z4, z5, -, -, -, -, -, -⟩ := kB.all6
      obtain ⟨y0, y1, y2, y3, y4, y5, -, -, -, -, -, -⟩ := kA3.all6
      clear cr cq kB kA3 hb23 hdd hsq inv3 hd3 hs3 hb3 hbB hzB CS2 KA2 HS2 HI2 HB2
      go_wp2_with fail
      refine (CR.out _ (Below.refl _ _)).mono ?_; rintro e w4 ⟨rfl, hb4⟩
      have HB4 := hid (HB3.out.trans (hb4.mono HB3.out.size)); have HI4 := hid (HI3.out.later hb4); have HB4' := hid hb4
      clear z0 z1 z2 z3 z4 z5 y0 y1 y2 y3 y4 y5 hwB
      obtain ⟨z0, z1, z2, z3, z4, z5, -, -, -, -, -, -⟩ := (KB.out.onto hb4).all6
      obtain ⟨y0, y1, y2, y3, y4, y5, -, -, -, -, -, -⟩ := (KA3.out.onto hb4).all6
      clear hb4
      by_cases hE : Re = 0
      · subst hE
        go_wp2
        go_roundw
        case rel => exact ⟨k + 1, s2, r2, p2, L2, by omega, by go_num, HI4.out, HB4.out⟩
        case measure => simp [intOf]; omega
      · have t1 : (Re == 0) = false := beq_eq_false_iff_ne.2 hE
        have cq := CQ.out w4 HB4'.out
        rw [HSQ.out hE] at cq
        have CQ2 := hid cq
        clear cq
        go_wp2_with fail
        refine CQ2.out.mono ?_; rintro e w5 ⟨rfl, hb5⟩
        have HB5 := hid (HB4.out.trans (hb5.mono HB4.out.size)); have HI5 := hid (HI4.out.later hb5)
        clear hb5 z0 z1 z2 z3 z4 z5 y0 y1 y2 y3 y4 y5
        go_wp2
        go_roundw
        case rel => exact ⟨k + 1, s2, r2, p2, L2, by omega, by go_num, HI5.out, HB5.out⟩
        case measure => simp [intOf]; omega
    · obtain rfl : k = n := by omega
      have HB := hid hbel
      clear hi hbel
      go_wp2_with fail
      refine (lives26_any _).mono ?_; rintro e w2 ⟨rfl, hb2⟩
      have HB2 := hid (HB.out.trans (hb2.mono HB.out.size))
      clear hb2
      go_wp2
      go_ret
      exact ⟨rfl, HB2.out⟩
set_option maxRecDepth 100000 in
set_option maxHeartbeats 1600000 in
theorem editorRight_off (a : Option Addr) (l : List Opr) (c n : Nat) (w : World) (hr : Oprs w (· < w.heap.size) a l) (hn : l.length = n) (hm : n ≤ maxLen) (hw : fewO l = true → 40 < n) :
    Calls Tryz.prog 5 #[.slice a n c] w fun e w' => e = .returned (.bool true) ∧ Below w.heap.size w w' := by
  have cw := few26_any a l c w hr (by omega)
  rw [hn] at cw
  obtain ⟨f, hf⟩ : ∃ f, fewO l = f := ⟨_, rfl⟩
  rw [hf] at cw hw
  unfold maxLen at hm
  have CW := hid cw
  clear cw hr hn hf
  cases f with
  | false =>
    clear hw
    go_enter Tryz.func5, Tryz.ntmps5
    go_wp2_with fail
    refine CW.out.mono ?_; rintro e w1 ⟨rfl, rfl⟩
    go_wp2_with fail
    refine (lives26_any _).mono ?_; rintro e w2 ⟨rfl, hb2⟩
    go_wp2
    go_ret
    exact ⟨rfl, hb2⟩
  | true =>
    have g40 : (40 : Int) < (n : Int) := by have := hw rfl; omega
    clear hw
    go_enter Tryz.func5, Tryz.ntmps5
    go_wp2_with fail
    refine CW.out.mono ?_; rintro e w1 ⟨rfl, rfl⟩
    go_wp2_with fail
    refine (lives26_any _).mono ?_; rintro e w2 ⟨rfl, hb2⟩
    go_wp2
    go_ret
    exact ⟨rfl, hb2⟩
theorem editorRight_walk (a : Option Addr) (l : List Opr) (c : Nat) (w : World) (hr : Oprs w (· < w.heap.size) a l) (hf : ∀ x ∈ l, x.fits) (hm : l.length ≤ maxLen) :
    Calls Tryz.prog 5 #[.slice a l.length c] w fun e w' => e = .returned (.bool true) ∧ Below w.heap.size w w' := by
  by_cases h : fewO l = true ∧ l.length ≤ 40
  · exact editorRight_go a l c _ w hr hf rfl h.1 h.2
  · exact editorRight_off a l c _ w hr rfl hm fun g => Nat.lt_of_not_le fun k => h ⟨g, k⟩
end Go.Proofs.YtfiobemeogaaiaaGreat
