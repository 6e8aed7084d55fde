/-
  The law ScanStops.
-/
import Derived.Test.YtibbglmhcjnedaaDoorLawScan2
import Derived.Test.YtibbglmhcjnedaaDoorChg3
import Derived.Test.YtibbglmhcjnedaaDoorRow
import Derived.Lib.QuoteBits
namespace Go.Proofs.YtibbglmhcjnedaaDoor
open Go.RowKit
set_option linter.unusedVariables false

theorem rowAt_bytes3 (w : World) (s : ByteArray) (cap : Nat) (e : TypeId) : RowAt (w.drew.alloc (.cells (bytesRow s cap) e ((bytesRow s cap).size, (bytesRow s cap).size + 1))) w.heap.size s.data.toList := by
  intro i hi
  have hi' : i < s.size := by simpa using hi
  have hsz : (bytesRow s cap).size = s.size + (cap - s.size) := by unfold bytesRow; rw [Array.size_append, Array.size_map, Array.size_replicate]; rfl
  refine ⟨?_, ?_⟩
  · rw [show w.heap.size = w.drew.heap.size from rfl, World.cell?_alloc_mark]
    unfold bytesRow
    rw [Array.getElem?_append_left (by simpa using hi'), Array.getElem?_map]
    have h2 : s.data[i]? = some (s.data.toList.getD i 0) := by
      rw [List.getD_eq_getElem?_getD, Array.getElem?_toList, Array.getElem?_eq_getElem (by simpa using hi')]; rfl
    rw [h2]; rfl
  · rw [show w.heap.size = w.drew.heap.size from rfl, World.frozen?_alloc_mark]
    simp; omega
theorem rowAt_put3 {W : World} {g : Nat} {l : List UInt8} (h : RowAt W g l) (k : Nat) (hk : k < l.length) (b : UInt8) :
    RowAt (W.setCell ⟨g, k, none⟩ (.int .u8 (b.toNat : Nat))) g (l.set k b) := by
  intro i hi
  obtain ⟨h1, h2⟩ := rowAt_set h k hk b i hi
  exact ⟨by simpa using h1, h2⟩
theorem xor_byte3 (old : UInt8) (p : Nat) (hp : p < 256) : Go.bits BinOp.xor IntKind.u8 ((old.toNat : Nat) : Int) (p : Int) = (((UInt8.ofNat (old.toNat ^^^ p)).toNat : Nat) : Int) ∧ (UInt8.ofNat (old.toNat ^^^ p)).toNat = old.toNat ^^^ p := by
  have hlt : old.toNat ^^^ p < 256 := Nat.xor_lt_two_pow (n := 8) old.toNat_lt hp
  have e2 : (UInt8.ofNat (old.toNat ^^^ p)).toNat = old.toNat ^^^ p := by show (old.toNat ^^^ p) % 256 = _; omega
  rw [e2]
  exact ⟨u8_xor_nat old.toNat p old.toNat_lt hp, rfl⟩
theorem RowAt.below {W W' : World} {g B : Nat} {l : List UInt8} (h : RowAt W g l) (hb : Below B W W') (hg : g < B) : RowAt W' g l := fun i hi =>
  ⟨(hb.cell (p := ⟨g, i, none⟩) hg).trans (h i hi).1, (hb.frozen (p := ⟨g, i, none⟩) hg).trans (h i hi).2⟩

/-- Run and Why of frames of one of which a byte of the data is another one. -/
theorem run_stops (l : List Part) (hl : l.length ≤ 12) (hd : ∀ p ∈ l, p.data.size ≤ 100) (wh at_ bn : Nat) (hw : wh < l.length) (hat : at_ < l[wh].data.size) (hb0 : bn ≠ 0) (hb : bn < 256) (S : ByteArray) (hS : S.data.toList = layK l 7 0 l.length) (old nb : UInt8)
    (hold : S.data.toList.getD ((layK l 7 0 wh).length + 16 + at_) 0 = old) (hnb : nb.toNat = old.toNat ^^^ bn) (T : ByteArray) (hT : T.data.toList = S.data.toList.set ((layK l 7 0 wh).length + 16 + at_) nb) :
    (layK l 7 0 wh).length + 16 + at_ < S.size ∧ T.size = S.size ∧ Ran T.data.toList 7 0 0 (frK l 7 0 wh) (layK l 7 0 wh).length ∧ whyN T.data.toList (layK l 7 0 wh).length = 19 := by
  have hSl : S.data.toList.length = S.size := by simp
  have hTs : T.size = S.size := by
    have := congrArg List.length hT
    rw [List.length_set] at this
    simpa using this
  obtain ⟨t, ht⟩ := layK_prefix l 7 0 (l.length - (wh + 1)) (wh + 1)
  rw [show wh + 1 + (l.length - (wh + 1)) = l.length by omega] at ht
  have hdw := hd l[wh] (List.getElem_mem hw)
  have hpre : ∃ t, S.data.toList = layK l 7 0 (wh + 1) ++ t := ⟨t, hS.trans ht⟩
  have key := fun (b : UInt8) hb' => stops_at l 7 0 wh at_ bn b hw (by omega) hat hb0 hb hb' S.data.toList hpre
  obtain ⟨-, -, -, h4, h5⟩ := key (UInt8.ofNat ((l[wh].data.data.toList.getD at_ 0).toNat ^^^ bn)) (xor_byte3 _ bn hb).2
  rw [hold] at h5
  obtain ⟨h1, h2, ⟨t', h3⟩, -, -⟩ := key nb (by rw [hnb, h5])
  rw [← hT] at h1 h2 h3
  rw [hSl] at h4
  have hr : Ran T.data.toList 7 0 0 (frK l 7 0 wh ++ []) (layK l 7 0 wh).length := by
    refine found l 7 0 (by omega) (by omega) (fun p hp => by have := hd p hp; omega) T.data.toList wh (by omega) ⟨t', h3⟩ [] _ ?_
    refine Ran.stop (fun h => ?_) ?_
    · have h0 : frmE (T.data.toList.drop (layK l 7 0 wh).length) = 0 := h.1
      omega
    · cases hf : fillL T.data.toList (layK l 7 0 wh).length with
      | false => rfl
      | true => have := fill_beg hf; omega
  rw [List.append_nil] at hr
  refine ⟨h4, hTs, hr, ?_⟩
  unfold whyN
  have hTl : T.data.toList.length = T.size := by simp
  rw [if_neg (by rw [hTl, hTs]; omega), if_neg (by omega), h1]

set_option maxRecDepth 100000 in
set_option maxHeartbeats 1600000 in
theorem scanStops_walk (a : Option Addr) (l : List Part) (c : Nat) (x : Chg3) (w : World) (fr : Parts w (· < w.heap.size) a l) (ff : ∀ p ∈ l, p.fits) (fm : l.length ≤ maxLen) (fx : x.fits) (hF : First w) :
    Calls Tryd.prog 6 #[.slice a l.length c, x.v] w fun e w' => e = .returned (.bool true) ∧ Below w.heap.size w w' := by
  obtain ⟨wh, at_, by_⟩ := x
  obtain ⟨-, -, hby0, hby1⟩ := fx
  have hby0 : 0 ≤ by_ := hby0
  have hby1 : by_ ≤ 255 := hby1
  show Calls Tryd.prog 6 #[.slice a l.length c, .agg #[.int .i64 wh, .int .i64 at_, .int .u8 by_]] w _
  have C8 := Lib.hid lives13_any
  have HF := Lib.hid hF; have HP := Lib.hid fr
  have hbox := (Below.refl w.heap.size w).alloc (Nat.le_refl _) (.cells #[.int .i64 wh, .int .i64 at_, .int .u8 by_] 45)
  have HB0 := Lib.hid hbox
  have B0 := Blk.new w #[.int .i64 wh, .int .i64 at_, .int .u8 by_] 45
  have k0 := B0.cell 0 _ rfl
  have k1 := B0.cell 1 _ rfl
  have k2 := B0.cell 2 _ rfl
  have CS := Lib.hid (fun W (hW : Parts W (· < W.heap.size) a l) => small_any a c l fm 7 0 W hW)
  unfold maxLen at fm
  clear hF fr ff hbox B0
  go_enter Tryd.func6, Tryd.ntmps6
  go_wp2
  go_quiet (fail)
  obtain ⟨W1, hW1⟩ : ∃ W1, (w.alloc (.cells #[.int .i64 wh, .int .i64 at_, .int .u8 by_] 45)).drewN nq = W1 := ⟨_, rfl⟩
  have HB1 : Hid (Below w.heap.size w W1) := hW1 ▸ drewN_below HB0.out nq
  rw [hW1]
  have HP1 := Lib.hid (parts_on HP.out HB1.out)
  have HF1 := Lib.hid (HF.out.onto HB1.out)
  clear hW1 k0 k1 k2 HB0
  go_wp2_with fail
  refine (CS.out _ HP1.out).mono ?_; rintro e w2 ⟨bb, rfl, hbb, rfl⟩
  cases bb with
  | false =>
    go_wp2_with fail
    refine (C8.out _ HF1.out).mono ?_; rintro e w3 ⟨rfl, hb3⟩
    go_wp2
    go_ret
    exact ⟨rfl, HB1.out.trans (hb3.mono HB1.out.size)⟩
  | true =>
    obtain ⟨hl, hd, -, -⟩ := hbb rfl
    have HD := Lib.hid hd
    clear hbb CS hd
    by_cases h1 : wh < 0
    · go_wp2_with fail
      refine (C8.out _ HF1.out).mono ?_; rintro e w3 ⟨rfl, hb3⟩
      go_wp2
      go_ret
      exact ⟨rfl, HB1.out.trans (hb3.mono HB1.out.size)⟩
    obtain ⟨wn, rfl⟩ := Int.eq_ofNat_of_zero_le (show 0 ≤ wh by omega)
    by_cases h2 : l.length ≤ wn
    · go_wp2_with fail
      refine (C8.out _ HF1.out).mono ?_; rintro e w3 ⟨rfl, hb3⟩
      go_wp2
      go_ret
      exact ⟨rfl, HB1.out.trans (hb3.mono HB1.out.size)⟩
    have h2' : wn < l.length := by omega
    by_cases h3 : at_ < 0
    · go_wp2_with fail
      refine (C8.out _ HF1.out).mono ?_; rintro e w3 ⟨rfl, hb3⟩
      go_wp2
      go_ret
      exact ⟨rfl, HB1.out.trans (hb3.mono HB1.out.size)⟩
    obtain ⟨an, rfl⟩ := Int.eq_ofNat_of_zero_le (show 0 ≤ at_ by omega)
    obtain ⟨ad, rfl, -, p0, -⟩ := HP1.out wn h2'
    obtain ⟨dn, hdn⟩ : ∃ d, l[wn].data = d := ⟨_, rfl⟩
    rw [hdn] at p0
    by_cases h4 : dn.size ≤ an
    · clear hdn
      go_wp2_with fail
      refine (C8.out _ HF1.out).mono ?_; rintro e w3 ⟨rfl, hb3⟩
      go_wp2
      go_ret
      exact ⟨rfl, HB1.out.trans (hb3.mono HB1.out.size)⟩
    obtain ⟨bn, rfl⟩ := Int.eq_ofNat_of_zero_le hby0
    by_cases h5 : bn = 0
    · subst h5
      clear hdn
      go_wp2_with fail
      refine (C8.out _ HF1.out).mono ?_; rintro e w3 ⟨rfl, hb3⟩
      go_wp2
      go_ret
      exact ⟨rfl, HB1.out.trans (hb3.mono HB1.out.size)⟩
    have r5 : ((bn : Int) == 0) = false := by simp; omega
    have CL := Lib.hid (laid_any (some ad) c l hl HD.out 7 0 (by omega) (by omega) W1 HP1.out)
    have KEY := Lib.hid (fun S hS old nb hold hnb T hT => run_stops l hl HD.out wn an bn h2' (by rw [hdn]; omega) h5 (by omega) S hS old nb hold hnb T hT)
    clear hdn
    go_wp2_with fail
    refine CL.out.mono ?_; rintro e w2 ⟨S, ap, cp, rfl, hS, hpl, hb2⟩
    have HS := Lib.hid hS
    have HB2 := Lib.hid (HB1.out.trans (hb2.mono HB1.out.size))
    have HF2 := Lib.hid (HF1.out.onto hb2)
    have hpn := plK_len l 7 0 l.length
    obtain ⟨ap', rfl, hapb, q0⟩ := hpl wn (by omega)
    rw [plK_get] at q0
    have hSn := layK_len l 7 0 HD.out l.length
    have hSl : S.data.toList.length = S.size := by simp
    rw [← HS.out, hSl] at hSn
    obtain ⟨old, hold⟩ : ∃ old, S.data.toList.getD ((layK l 7 0 wn).length + 16 + an) 0 = old := ⟨_, rfl⟩
    obtain ⟨f1, f2⟩ := xor_byte3 old bn (by omega)
    obtain ⟨nb, hnb⟩ : ∃ nb, UInt8.ofNat (old.toNat ^^^ bn) = nb := ⟨_, rfl⟩
    rw [hnb] at f1 f2
    obtain ⟨pn, hpn'⟩ : ∃ p, (layK l 7 0 wn).length = p := ⟨_, rfl⟩
    have hkey := KEY.out S HS.out old nb hold f2 ⟨(S.data.toList.set (pn + 16 + an) nb).toArray⟩ (by rw [hpn'])
    rw [hpn'] at hkey q0 hold
    obtain ⟨g1, g2, g3, g4⟩ := hkey
    obtain ⟨T, hT⟩ : ∃ T : ByteArray, (⟨(S.data.toList.set (pn + 16 + an) nb).toArray⟩ : ByteArray) = T := ⟨_, rfl⟩
    rw [hT] at g2 g3 g4
    have hfl := frK_len l 7 0 wn
    rw [Nat.min_eq_left (by omega)] at hfl
    have CR : Hid (∀ w, First w → Calls Tryd.prog 9 #[.string T, .int .i64 7, .int .i64 0] w fun e w' => ∃ a c, e = .returned (.tuple #[.slice a wn c, .int .i64 (pn : Nat)]) ∧ Below w.heap.size w w') := fun w hw => (srun_any T (by omega) 7 0 w hw).mono fun e w' ⟨L', en', a, c, u1, u2, u3, u4⟩ => by
      obtain ⟨rfl, rfl⟩ := g3.same u1
      rw [hfl] at u2
      exact ⟨a, c, u2, u4⟩
    have CW := Lib.hid (swhy_any T (by omega) 7 0 _ _ g3)
    rw [g4] at CW
    have hi2 : pn + 16 + an < S.size := g1
    have hi3 : (pn : Int) + 16 + (an : Int) < (S.size : Int) := by omega
    have hi4 : ((pn : Int) + 16 + (an : Int)).toNat = pn + 16 + an := by omega
    have hi5 : (0 : Int) ≤ (pn : Int) + 16 + (an : Int) := by omega
    have hpn16 : pn ≤ 4294967296 := by omega
    have han16 : an ≤ 4294967296 := by omega
    clear g1 g2 g3 g4 hfl hSn hSl hnb f2 hpn' hpn hpl hS KEY CL
    have hapq : ap'.block < w2.heap.size := hapb.2
    have HOLD := Lib.hid hold; have HT := Lib.hid hT
    clear hold hT hapb
    have hcv := run_bytes_of_string (P := Tryd.prog) w2 9 46 5 S Tryd.underlying9 Tryd.underlying46 Tryd.underlying5
    obtain ⟨W3, hW3⟩ : ∃ W3, (w2.drew.alloc (.cells (bytesRow S (grownCap w2 S.size 0 5)) 5 ((bytesRow S (grownCap w2 S.size 0 5)).size, (bytesRow S (grownCap w2 S.size 0 5)).size + 1))) = W3 := ⟨_, rfl⟩
    have hR : RowAt W3 w2.heap.size S.data.toList := by rw [← hW3]; exact rowAt_bytes3 w2 S _ _
    have hbel : Below w2.heap.size w2 W3 := by rw [← hW3]; exact (Below.refl _ _).drew.alloc (Nat.le_refl _) _
    have hgl : w2.heap.size < W3.heap.size := by rw [← hW3]; show w2.heap.size < (w2.heap.push _).size; simp
    rw [hW3] at hcv
    obtain ⟨cap, hcap⟩ : ∃ cap, grownCap w2 S.size 0 5 = cap := ⟨_, rfl⟩
    rw [hcap] at hcv
    clear hcap hW3
    have hq3 : W3.cell? (ap'.add wn) = some (.int .i64 (pn : Nat)) := (hbel.cell (by rw [show (ap'.add wn).block = ap'.block by unfold Addr.add; split <;> rfl]; exact hapq)).trans q0
    have HW3 := Lib.hid (HB2.out.trans (hbel.mono HB2.out.size))
    have HF3 := Lib.hid (HF2.out.onto hbel)
    have hgw : w.heap.size ≤ w2.heap.size := HB2.out.size
    have hfg : 0 < w2.heap.size := HF2.out.2.2
    have HW3 := Lib.hid HW3.out
    obtain ⟨g, hg⟩ : ∃ g, w2.heap.size = g := ⟨_, rfl⟩
    rw [hg] at hcv hR hgw hfg hgl hapq
    obtain ⟨hc, hf⟩ := hR (pn + 16 + an) (by simpa using hi2)
    rw [HOLD.out] at hc
    have HR2 := Lib.hid (rowAt_put3 hR (pn + 16 + an) (by simpa using hi2) nb)
    have HW4 := Lib.hid (HW3.out.setCell (p := ⟨g, pn + 16 + an, none⟩) hgw (.int .u8 (nb.toNat : Nat)))
    have hbg := (Below.refl g W3).setCell (p := ⟨g, pn + 16 + an, none⟩) (Nat.le_refl _) (.int .u8 (nb.toNat : Nat))
    have HF4 := Lib.hid (HF3.out.below (B := g) hbg hfg)
    have HQ4 := Lib.hid ((hbg.cell (p := ap'.add wn) (by rw [show (ap'.add wn).block = ap'.block by unfold Addr.add; split <;> rfl]; exact hapq)).trans hq3)
    have HG4 := Lib.hid (show g < (W3.setCell ⟨g, pn + 16 + an, none⟩ (.int .u8 (nb.toNat : Nat))).heap.size by simpa [World.setCell] using hgl)
    have hc2 := row_string HR2.out S.size cap (by simp)
    rw [HT.out] at hc2
    have HAP := Lib.hid hapq
    clear hR HF3 HW3 hbg q0 hbel hg HB2 HF2 hb2 hgl hgw hfg hapq
    go_wp2_with fail
    refine (CR.out _ HF4.out).mono ?_; rintro e w5 ⟨af, cf, rfl, hb5⟩
    have HW5 := Lib.hid (HW4.out.trans (hb5.mono HW4.out.size))
    have HF5 := Lib.hid (HF4.out.onto hb5)
    have hq5 : w5.cell? (ap'.add wn) = some (.int .i64 (pn : Nat)) := (hb5.cell (by rw [show (ap'.add wn).block = ap'.block by unfold Addr.add; split <;> rfl]; exact Nat.lt_trans HAP.out HG4.out)).trans HQ4.out
    have HR5 := Lib.hid (HR2.out.below hb5 HG4.out)
    have hc5 := row_string HR5.out S.size cap (by simp)
    rw [HT.out] at hc5
    clear hc2 hc hf hq3 HW4 HF4 HR2 hb5 HQ4
    go_wp2_with fail
    refine (CW.out _ HF5.out).mono ?_; rintro e w6 ⟨rfl, hb6⟩
    have HW6 := Lib.hid (HW5.out.trans (hb6.mono HW5.out.size))
    have HF6 := Lib.hid (HF5.out.onto hb6)
    clear hb6 hc5 hq5
    go_wp2_with fail
    refine (C8.out _ HF6.out).mono ?_; rintro e w7 ⟨rfl, hb7⟩
    go_wp2
    go_ret
    exact ⟨by simp, HW6.out.trans (hb7.mono HW6.out.size)⟩
end Go.Proofs.YtibbglmhcjnedaaDoor
