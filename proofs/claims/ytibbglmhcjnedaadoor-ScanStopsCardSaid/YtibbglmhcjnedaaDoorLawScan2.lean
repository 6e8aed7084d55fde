/-
  The law ScanFinds.
-/
import Derived.Test.YtibbglmhcjnedaaDoorScanLaid2
import Derived.Test.YtibbglmhcjnedaaDoorFst
namespace Go.Proofs.YtibbglmhcjnedaaDoor
open Go.RowKit
set_option linter.unusedVariables false

theorem parts_on {w w' : World} {a : Option Addr} {l : List Part} (h : Parts w (· < w.heap.size) a l) (hb : Below w.heap.size w w') : Parts w' (· < w'.heap.size) a l :=
  (h.below (fun b hb => hb) hb).more fun b hb' => Nat.lt_of_lt_of_le hb' hb.size

/-- Run of frames that are laid, with something behind that begins none and fills nothing up. -/
theorem run_found (l : List Part) (hl : l.length ≤ 12) (hd : ∀ p ∈ l, p.data.size ≤ 100) (ep sq : Nat) (he : ep ≤ 999999) (hq : sq ≤ 1000000) (S b T : ByteArray) (hS : S.data.toList = layK l ep sq l.length) (hT : S ++ b = T) (hb100 : b.size ≤ 100)
    (hb : b.data.toList = [] ∨ (bt b.data.toList 0 ≠ 83 ∧ bt b.data.toList 0 ≠ 255)) (w : World) (hF : First w) :
    Calls Tryd.prog 9 #[.string T, .int .i64 ep, .int .i64 sq] w fun e w' => ∃ a c, e = .returned (.tuple #[.slice a l.length c, .int .i64 (S.size : Nat)]) ∧ Frms w' (fun b => w.heap.size ≤ b ∧ b < w'.heap.size) a (frK l ep sq l.length) ∧ Below w.heap.size w w' := by
  have hSl : S.data.toList.length = S.size := by simp
  have hlen := layK_len l ep sq hd l.length
  rw [← hS, hSl] at hlen
  have hTl : T.data.toList = layK l ep sq l.length ++ b.data.toList := by rw [← hT, app_list, hS]
  have hTs : T.size = S.size + b.size := by rw [← hT, ByteArray.size_append]
  have hr : Ran T.data.toList ep sq 0 (frK l ep sq l.length ++ []) S.size := by
    refine found l ep sq he (by omega) (fun p hp => by have := hd p hp; omega) T.data.toList l.length (Nat.le_refl _) ⟨_, hTl⟩ [] S.size ?_
    rw [← hS, hSl]
    exact ends_at _ _ (b := b.data.toList) (by rw [hTl, ← hS, ← hSl, List.drop_left]) hb (by rw [hTl, ← hS, List.length_append]; omega)
  rw [List.append_nil] at hr
  refine (srun_any T (by omega) ep sq w hF).mono ?_
  rintro e w' ⟨L', en', a, c, h1, h2, h3, h4⟩
  obtain ⟨rfl, rfl⟩ := hr.same h1
  rw [frK_len, Nat.min_self] at h2
  exact ⟨a, c, h2, h3, h4⟩

set_option maxRecDepth 100000 in
set_option maxHeartbeats 1600000 in
theorem scanFinds_walk (a : Option Addr) (l : List Part) (c : Nat) (x : Fst) (b : ByteArray) (w : World) (fr : Parts w (· < w.heap.size) a l) (ff : ∀ p ∈ l, p.fits) (fm : l.length ≤ maxLen) (fx : x.fits) (hbs : b.size ≤ maxLen) (hF : First w) :
    Calls Tryd.prog 5 #[.slice a l.length c, x.v, .string b] w fun e w' => e = .returned (.bool true) ∧ Below w.heap.size w w' := by
  obtain ⟨xe, xs⟩ := x
  show Calls Tryd.prog 5 #[.slice a l.length c, .agg #[.int .i64 xe, .int .i64 xs], .string b] w _
  have C8 := Lib.hid lives13_any
  have HF := Lib.hid hF; have HP := Lib.hid fr
  have hbox := (Below.refl w.heap.size w).alloc (Nat.le_refl _) (.cells #[.int .i64 xe, .int .i64 xs] 34)
  have HB0 := Lib.hid hbox
  have B0 := Blk.new w #[.int .i64 xe, .int .i64 xs] 34
  have k0 := B0.cell 0 _ rfl
  have k1 := B0.cell 1 _ rfl
  have CS := Lib.hid (fun W (hW : Parts W (· < W.heap.size) a l) => small_any a c l fm xe xs W hW)
  unfold maxLen at hbs fm
  clear hF fr ff fx hbox B0
  go_enter Tryd.func5, Tryd.ntmps5
  go_wp2
  go_quiet (fail)
  obtain ⟨W1, hW1⟩ : ∃ W1, (w.alloc (.cells #[.int .i64 xe, .int .i64 xs] 34)).drewN nq = W1 := ⟨_, rfl⟩
  have HB1 : Hid (Below w.heap.size w W1) := hW1 ▸ drewN_below HB0.out nq
  rw [hW1]
  have HP1 := Lib.hid (parts_on HP.out HB1.out)
  clear hW1 k0 k1 HB0
  go_wp2_with fail
  refine (CS.out _ HP1.out).mono ?_; rintro e w2 ⟨bb, rfl, hbb, rfl⟩
  cases bb with
  | false =>
    go_wp2_with fail
    refine (C8.out _ (HF.out.onto HB1.out)).mono ?_; rintro e w3 ⟨rfl, hb3⟩
    go_wp2
    go_ret
    exact ⟨rfl, HB1.out.trans (hb3.mono HB1.out.size)⟩
  | true =>
    obtain ⟨hl, hd, ⟨he0, he1⟩, hs0, hs1⟩ := hbb rfl
    clear hbb CS
    by_cases hb100 : 100 < b.size
    · go_wp2_with fail
      refine (C8.out _ (HF.out.onto HB1.out)).mono ?_; rintro e w3 ⟨rfl, hb3⟩
      go_wp2
      go_ret
      exact ⟨rfl, HB1.out.trans (hb3.mono HB1.out.size)⟩
    · obtain ⟨ep, rfl⟩ := Int.eq_ofNat_of_zero_le he0
      obtain ⟨sq, rfl⟩ := Int.eq_ofNat_of_zero_le hs0
      have CL := Lib.hid (laid_any a c l hl hd ep sq (by omega) (by omega) W1 HP1.out)
      have HD := Lib.hid hd
      clear hd he0 hs0 fm
      go_wp2_with fail
      refine CL.out.mono ?_; rintro e w2 ⟨S, ap, cp, rfl, hS, -, hb2⟩
      have HS := Lib.hid hS
      have HB2 := Lib.hid (HB1.out.trans (hb2.mono HB1.out.size))
      have HF2 := Lib.hid (HF.out.onto HB2.out)
      clear hS hb2 CL
      have hSl : S.data.toList.length = S.size := by simp
      have hSn := layK_len l ep sq HD.out l.length
      rw [← HS.out, hSl] at hSn
      have hbl : b.data.toList.length = b.size := by simp
      obtain ⟨T, hT⟩ : ∃ T, S ++ b = T := ⟨_, rfl⟩
      have CR := Lib.hid (fun h => run_found l hl HD.out ep sq (by omega) (by omega) S b T HS.out hT (by omega) h)
      have F1 : ¬ (9223372036854775807 < S.size + b.size) := by omega
      clear hSl hSn
      by_cases hb0 : b.size = 0
      · have CR := Lib.hid (CR.out (.inl (List.eq_nil_of_length_eq_zero (by omega))))
        have hb1 : ¬ (0 : Int) < (b.size : Int) := by omega
        clear hbl hb0
        go_wp2_with fail
        refine (CR.out _ HF2.out).mono ?_; rintro e w3 ⟨af, cf, rfl, hfr, hb3⟩
        have HB3 := Lib.hid (HB2.out.trans (hb3.mono HB2.out.size))
        have HF3 := Lib.hid (HF2.out.onto hb3)
        have HFR := Lib.hid hfr
        have HP3 := Lib.hid (parts_on HP.out HB3.out)
        clear hb3 hfr CR
        go_wp2
        go_loopw [13] (fun i wr => ∃ k n : Nat, k ≤ l.length ∧ i = .int .i64 k ∧ wr = w3.drewN n) (fun i _ => l.length - (intOf i).toNat)
        case atStart => exact ⟨0, 0, Nat.zero_le _, rfl, rfl⟩
        case round =>
          obtain ⟨k, n, hk, rfl, hwr⟩ := hrel
          by_cases hlt : k < l.length
          · have hflen := frK_len l ep sq l.length
            rw [Nat.min_self] at hflen
            obtain ⟨ad1, rfl, -, p0, p1, p2⟩ := HFR.out k (by omega)
            obtain ⟨ad2, rfl, -, q0, -⟩ := HP3.out k hlt
            rw [frK_get (by omega) hlt] at p0 p1 p2
            obtain ⟨⟨d, fl⟩, hf⟩ : ∃ f, l[k] = f := ⟨_, rfl⟩
            rw [hf] at p2 q0
            have e : ∀ p, wr.cell? p = w3.cell? p := fun p => by rw [hwr]; rfl
            rw [← e] at p0 p1 p2 q0
            have p1 : wr.cell? ⟨(ad1.add (k * 3)).block, (ad1.add (k * 3)).off + 1, none⟩ = some (.int .i64 ((sq : Int) + (k : Int))) := p1.trans (by rw [show ((sq + k : Nat) : Int) = (sq : Int) + (k : Int) by omega])
            have HW := Lib.hid hwr
            clear e hf hwr hflen
            go_wp2
            go_quiet (fail)
            go_wp2
            go_roundw
            case rel => exact ⟨k + 1, n + nq, by omega, by go_num, by rw [HW.out]; simp [World.drewN, Nat.add_assoc]⟩
            case measure => simp [intOf]; omega
          · obtain rfl : k = l.length := by omega
            have HB4 := Lib.hid (show Below w.heap.size w wr from hwr ▸ drewN_below HB3.out n)
            have HF4 := Lib.hid (show First wr from hwr ▸ HF3.out)
            clear hwr
            go_wp2_with fail
            refine (C8.out _ HF4.out).mono ?_; rintro e w4 ⟨rfl, hb4⟩
            go_wp2
            go_ret
            exact ⟨rfl, HB4.out.trans (hb4.mono HB4.out.size)⟩
      · have g0 : 0 < b.size := by omega
        have hbt := bt_get b 0 g0
        clear hbl hb0
        by_cases h83 : b[0].toNat = 83
        · have r1 : ((b[0].toNat : Int) == 83) = true := by rw [h83]; rfl
          clear CR hbt
          go_wp2_with fail
          refine (C8.out _ HF2.out).mono ?_; rintro e w3 ⟨rfl, hb3⟩
          go_wp2
          go_ret
          exact ⟨rfl, HB2.out.trans (hb3.mono HB2.out.size)⟩
        · have r1 : ((b[0].toNat : Int) == 83) = false := by simp; omega
          by_cases h255 : b[0].toNat = 255
          · have r2 : ((b[0].toNat : Int) == 255) = true := by rw [h255]; rfl
            clear CR hbt
            go_wp2_with fail
            refine (C8.out _ HF2.out).mono ?_; rintro e w3 ⟨rfl, hb3⟩
            go_wp2
            go_ret
            exact ⟨rfl, HB2.out.trans (hb3.mono HB2.out.size)⟩
          · have r2 : ((b[0].toNat : Int) == 255) = false := by simp; omega
            have CR := Lib.hid (CR.out (.inr (by rw [hbt]; exact ⟨h83, h255⟩)))
            clear hbt h83 h255
            go_wp2_with fail
            refine (CR.out _ HF2.out).mono ?_; rintro e w3 ⟨af, cf, rfl, hfr, hb3⟩
            have HB3 := Lib.hid (HB2.out.trans (hb3.mono HB2.out.size))
            have HF3 := Lib.hid (HF2.out.onto hb3)
            have HFR := Lib.hid hfr
            have HP3 := Lib.hid (parts_on HP.out HB3.out)
            clear hb3 hfr CR
            go_wp2
            go_loopw [13] (fun i wr => ∃ k n : Nat, k ≤ l.length ∧ i = .int .i64 k ∧ wr = w3.drewN n) (fun i _ => l.length - (intOf i).toNat)
            case atStart => exact ⟨0, 0, Nat.zero_le _, rfl, rfl⟩
            case round =>
              obtain ⟨k, n, hk, rfl, hwr⟩ := hrel
              by_cases hlt : k < l.length
              · have hflen := frK_len l ep sq l.length
                rw [Nat.min_self] at hflen
                obtain ⟨ad1, rfl, -, p0, p1, p2⟩ := HFR.out k (by omega)
                obtain ⟨ad2, rfl, -, q0, -⟩ := HP3.out k hlt
                rw [frK_get (by omega) hlt] at p0 p1 p2
                obtain ⟨⟨d, fl⟩, hf⟩ : ∃ f, l[k] = f := ⟨_, rfl⟩
                rw [hf] at p2 q0
                have e : ∀ p, wr.cell? p = w3.cell? p := fun p => by rw [hwr]; rfl
                rw [← e] at p0 p1 p2 q0
                have p1 : wr.cell? ⟨(ad1.add (k * 3)).block, (ad1.add (k * 3)).off + 1, none⟩ = some (.int .i64 ((sq : Int) + (k : Int))) := p1.trans (by rw [show ((sq + k : Nat) : Int) = (sq : Int) + (k : Int) by omega])
                have HW := Lib.hid hwr
                clear e hf hwr hflen
                go_wp2
                go_quiet (fail)
                go_wp2
                go_roundw
                case rel => exact ⟨k + 1, n + nq, by omega, by go_num, by rw [HW.out]; simp [World.drewN, Nat.add_assoc]⟩
                case measure => simp [intOf]; omega
              · obtain rfl : k = l.length := by omega
                have HB4 := Lib.hid (show Below w.heap.size w wr from hwr ▸ drewN_below HB3.out n)
                have HF4 := Lib.hid (show First wr from hwr ▸ HF3.out)
                clear hwr
                go_wp2_with fail
                refine (C8.out _ HF4.out).mono ?_; rintro e w4 ⟨rfl, hb4⟩
                go_wp2
                go_ret
                exact ⟨rfl, HB4.out.trans (hb4.mono HB4.out.size)⟩
end Go.Proofs.YtibbglmhcjnedaaDoor
