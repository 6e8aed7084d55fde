/-
  Contracts of the document's Run.
-/
import Derived.Test.YtibbglmhcjnedaaDoorScanLeaf
import Derived.Test.YtibbglmhcjnedaaDoorScanPlaces
import Derived.Test.YtibbglmhcjnedaaDoorBlk
import Derived.Laws.OwnMore
import Derived.OwnWalk
namespace Go.Proofs.YtibbglmhcjnedaaDoor
open Go.RowKit
set_option linter.unusedVariables false

theorem Frm.flat_one' (L : List Frm) (f : Frm) : Frm.flat (L ++ [f]) = Frm.flat L ++ [.int .i64 f.ep, .int .i64 f.sq, .string f.data] := by rw [Frm.flat_app]; simp [Frm.flat]
theorem own_below' {w w' : World} {base : Nat} {e : TypeId} {size : Nat} {v : Value} {n : Nat} {xs : List Value} (h : w.ownsRow base e size v n xs) (hb : Below w.heap.size w w') : w'.ownsRow base e size v n xs := by
  refine ⟨h.1, ?_⟩
  rcases h.2 with h2 | ⟨g, cap, cur, hv, hg0, hg, hr⟩
  · exact .inl h2
  · exact .inr ⟨g, cap, cur, hv, hg0, (hb.block g (lt_of_block hg)).trans hg, hr⟩

set_option maxRecDepth 100000 in
set_option maxHeartbeats 1000000 in
theorem rrun_any (s : ByteArray) (hs : s.size ≤ 4294967296) (ep sq : Int) (hsq : -9223372036854775808 ≤ sq ∧ sq ≤ 9223372036854775807) (w : World) :
    Calls Tryd.prog 10 #[.string s, .int .i64 ep, .int .i64 sq] w fun e w' => ∃ L en a c, Ran s.data.toList ep sq 0 L en ∧ e = .returned (.tuple #[.slice a L.length c, .int .i64 (en : Nat)]) ∧ Frms w' (fun b => w.heap.size ≤ b ∧ b < w'.heap.size) a L ∧ Below w.heap.size w w' := by
  obtain ⟨i0, hi, hz0, hz1, hz2⟩ := info_parts frm_info
  have hlen : s.data.toList.length = s.size := by simp
  go_enter Tryd.func10, Tryd.ntmps10
  go_wp2
  go_loopw [2, 8, 9] (fun t2 t8 t9 wr => ∃ (k : Nat) (q : Int) (L : List Frm), t2 = .int .i64 q ∧ t9 = .int .i64 k ∧ k ≤ s.size ∧ 16 * L.length ≤ k ∧ wr.ownsRow w.heap.size 40 3 t8 L.length (Frm.flat L) ∧ Below w.heap.size w wr ∧ Hid (∀ L' e', Ran s.data.toList ep q k L' e' → Ran s.data.toList ep sq 0 (L ++ L') e')) (fun _ _ t9 _ => s.size - (intOf t9).toNat)
  case atStart => exact ⟨0, sq, [], rfl, rfl, Nat.zero_le _, Nat.zero_le _, World.ownsRow_nil _ _ _ _, Below.refl _ _, fun L' e' h => h⟩
  case round =>
    obtain ⟨k, q, L, rfl, rfl, hk, hL, hown, hbel, HP⟩ := hrel
    have hz : (s.extract k s.size).size = s.size - k := by simp
    have c1 := rone_any (s.extract k s.size) (by rw [hz]; unfold maxLen; omega)
    have hup := upT_ge k
    have e13 : ((k : Int) + 31) / 32 * 32 = (upT k : Nat) := by unfold upT; omega
    have c2 := fun h => rblank_any (s.extract k (upT k)) h
    have hbl : allF (s.extract k (upT k)).data.toList = allF ((s.data.toList.drop k).take (upT k - k)) := by rw [extract_list]
    rw [hbl] at c2
    have hbz0 : (s.extract k (upT k)).size ≤ s.size := by simp; omega
    have hbz : (s.extract k (upT k)).size ≤ maxLen := by unfold maxLen; omega
    have c2 := c2 hbz
    obtain ⟨bl, hbl2⟩ : ∃ b, allF ((s.data.toList.drop k).take (upT k - k)) = b := ⟨_, rfl⟩
    rw [hbl2] at c2
    have HFY := Lib.hid (fun h1 h2 (h3 : bl = true) => fillL_yes.2 ⟨h1, h2, hbl2.trans h3⟩)
    have HFN := Lib.hid (show fillL s.data.toList k = true → k % 32 ≠ 0 ∧ upT k ≤ s.size ∧ bl = true from fun h => by obtain ⟨a, b, c⟩ := fillL_yes.1 h; exact ⟨a, by omega, hbl2.symm.trans c⟩)
    by_cases hok : okL s.data.toList k
    · obtain ⟨e1, e2, e3, e4⟩ := one_fr hok
      have h0 : frmE (s.extract k s.size).data.toList = 0 := by rw [tl_list]; exact hok
      unfold oneV at c1
      rw [e1, e2, e3, e4, h0] at c1
      have HO := Lib.hid (ok_len hok)
      have HM := Lib.hid (show mtL s.data.toList ep q k ↔ (frL s.data.toList k).ep = ep ∧ (frL s.data.toList k).sq = q from ⟨fun h => h.2, fun h => ⟨hok, h⟩⟩)
      have HS := Lib.hid (ok_noFill hok)
      have HQ := Lib.hid (show 0 ≤ (frL s.data.toList k).sq ∧ (frL s.data.toList k).sq ≤ 2147483647 from by
        obtain ⟨_, _, _, _, _, h⟩ := frmE_zero hok
        show 0 ≤ ((leN (s.data.toList.drop k) 8 4 : Nat) : Int) ∧ ((leN (s.data.toList.drop k) 8 4 : Nat) : Int) ≤ 2147483647
        omega)
      have HR := Lib.hid (fun L' e' => @Ran.one s.data.toList ep q k L' e')
      obtain ⟨⟨x, y, d⟩, hfr⟩ : ∃ f, frL s.data.toList k = f := ⟨_, rfl⟩
      rw [hfr] at c1 HM HQ HR
      obtain ⟨m, hm⟩ : ∃ m, lnL s.data.toList k = m := ⟨_, rfl⟩
      rw [hm] at c1 HO HR
      have C1 := Lib.hid c1; have C2 := Lib.hid c2
      obtain ⟨m1, m2, m3⟩ := HO.out
      rw [hlen] at m1
      clear c1 c2 hz hbl hbl2 hbz hbz0 hok e1 e2 e3 e4 h0 hfr hm
      go_wp2_with fail
      refine (C1.out _).mono ?_; rintro e w1 ⟨rfl, hb1⟩
      have HW1 := Lib.hid ((hbel.trans (hb1.mono hbel.size)).alloc (hbel.trans (hb1.mono hbel.size)).size (.cells #[.int .i64 x, .int .i64 y, .string d] 40))
      have HO1 := Lib.hid ((own_below' hown hb1).alloc (.cells #[.int .i64 x, .int .i64 y, .string d] 40))
      have HB1 := Lib.hid (Blk.new w1 #[.int .i64 x, .int .i64 y, .string d] 40)
      clear hown hbel hb1
      by_cases h1 : x = ep
      · subst h1
        by_cases h2 : y = q
        · subst h2
          have hown2 := HO1.out
          have hsz := HW1.out.size
          have hnews := news_frm (w1.alloc (.cells #[.int .i64 x, .int .i64 y, .string d] 40)) x y d 40
          rw [World.size_alloc] at hnews
          go_wp2_with (at_builtin; refine wpList_append_own _ rfl _ _ 23 rfl w.heap.size 40 i0 _ 3 32 Tryd.underlying23 hi hz0 hz1 hz2 rfl (by decide) _ _ _ rfl (hown2.alloc _) ⟨w1.heap.size + 1, 0, none⟩ 1 1 [.int .i64 x, .int .i64 y, .string d] rfl rfl hnews (one_frm _ _ _) (by unfold maxLen; omega) (by omega) (by simp at hsz ⊢; omega) ?_; intro v' w3 hown' hgrow _)
          have HW3 : Below w.heap.size w w3 := ((HW1.out.alloc HW1.out.size _).grown hgrow (by have := HW1.out.size; simp at this ⊢; omega) (own_block hown2))
          have HO3 := Lib.hid hown'
          obtain ⟨y0, y1⟩ := HQ.out
          clear hown' hgrow hown2 hnews
          go_wp2
          go_roundw
          case rel => exact ⟨k + m, y + 1, L ++ [⟨x, y, d⟩], by rw [IntWalk.wrap64_in _ (by omega)], by go_num, by omega, by simp; omega, by rw [Frm.flat_one', List.length_append]; exact HO3.out, HW3, fun L' e' hr => by
            have := HP.out _ _ (HR.out L' e' (HM.out.2 (by simp)) hr)
            simpa using this⟩
          case measure => simp [intOf]; omega
        · have r1 : ((y : Int) == q) = false := by simpa using h2
          by_cases g1 : k % 32 = 0
          · have hb : True := trivial
            have hst := Lib.hid (HP.out [] k (Ran.stop (fun h => h2 (HM.out.1 h).2) (by
              cases hf : fillL s.data.toList k with
              | false => rfl
              | true => obtain ⟨a, b, c⟩ := HFN.out hf; first | omega | (rw [hb] at c; cases c))))
            have r2 : ((k : Int) % 32 != 0) = false := by simp; omega
            clear C2 HFY HFN
            go_wp2
            obtain ⟨a, c, e', hfr⟩ := own_frms HO1.out
            go_ret2
            have hst' := hst.out
            rw [List.append_nil] at hst'
            subst e'
            exact ⟨L, k, a, c, hst', rfl, hfr, HW1.out⟩
          · have r2 : ((k : Int) % 32 != 0) = true := by simp; omega
            by_cases g2 : upT k ≤ s.size
            · cases hb : bl with
              | false =>
                have hst := Lib.hid (HP.out [] k (Ran.stop (fun h => h2 (HM.out.1 h).2) (by
                  cases hf : fillL s.data.toList k with
                  | false => rfl
                  | true => obtain ⟨a, b, c⟩ := HFN.out hf; first | omega | (rw [hb] at c; cases c))))
                rw [hb] at C2
                clear HFY HFN
                go_wp2_with fail
                refine (C2.out _).mono ?_; rintro e w2 ⟨rfl, rfl⟩
                go_wp2
                obtain ⟨a, c, e', hfr⟩ := own_frms HO1.out
                go_ret2
                have hst' := hst.out
                rw [List.append_nil] at hst'
                subst e'
                exact ⟨L, k, a, c, hst', rfl, hfr, HW1.out⟩
              | true =>
                exact absurd (HFY.out g1 (by omega) hb) (by rw [HS.out]; simp)
            · have hb : True := trivial
              have hst := Lib.hid (HP.out [] k (Ran.stop (fun h => h2 (HM.out.1 h).2) (by
                cases hf : fillL s.data.toList k with
                | false => rfl
                | true => obtain ⟨a, b, c⟩ := HFN.out hf; first | omega | (rw [hb] at c; cases c))))
              clear C2 HFY HFN
              go_wp2
              obtain ⟨a, c, e', hfr⟩ := own_frms HO1.out
              go_ret2
              have hst' := hst.out
              rw [List.append_nil] at hst'
              subst e'
              exact ⟨L, k, a, c, hst', rfl, hfr, HW1.out⟩
      · have r1 : ((x : Int) == ep) = false := by simpa using h1
        by_cases g1 : k % 32 = 0
        · have hb : True := trivial
          have hst := Lib.hid (HP.out [] k (Ran.stop (fun h => h1 (HM.out.1 h).1) (by
            cases hf : fillL s.data.toList k with
            | false => rfl
            | true => obtain ⟨a, b, c⟩ := HFN.out hf; first | omega | (rw [hb] at c; cases c))))
          have r2 : ((k : Int) % 32 != 0) = false := by simp; omega
          clear C2 HFY HFN
          go_wp2
          obtain ⟨a, c, e', hfr⟩ := own_frms HO1.out
          go_ret2
          have hst' := hst.out
          rw [List.append_nil] at hst'
          subst e'
          exact ⟨L, k, a, c, hst', rfl, hfr, HW1.out⟩
        · have r2 : ((k : Int) % 32 != 0) = true := by simp; omega
          by_cases g2 : upT k ≤ s.size
          · cases hb : bl with
            | false =>
              have hst := Lib.hid (HP.out [] k (Ran.stop (fun h => h1 (HM.out.1 h).1) (by
                cases hf : fillL s.data.toList k with
                | false => rfl
                | true => obtain ⟨a, b, c⟩ := HFN.out hf; first | omega | (rw [hb] at c; cases c))))
              rw [hb] at C2
              clear HFY HFN
              go_wp2_with fail
              refine (C2.out _).mono ?_; rintro e w2 ⟨rfl, rfl⟩
              go_wp2
              obtain ⟨a, c, e', hfr⟩ := own_frms HO1.out
              go_ret2
              have hst' := hst.out
              rw [List.append_nil] at hst'
              subst e'
              exact ⟨L, k, a, c, hst', rfl, hfr, HW1.out⟩
            | true =>
              exact absurd (HFY.out g1 (by omega) hb) (by rw [HS.out]; simp)
          · have hb : True := trivial
            have hst := Lib.hid (HP.out [] k (Ran.stop (fun h => h1 (HM.out.1 h).1) (by
              cases hf : fillL s.data.toList k with
              | false => rfl
              | true => obtain ⟨a, b, c⟩ := HFN.out hf; first | omega | (rw [hb] at c; cases c))))
            clear C2 HFY HFN
            go_wp2
            obtain ⟨a, c, e', hfr⟩ := own_frms HO1.out
            go_ret2
            have hst' := hst.out
            rw [List.append_nil] at hst'
            subst e'
            exact ⟨L, k, a, c, hst', rfl, hfr, HW1.out⟩
    · have h0 : frmE (s.extract k s.size).data.toList ≠ 0 := by rw [tl_list]; exact hok
      obtain ⟨e1, e2, e3, e4⟩ := one_no rfl h0
      unfold oneV at c1
      rw [e1, e2, e3, e4] at c1
      obtain ⟨m, hm⟩ : ∃ m, frmE (s.extract k s.size).data.toList = m := ⟨_, rfl⟩
      rw [hm] at c1 h0
      have C1 := Lib.hid c1; have C2 := Lib.hid c2
      have r0 : ((m : Int) == 0) = false := by simp; omega
      have HMN := Lib.hid (show ¬ mtL s.data.toList ep q k from fun h => hok h.1)
      clear c1 c2 hz hbl hbl2 hbz hbz0 hok e1 e2 e3 e4 h0 hm
      go_wp2_with fail
      refine (C1.out _).mono ?_; rintro e w1 ⟨rfl, hb1⟩
      have HW1 := Lib.hid ((hbel.trans (hb1.mono hbel.size)).alloc (hbel.trans (hb1.mono hbel.size)).size (.cells #[.int .i64 0, .int .i64 0, .string ⟨#[]⟩] 40))
      have HO1 := Lib.hid ((own_below' hown hb1).alloc (.cells #[.int .i64 0, .int .i64 0, .string ⟨#[]⟩] 40))
      clear hown hbel hb1
      by_cases g1 : k % 32 = 0
      · have hb : True := trivial
        have hst := Lib.hid (HP.out [] k (Ran.stop (fun h => HMN.out h) (by
          cases hf : fillL s.data.toList k with
          | false => rfl
          | true => obtain ⟨a, b, c⟩ := HFN.out hf; first | omega | (rw [hb] at c; cases c))))
        have r2 : ((k : Int) % 32 != 0) = false := by simp; omega
        clear C2 HFY HFN
        go_wp2
        obtain ⟨a, c, e', hfr⟩ := own_frms HO1.out
        go_ret2
        have hst' := hst.out
        rw [List.append_nil] at hst'
        subst e'
        exact ⟨L, k, a, c, hst', rfl, hfr, HW1.out⟩
      · have r2 : ((k : Int) % 32 != 0) = true := by simp; omega
        by_cases g2 : upT k ≤ s.size
        · cases hb : bl with
          | false =>
            have hst := Lib.hid (HP.out [] k (Ran.stop (fun h => HMN.out h) (by
              cases hf : fillL s.data.toList k with
              | false => rfl
              | true => obtain ⟨a, b, c⟩ := HFN.out hf; first | omega | (rw [hb] at c; cases c))))
            rw [hb] at C2
            clear HFY HFN
            go_wp2_with fail
            refine (C2.out _).mono ?_; rintro e w2 ⟨rfl, rfl⟩
            go_wp2
            obtain ⟨a, c, e', hfr⟩ := own_frms HO1.out
            go_ret2
            have hst' := hst.out
            rw [List.append_nil] at hst'
            subst e'
            exact ⟨L, k, a, c, hst', rfl, hfr, HW1.out⟩
          | true =>
            have HFF := Lib.hid (HFY.out g1 (by omega) hb)
            rw [hb] at C2
            have hmore := (upT_more g1).1
            clear HFY HFN
            go_wp2_with fail
            refine (C2.out _).mono ?_; rintro e w2 ⟨rfl, rfl⟩
            go_wp2
            go_roundw
            case rel => exact ⟨upT k, q, L, rfl, rfl, g2, by omega, HO1.out, HW1.out, fun L' e' hr => HP.out L' e' (Ran.fill HFF.out hr)⟩
            case measure => simp [intOf]; omega
        · have hb : True := trivial
          have hst := Lib.hid (HP.out [] k (Ran.stop (fun h => HMN.out h) (by
            cases hf : fillL s.data.toList k with
            | false => rfl
            | true => obtain ⟨a, b, c⟩ := HFN.out hf; first | omega | (rw [hb] at c; cases c))))
          clear C2 HFY HFN
          go_wp2
          obtain ⟨a, c, e', hfr⟩ := own_frms HO1.out
          go_ret2
          have hst' := hst.out
          rw [List.append_nil] at hst'
          subst e'
          exact ⟨L, k, a, c, hst', rfl, hfr, HW1.out⟩
end Go.Proofs.YtibbglmhcjnedaaDoor
