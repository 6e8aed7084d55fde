/-
  Contract of the program's Cut (layer 15): a loop that goes on by a goto.
-/
import Derived.Test.YtlmihooahmgmjaaChunkCut
import Derived.WalkMore
import Derived.ScopeJumps
namespace Go.Proofs.Ytlmihooahmgmjaa
open Go.RowKit
set_option linter.unusedVariables false

/-- How many bytes are left, in the first slot. -/
def leftOf : Value → Nat | .string x => x.size | _ => 0
/-- At the label: what is left to be cut, and what lies cut. -/
def AtNext (s : ByteArray) (w : World) (a : Act) (wr : World) : Prop :=
  ∃ (cur : ByteArray) (L : List ByteArray) (v u1 u4 u5 u6 u7 u8 u9 u10 u11 u12 u13 u14 u15 u16 u17 u18 u19 u20 u21 u22 u23 u24 u25 u26 u27 u28 : Value),
    a = { tmps := #[.string cur, u1, .slice none 0 0, v, u4, u5, u6, u7, u8, u9, u10, u11, u12, u13, u14, u15, u16, u17, u18, u19, u20, u21, u22, u23, u24, u25, u26, u27, u28], defers := [] } ∧ CutI s w cur L v wr

set_option maxRecDepth 100000 in
set_option maxHeartbeats 1600000 in
theorem cut_any (s : ByteArray) (hs : s.size ≤ 1000000) (w : World) :
    Calls Try.prog 57 #[.string s] w (RetCut s w) := by
  obtain ⟨i0, hi, hz0, hz1, hz2⟩ := info_parts string_info
  have hv := valid_any s (by unfold maxLen; omega)
  by_cases hb : vldB s.data.toList = true
  · rw [hb] at hv
    have HV := Lib.hid hv; have HVL := Lib.hid ((vldB_iff _).1 hb)
    clear hv hb
    go_enter Try.func57, Try.ntmps57
    go_wp2
    refine wp_scope_jumps 0 (AtNext s w) (fun a' _ => leftOf (a'.tmps.getD 0 undef)) rfl ?_ ?_
    · go_wp2_with fail
      refine (HV.out _).mono ?_; rintro e w1 ⟨rfl, hb1⟩
      have hc := CutI.start HVL.out hb1
      clear hb1
      go_wp2_with fail
      go_step3
      have hlen := hc.len
      by_cases h16 : 16 < s.size
      · have hb := back_any s (by unfold maxLen; omega) 16
        have e : backI s.data.toList 16 = cutN s := by
          rw [show (16 : Int) = ((16 : Nat) : Int) from rfl, backI_nat _ _ (by simp; omega)]
          rfl
        rw [e] at hb
        have cs := short_no s (by omega)
        have hn := cutN_le s
        have hn2 := cutN_ge s hc.val h16
        have HST := Lib.hid (fun v' w2 => @CutI.step s s w w1 w2 ([] : List ByteArray) (.slice none 0 0) v' hc h16)
        obtain ⟨n, hnn⟩ : ∃ n, cutN s = n := ⟨_, rfl⟩
        rw [hnn] at hb hn hn2 HST
        obtain ⟨N, hN⟩ : ∃ N, ([] : List ByteArray).length = N := ⟨_, rfl⟩
        have hown := hc.own
        rw [hN] at HST hlen hown
        have HC := Lib.hid hc; have HB := Lib.hid hb; have CS := Lib.hid cs
        have hsz : w.heap.size ≤ w1.heap.size := hc.bel.size
        have i16 : (16 : Int) < (s.size : Int) := by omega
        have h3 : n ≤ s.size := by omega
        clear hb hnn e hc hN cs
        go_wp2_with fail
        refine (CS.out _).mono ?_; rintro e w' ⟨rfl, rfl⟩
        go_wp2_with fail
        refine (HB.out _).mono ?_; rintro e w' ⟨rfl, rfl⟩
        go_wp2_with (at_builtin; refine wpList_append_own _ rfl _ _ 28 rfl w.heap.size 9 i0 _ 1 16 Try.underlying28 hi hz0 hz1 hz2 rfl (by decide) _ _ _ rfl (hown.alloc _) ⟨w1.heap.size, 0, none⟩ 1 1 [.string (s.extract 0 n)] rfl rfl (news_one _ _ _) (by intro u hu; simp at hu; subst hu; rfl) (by unfold maxLen; omega) (by omega) (Nat.le_trans hsz (by simp)) ?_; intro v' w2 hown' hgrow _)
        have hb3 : Below w.heap.size w w2 := (HC.out.bel.alloc hsz _).grown hgrow (Nat.le_trans hsz (by simp)) (own_block hown)
        have HN := Lib.hid (HST.out v' w2 hown' hb3)
        have HZ := Lib.hid (show (s.extract n s.size).size < s.size by simp; omega)
        clear hown' hgrow hown hb3
        go_wp2
        go_step3
        exact ⟨rfl, ⟨_, _, _, _, _, _, _, _, _, _, _, _, _, _, _, _, _, _, _, _, _, _, _, _, _, _, _, _, _, rfl, HN.out⟩⟩
      · by_cases h0 : s.size = 0
        · obtain rfl := empty_yes h0
          have HR := Lib.hid (hc.none HVL.out h0)
          have CS := Lib.hid (short_yes _ (show (⟨#[]⟩ : ByteArray).size ≤ 16 by decide))
          clear hc hlen h16 h0
          go_wp2_with fail
          refine (CS.out _).mono ?_; rintro e w' ⟨rfl, rfl⟩
          go_wp2
          simp only [Exit.jump]
          go_ret
          exact HR.out
        · have t1 := toList_ne (s := s) (by omega)
          have t2 := toList_isEmpty (s := s) (by omega)
          have CS := Lib.hid (short_yes s (by omega))
          have HST := Lib.hid (fun v' w2 => @CutI.last s s w w1 w2 ([] : List ByteArray) (.slice none 0 0) v' HVL.out hc (by omega) (by omega))
          obtain ⟨N, hN⟩ : ∃ N, ([] : List ByteArray).length = N := ⟨_, rfl⟩
          have hown := hc.own
          rw [hN] at HST hlen hown
          have HC := Lib.hid hc
          have hsz : w.heap.size ≤ w1.heap.size := hc.bel.size
          clear hc hN h0
          go_wp2_with fail
          refine (CS.out _).mono ?_; rintro e w' ⟨rfl, rfl⟩
          go_wp2_with (at_builtin; refine wpList_append_own _ rfl _ _ 28 rfl w.heap.size 9 i0 _ 1 16 Try.underlying28 hi hz0 hz1 hz2 rfl (by decide) _ _ _ rfl (hown.alloc _) ⟨w1.heap.size, 0, none⟩ 1 1 [.string s] rfl rfl (news_one _ _ _) (by intro u hu; simp at hu; subst hu; rfl) (by unfold maxLen; omega) (by omega) (Nat.le_trans hsz (by simp)) ?_; intro v' w2 hown' hgrow _)
          have hb3 : Below w.heap.size w w2 := (HC.out.bel.alloc hsz _).grown hgrow (Nat.le_trans hsz (by simp)) (own_block hown)
          have HR := Lib.hid (HST.out v' w2 hown' hb3)
          clear hown' hgrow hown hb3
          go_wp2
          simp only [Exit.jump]
          go_ret
          exact HR.out
    · rintro a' wr ⟨cur, L, v, u1, u4, u5, u6, u7, u8, u9, u10, u11, u12, u13, u14, u15, u16, u17, u18, u19, u20, u21, u22, u23, u24, u25, u26, u27, u28, rfl, hc⟩
      have hlen := hc.len
      by_cases h16 : 16 < cur.size
      · have hb := back_any cur (by unfold maxLen; omega) 16
        have e : backI cur.data.toList 16 = cutN cur := by
          rw [show (16 : Int) = ((16 : Nat) : Int) from rfl, backI_nat _ _ (by simp; omega)]
          rfl
        rw [e] at hb
        have cs := short_no cur (by omega)
        have hn := cutN_le cur
        have hn2 := cutN_ge cur hc.val h16
        have HST := Lib.hid (fun v' w2 => @CutI.step s cur w wr w2 L v v' hc h16)
        obtain ⟨n, hnn⟩ : ∃ n, cutN cur = n := ⟨_, rfl⟩
        rw [hnn] at hb hn hn2 HST
        obtain ⟨N, hN⟩ : ∃ N, L.length = N := ⟨_, rfl⟩
        have hown := hc.own
        rw [hN] at HST hlen hown
        have HC := Lib.hid hc; have HB := Lib.hid hb; have CS := Lib.hid cs
        have hsz : w.heap.size ≤ wr.heap.size := hc.bel.size
        have i16 : (16 : Int) < (cur.size : Int) := by omega
        have h3 : n ≤ cur.size := by omega
        clear hb hnn e hc hN cs
        go_wp2_with fail
        refine (CS.out _).mono ?_; rintro e w' ⟨rfl, rfl⟩
        go_wp2_with fail
        refine (HB.out _).mono ?_; rintro e w' ⟨rfl, rfl⟩
        go_wp2_with (at_builtin; refine wpList_append_own _ rfl _ _ 28 rfl w.heap.size 9 i0 _ 1 16 Try.underlying28 hi hz0 hz1 hz2 rfl (by decide) _ _ _ rfl (hown.alloc _) ⟨wr.heap.size, 0, none⟩ 1 1 [.string (cur.extract 0 n)] rfl rfl (news_one _ _ _) (by intro u hu; simp at hu; subst hu; rfl) (by unfold maxLen; omega) (by omega) (Nat.le_trans hsz (by simp)) ?_; intro v' w2 hown' hgrow _)
        have hb3 : Below w.heap.size w w2 := (HC.out.bel.alloc hsz _).grown hgrow (Nat.le_trans hsz (by simp)) (own_block hown)
        have HN := Lib.hid (HST.out v' w2 hown' hb3)
        have HZ := Lib.hid (show (cur.extract n cur.size).size < cur.size by simp; omega)
        clear hown' hgrow hown hb3
        go_wp2
        go_step3
        exact ⟨rfl, ⟨_, _, _, _, _, _, _, _, _, _, _, _, _, _, _, _, _, _, _, _, _, _, _, _, _, _, _, _, _, rfl, HN.out⟩, HZ.out⟩
      · by_cases h0 : cur.size = 0
        · obtain rfl := empty_yes h0
          have HR := Lib.hid (hc.none HVL.out h0)
          have CS := Lib.hid (short_yes _ (show (⟨#[]⟩ : ByteArray).size ≤ 16 by decide))
          clear hc hlen h16 h0
          go_wp2_with fail
          refine (CS.out _).mono ?_; rintro e w' ⟨rfl, rfl⟩
          go_wp2
          simp only [Exit.jump]
          go_ret
          exact HR.out
        · have t1 := toList_ne (s := cur) (by omega)
          have t2 := toList_isEmpty (s := cur) (by omega)
          have CS := Lib.hid (short_yes cur (by omega))
          have HST := Lib.hid (fun v' w2 => @CutI.last s cur w wr w2 L v v' HVL.out hc (by omega) (by omega))
          obtain ⟨N, hN⟩ : ∃ N, L.length = N := ⟨_, rfl⟩
          have hown := hc.own
          rw [hN] at HST hlen hown
          have HC := Lib.hid hc
          have hsz : w.heap.size ≤ wr.heap.size := hc.bel.size
          clear hc hN h0
          go_wp2_with fail
          refine (CS.out _).mono ?_; rintro e w' ⟨rfl, rfl⟩
          go_wp2_with (at_builtin; refine wpList_append_own _ rfl _ _ 28 rfl w.heap.size 9 i0 _ 1 16 Try.underlying28 hi hz0 hz1 hz2 rfl (by decide) _ _ _ rfl (hown.alloc _) ⟨wr.heap.size, 0, none⟩ 1 1 [.string cur] rfl rfl (news_one _ _ _) (by intro u hu; simp at hu; subst hu; rfl) (by unfold maxLen; omega) (by omega) (Nat.le_trans hsz (by simp)) ?_; intro v' w2 hown' hgrow _)
          have hb3 : Below w.heap.size w w2 := (HC.out.bel.alloc hsz _).grown hgrow (Nat.le_trans hsz (by simp)) (own_block hown)
          have HR := Lib.hid (HST.out v' w2 hown' hb3)
          clear hown' hgrow hown hb3
          go_wp2
          simp only [Exit.jump]
          go_ret
          exact HR.out
  · have hv2 : ¬ vld s.data.toList := fun h => hb ((vldB_iff _).2 h)
    rw [Bool.eq_false_iff.2 hb] at hv
    have HV := Lib.hid hv; have HNV := Lib.hid hv2
    clear hv hb hv2
    go_enter Try.func57, Try.ntmps57
    go_wp2
    go_step3
    go_wp2_with fail
    refine (HV.out _).mono ?_; rintro e w1 ⟨rfl, hb1⟩
    go_wp2
    (try rw [Exit.noGoto_ret])
    go_ret
    exact ret_cut_no HNV.out hb1
end Go.Proofs.Ytlmihooahmgmjaa
