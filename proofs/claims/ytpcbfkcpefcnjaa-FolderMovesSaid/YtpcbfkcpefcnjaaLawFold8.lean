/-
  The walk of FolderMoves (layer 9).
-/
import Derived.Test.YtpcbfkcpefcnjaaLawFold5
import Derived.RegionTactic
namespace Go.Proofs.Ytpcbfkcpefcnjaa
open Go.RowKit
set_option linter.unusedVariables false

theorem mv_two (s t : ByteArray) (a b : Int) (h : ¬ s = t) : ∃ l0, putF [[], [⟨s, a⟩]] t b = [[], [⟨s, a⟩], l0] ∧ l0.length = 2 ∧ findE l0 s = some a ∧ findE l0 t = some b ∧ moveF [l0] s t = [l0, [⟨t, a⟩]] := by
  have h' : ¬ t = s := fun e => h e.symm
  have e1 : findE [⟨s, a⟩] t = none := by simp [findE, nmB, h]
  have e2 : putF [[], [⟨s, a⟩]] t b = [[], [⟨s, a⟩], withE [⟨s, a⟩] ⟨t, b⟩] := by
    unfold putF
    rw [show findE (nowL [[], [⟨s, a⟩]]) t = none from e1]
    rfl
  have e3 : withE [⟨s, a⟩] ⟨t, b⟩ = [⟨t, b⟩, ⟨s, a⟩] ∨ withE [⟨s, a⟩] ⟨t, b⟩ = [⟨s, a⟩, ⟨t, b⟩] := by
    rcases hg : gtB t ⟨s, a⟩ with _ | _
    · right; simp [withE, withK, withS, hg]
    · left; simp [withE, withK, withS, hg]
  have e4 : ∀ l0 : List Ent, l0 = [⟨t, b⟩, ⟨s, a⟩] ∨ l0 = [⟨s, a⟩, ⟨t, b⟩] → l0.length = 2 ∧ findE l0 s = some a ∧ findE l0 t = some b ∧ withoutE (withoutE l0 s) t = [] := fun l0 hl => by
    rcases hl with rfl | rfl
    · simp [findE, nmB, withoutE, h']
    · simp [findE, nmB, withoutE, h]
  obtain ⟨f1, f2, f3, f4⟩ := e4 _ e3
  refine ⟨withE [⟨s, a⟩] ⟨t, b⟩, e2, f1, f2, f3, ?_⟩
  unfold moveF
  rw [show findE (nowL [withE [⟨s, a⟩] ⟨t, b⟩]) s = some a from f2]
  show (if s = t then _ else _) = _
  rw [if_neg h, show withoutE (withoutE (nowL [withE [⟨s, a⟩] ⟨t, b⟩]) s) t = [] from f4]
  rfl
theorem mv_one (s : ByteArray) (a : Int) : putF [[]] s a = [[], [⟨s, a⟩]] := rfl
theorem pick2 (c : Int) : pickN c 2 = 0 ∨ pickN c 2 = 1 := by have := pickN_lt c 2 (by omega); omega

set_option maxRecDepth 100000 in
set_option maxHeartbeats 1600000 in
theorem folderMoves_walk (s t : ByteArray) (a b : Int) (ch : Int) (w : World) (ws : s.size ≤ maxLen) (wt : t.size ≤ maxLen) (wa : -9223372036854775808 ≤ a ∧ a ≤ 9223372036854775807) (wb : -9223372036854775808 ≤ b ∧ b ≤ 9223372036854775807) (wc : (Lit.int .i64 ch).wf = true) :
    Calls Try.prog 4 #[.agg #[.string s, .string t], .agg #[.int .i64 a, .int .i64 b], .int .i64 ch] w fun e w' => e = .returned (.bool true) ∧ Below w.heap.size w w' := by
  have hB0 : Below w.heap.size w ((w.alloc (.cells #[.string s, .string t] 42)).alloc (.cells #[.int .i64 a, .int .i64 b] 43)).drew := (((Below.refl _ _).alloc (Nat.le_refl _) _).alloc (by simp) _).drew
  by_cases hst : s = t
  · subst hst
    clear wa wb wc ws wt
    go_enter Try.func4, Try.ntmps4
    go_wp2_with fail
    go_region
    go_wp2_with fail
    refine (lives9_any _).mono ?_
    rintro e w1 ⟨rfl, hb1⟩
    go_wp2
    go_ret
    exact ⟨rfl, hB0.trans (hb1.mono hB0.size)⟩
  · obtain ⟨c0, c1⟩ := bounds_i64 wc
    obtain ⟨l0, e1, e2, e3, e4, e5⟩ := mv_two s t a b hst
    have ok : ∀ L : List (List Ent), okL 10 L → okL 500 L := fun L h => okL_more h (by omega)
    have k1 : okL 500 [[], [⟨s, a⟩]] := ok _ (by simp [okL])
    have k2 : okL 500 [[], [⟨s, a⟩], l0] := ok _ (by simp [okL, e2])
    have k3 : okL 500 [l0] := ok _ (by simp [okL, e2])
    have k4 : okL 500 [l0, [⟨t, a⟩]] := ok _ (by simp [okL, e2])
    have k5 : okL 500 [[⟨t, a⟩]] := ok _ (by simp [okL])
    have hne := str_ne hst
    have f1 : findE [⟨t, a⟩] t = some a := by simp [findE, nmB]
    have hts : ¬ t = s := fun e => hst e.symm
    have f2 : findE [⟨t, a⟩] s = none := by simp [findE, nmB, hts]
    have c2 := fun (W : World) (S : List Nat) (f : Addr) (h : IsFold W S f [[]]) => foput_any h (ok _ (by simp [okL])) s ws a wa.1 wa.2
    have c3 := fun (W : World) (S : List Nat) (f : Addr) (h : IsFold W S f [[], [⟨s, a⟩]]) => foput_any h k1 t wt b wb.1 wb.2
    have c4 := fun (W : World) (S : List Nat) (f : Addr) (h : IsFold W S f [[], [⟨s, a⟩], l0]) => fosync_any h k2
    have c5 := fun (W : World) (S : List Nat) (f : Addr) (h : IsFold W S f [l0]) => fomove_any h k3 s t ws wt
    have c6 := fun (W : World) (S : List Nat) (f : Addr) (h : IsFold W S f [l0, [⟨t, a⟩]]) => focrash_any h k4 ch c0 c1
    simp only [mv_one] at c2
    simp only [e1] at c3
    simp only [e5] at c5
    have C2 := Lib.hid c2; have C3 := Lib.hid c3; have C4 := Lib.hid c4; have C5 := Lib.hid c5; have C6 := Lib.hid c6; have HB0 := Lib.hid hB0; have E3 := Lib.hid e3; have E4 := Lib.hid e4; have F1 := Lib.hid f1; have F2 := Lib.hid f2; have K3 := Lib.hid k3; have K5 := Lib.hid k5; have WS := Lib.hid ws; have WT := Lib.hid wt
    clear hts c2 c3 c4 c5 c6 hB0 e1 e2 e3 e4 e5 f1 f2 k1 k2 k3 k4 k5 ok hst ws wt wa wb wc c0 c1
    rcases pick2 ch with hp | hp
    all_goals
      have HP := Lib.hid hp; clear hp
      go_enter Try.func4, Try.ntmps4
      go_wp2_with fail
      go_region
      go_wp2_with fail
      refine (fonew_any _).mono ?_
      rintro e w1 ⟨f, S1, rfl, h1, hS1, hb1⟩
      have g1 : ∀ b ∈ S1, w.heap.size ≤ b := fun b hb => Nat.le_trans HB0.out.size (hS1 b hb)
      have H1 := Lib.hid h1; have G1 := Lib.hid g1; have HB1 := Lib.hid (HB0.out.trans (hb1.mono HB0.out.size)); clear h1 hS1 hb1 g1
      go_wp2_with fail
      refine (C2.out _ _ _ H1.out).mono ?_
      rintro e w2 ⟨rfl, S2, h2, ha2, hS2⟩
      have g2 : ∀ b ∈ S2, w.heap.size ≤ b := fun b hb => (hS2 b hb).elim (G1.out b) (fun h => Nat.le_trans HB1.out.size h)
      have H2 := Lib.hid h2; have G2 := Lib.hid g2; have HB2 := Lib.hid (HB1.out.trans (ha2.to_below G1.out HB1.out.size)); clear h2 hS2 ha2 g2 H1
      go_wp2_with fail
      refine (C3.out _ _ _ H2.out).mono ?_
      rintro e w3 ⟨rfl, S3, h3, ha3, hS3⟩
      have g3 : ∀ b ∈ S3, w.heap.size ≤ b := fun b hb => (hS3 b hb).elim (G2.out b) (fun h => Nat.le_trans HB2.out.size h)
      have H3 := Lib.hid h3; have G3 := Lib.hid g3; have HB3 := Lib.hid (HB2.out.trans (ha3.to_below G2.out HB2.out.size)); clear h3 hS3 ha3 g3 H2
      go_wp2_with fail
      refine (C4.out _ _ _ H3.out).mono ?_
      rintro e w4 ⟨rfl, S4, h4, ha4, hS4⟩
      have g4 : ∀ b ∈ S4, w.heap.size ≤ b := fun b hb => (hS4 b hb).elim (G3.out b) (fun h => Nat.le_trans HB3.out.size h)
      have H4 : Hid (IsFold w4 S4 f [l0]) := Lib.hid h4; have G4 := Lib.hid g4; have HB4 := Lib.hid (HB3.out.trans (ha4.to_below G3.out HB3.out.size)); clear h4 hS4 ha4 g4 H3
      go_wp2_with fail
      refine (C5.out _ _ _ H4.out).mono ?_
      rintro e w5 ⟨rfl, S5, h5, ha5, hS5⟩
      have g5 : ∀ b ∈ S5, w.heap.size ≤ b := fun b hb => (hS5 b hb).elim (G4.out b) (fun h => Nat.le_trans HB4.out.size h)
      have H5 := Lib.hid h5; have G5 := Lib.hid g5; have HB5 := Lib.hid (HB4.out.trans (ha5.to_below G4.out HB4.out.size)); clear h5 hS5 ha5 g5 H4
      go_wp2_with fail
      refine (C6.out _ _ _ H5.out).mono ?_
      rintro e w6 ⟨rfl, S6, h6, ha6, hS6⟩
      rw [show ([l0, [⟨t, a⟩]] : List (List Ent)).length = 2 from rfl, HP.out] at h6
      have H6 := Lib.hid h6; have HB6 := Lib.hid (HB5.out.trans (ha6.to_below G5.out HB5.out.size)); clear h6 hS6 ha6 H5
    · have H7 : Hid (IsFold w6 S6 f [l0]) := H6
      have c7 := fun (W : World) (h : IsFold W S6 f [l0]) => fofind_any h K3.out t WT.out
      have c8 := fun (W : World) (h : IsFold W S6 f [l0]) => fofind_any h K3.out s WS.out
      have c9 := fun (W : World) (h : IsFold W S6 f [l0]) => fowait_any h K3.out
      simp only [show nowL [l0] = l0 from rfl, E4.out] at c7
      simp only [show nowL [l0] = l0 from rfl, E3.out] at c8
      have C7 := Lib.hid c7; have C8 := Lib.hid c8; have C9 := Lib.hid c9
      clear c7 c8 c9 H6
      go_wp2_with fail
      refine (C7.out _ H7.out).mono ?_
      rintro e w7 ⟨rfl, hb7⟩
      have H8 := Lib.hid (H7.out.below hb7); have HB7 := Lib.hid (HB6.out.trans (hb7.mono HB6.out.size)); clear hb7
      go_wp2_with fail
      refine (C8.out _ H8.out).mono ?_
      rintro e w8 ⟨rfl, hb8⟩
      have H9 := Lib.hid (H8.out.below hb8); have HB8 := Lib.hid (HB7.out.trans (hb8.mono HB7.out.size)); clear hb8
      go_wp2_with fail
      refine (C9.out _ H9.out).mono ?_
      rintro e w9 ⟨rfl, hb9⟩
      have HB9 := Lib.hid (HB8.out.trans (hb9.mono HB8.out.size)); clear hb9
      go_wp2_with fail
      refine (lives9_any _).mono ?_
      rintro e w10 ⟨rfl, hb10⟩
      go_wp2
      go_ret
      exact ⟨by simp, HB9.out.trans (hb10.mono HB9.out.size)⟩
    · have H7 : Hid (IsFold w6 S6 f [[⟨t, a⟩]]) := H6
      have c7 := fun (W : World) (h : IsFold W S6 f [[⟨t, a⟩]]) => fofind_any h K5.out t WT.out
      have c8 := fun (W : World) (h : IsFold W S6 f [[⟨t, a⟩]]) => fofind_any h K5.out s WS.out
      have c9 := fun (W : World) (h : IsFold W S6 f [[⟨t, a⟩]]) => fowait_any h K5.out
      simp only [show nowL [[⟨t, a⟩]] = [⟨t, a⟩] from rfl, F1.out] at c7
      simp only [show nowL [[⟨t, a⟩]] = [⟨t, a⟩] from rfl, F2.out] at c8
      have C7 := Lib.hid c7; have C8 := Lib.hid c8; have C9 := Lib.hid c9
      clear c7 c8 c9 H6
      go_wp2_with fail
      refine (C7.out _ H7.out).mono ?_
      rintro e w7 ⟨rfl, hb7⟩
      have H8 := Lib.hid (H7.out.below hb7); have HB7 := Lib.hid (HB6.out.trans (hb7.mono HB6.out.size)); clear hb7
      go_wp2_with fail
      refine (C8.out _ H8.out).mono ?_
      rintro e w8 ⟨rfl, hb8⟩
      have H9 := Lib.hid (H8.out.below hb8); have HB8 := Lib.hid (HB7.out.trans (hb8.mono HB7.out.size)); clear hb8
      go_wp2_with fail
      refine (C9.out _ H9.out).mono ?_
      rintro e w9 ⟨rfl, hb9⟩
      have HB9 := Lib.hid (HB8.out.trans (hb9.mono HB8.out.size)); clear hb9
      go_wp2_with fail
      refine (lives9_any _).mono ?_
      rintro e w10 ⟨rfl, hb10⟩
      go_wp2
      go_ret
      exact ⟨by simp, HB9.out.trans (hb10.mono HB9.out.size)⟩
end Go.Proofs.Ytpcbfkcpefcnjaa
