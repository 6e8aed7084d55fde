/-
  What the function of places yields, as an iterator's contract.
-/
import Derived.Test.YtibbglmhcjnedaaDoorScanPlaces
namespace Go.Proofs.YtibbglmhcjnedaaDoor
open Go.RowKit Go.Shelf
set_option linter.unusedVariables false
attribute [local go_sem] Oper.semAt_some

theorem kpb_first {n b1 b2 : Nat} {w w' : World} (h : KpB n b1 b2 w w') (hn : 0 < n) (hF : First w) : First w' := hF.below h.1 hn
theorem box_onto {w w' : World} {b : Nat} {t : TypeId} {v : Value} (h : Boxed w b t v) (hb : Below w.heap.size w w') : Boxed w' b t v := (hb.block b h.lt).trans h
theorem step_room {l : List UInt8} {k : Nat} (hk : k ≤ l.length) : k + stepF l k ≤ l.length := by
  unfold stepF
  split
  · rename_i h
    have := (fillL_yes.1 h).2.1
    have := upT_ge k
    omega
  · omega

theorem step_roomB {l : List UInt8} {k : Nat} (hk : k ≤ l.length) : k + stepB l k ≤ l.length := by unfold stepB; split <;> omega

set_option maxRecDepth 100000 in
set_option maxHeartbeats 1000000 in
theorem siter_filled (s : ByteArray) (hs : s.size ≤ maxLen) (n0 b1 b2 : Nat) (hn0 : 0 < n0) (w : World) (h1 : Boxed w b1 9 (.string s)) (h2 : Boxed w b2 55 (.func (.func 24) #[] #[])) (hF : First w) :
    Gives Tryd.prog 32 #[.pointer (some ⟨b1, 0, none⟩), .pointer (some ⟨b2, 0, none⟩)] (σ := Nat) (X := Nat × Option Addr) (fun x => #[.int .i64 x.1, .pointer x.2]) (nxtK (stepF s.data.toList) s.data.toList)
      (fun k x W => x.1 = k ∧ k ≤ s.size ∧ FrP s.data.toList k x.2 W) (KpB n0 b1 b2) 0 w := by
  intro n l J D Jx W hW hJ hD hY hnx h0
  have hlen : s.data.toList.length = s.size := by simp
  have hb1 := box_onto h1 hW
  have hb2 := box_onto h2 hW
  have hF1 := hF.onto hW
  refine callsIn_of_wp Tryd.func32 rfl trivial ?_ rfl
  simp only [Tryd.ntmps32, List.size_toArray, List.length_cons, List.length_nil, Nat.reduceAdd, Nat.reduceSub, Array.replicate_succ, Array.replicate_zero, List.push_toArray, List.append_toArray, List.nil_append, List.cons_append]
  gi_wp2
  gi_loopw [4] (fun a wr => ∃ k : Nat, a = .int .i64 k ∧ k ≤ s.size ∧ J k wr ∧ Boxed wr b1 9 (.string s) ∧ Boxed wr b2 55 (.func (.func 24) #[] #[]) ∧ First wr) (fun a _ => s.size + 1 - (intOf a).toNat)
  case atStart => exact ⟨0, rfl, Nat.zero_le _, h0, hb1, hb2, hF1⟩
  case round =>
    obtain ⟨k, rfl, hk, hJk, q1, q2, hFk⟩ := hrel
    have c1 := callsIn_wide (n := n - 1) |>.2 (sfirst_any s hs k hk wr hFk)
    have C1 := Lib.hid c1
    have c0 := q1.cell
    have hs' := hs
    unfold maxLen at hs'
    clear c1
    gi_wp2_with fail
    refine ⟨trivial, fun e => (by cases e), C1.out.mono ?_⟩
    rintro e w1 ⟨p, rfl, hp, hb⟩
    have q1' := box_onto q1 hb
    have q2' := box_onto q2 hb
    have hF1' := hFk.onto hb
    obtain ⟨fn, tmps, assign, body, hy, hR⟩ := hY k (k, p) w1 (hJ _ _ _ hJk hb) ⟨rfl, hk, hp⟩
    dsimp only at hy
    have HR := Lib.hid hR
    have HD := Lib.hid hD; have HX := Lib.hid hnx
    clear C1 c0 q1 q2 hFk hJk hb hR hD hnx hJ hY
    by_cases hok : okL s.data.toList k
    · have hp' : ∃ b, p = some ⟨b, 0, none⟩ := by unfold FrP at hp; rw [if_pos hok] at hp; obtain ⟨b, e, _⟩ := hp; exact ⟨b, e⟩
      obtain ⟨b, rfl⟩ := hp'
      obtain ⟨m1, m2, m3⟩ := ok_len hok
      have HN := Lib.hid (show nxtK (stepF s.data.toList) s.data.toList k = some (k + lnL s.data.toList k) from if_pos hok)
      have hl : lenF s.data.toList k = lnL s.data.toList k := if_pos hok
      rw [hl]
      rw [hlen] at m1
      obtain ⟨m, hm⟩ : ∃ m, lnL s.data.toList k = m := ⟨_, rfl⟩
      rw [hm] at m1 m2 m3 HN ⊢
      have r0 : ((m : Int) == 0) = false := by simp; omega
      clear hok hl hm hp
      gi_wp2_with fail
      refine ⟨fun e => (by cases e), HR.out.mono ?_⟩
      rintro e W2 (⟨rfl, hD2, hk2⟩ | ⟨rfl, hx2⟩)
      · have HD2 := Lib.hid hD2; have HK2 := Lib.hid hk2
        clear hD2 hk2
        gi_wp2
        go_roundw
        case rel => exact ⟨k + m, by go_num, by omega, HX.out _ _ _ HD2.out HN.out, HK2.out.2.1.trans q1', HK2.out.2.2.trans q2', kpb_first HK2.out hn0 hF1'⟩
        case measure => simp [intOf]; omega
      · gi_wp2
        refine bodyPost_ret (results_none rfl _ _ _) rfl ?_
        exact ⟨⟨_, rfl⟩, .inr hx2⟩
    · obtain rfl : p = none := by unfold FrP at hp; rwa [if_neg hok] at hp
      have hl : lenF s.data.toList k = 0 := if_neg hok
      rw [hl]
      have hroom := step_room (l := s.data.toList) (k := k) (by omega)
      rw [hlen] at hroom
      have c2 := sfilled_any s hs k hk
      have HN := Lib.hid (show nxtK (stepF s.data.toList) s.data.toList k = (if stepF s.data.toList k = 0 then none else some (k + stepF s.data.toList k)) from if_neg hok)
      obtain ⟨m, hm⟩ : ∃ m, stepF s.data.toList k = m := ⟨_, rfl⟩
      rw [hm] at hroom c2 HN
      have C2 := Lib.hid c2
      clear hok hl hm hp c2
      gi_wp2_with fail
      refine ⟨fun e => (by cases e), HR.out.mono ?_⟩
      rintro e W2 (⟨rfl, hD2, hk2⟩ | ⟨rfl, hx2⟩)
      · have HD2 := Lib.hid hD2; have HF2 := Lib.hid (kpb_first hk2 hn0 hF1')
        have q1 : Boxed W2 b1 9 (.string s) := hk2.2.1.trans q1'
        have q2 : Boxed W2 b2 55 (.func (.func 24) #[] #[]) := hk2.2.2.trans q2'
        have c1 := q1.cell
        have c2 := q2.cell
        clear hD2 hk2 HR
        gi_wp2_with fail
        refine ⟨trivial, fun e => (by cases e), (callsIn_wide.2 (C2.out _)).mono ?_⟩
        rintro e W3 ⟨rfl, hb3⟩
        have HD3 := Lib.hid (HD.out _ _ _ HD2.out hb3); have HF3 := Lib.hid (HF2.out.onto hb3)
        have Q1 := Lib.hid (box_onto q1 hb3); have Q2 := Lib.hid (box_onto q2 hb3)
        clear q1 q2 c1 c2 hb3 HF2 HD2
        by_cases hm0 : m = 0
        · subst hm0
          have HN2 := Lib.hid (HN.out.trans (if_pos rfl))
          gi_wp2
          refine bodyPost_ret (results_none rfl _ _ _) rfl ?_
          exact ⟨⟨_, rfl⟩, .inl ⟨k, HN2.out, HD3.out⟩⟩
        · have HN2 := Lib.hid (HN.out.trans (if_neg hm0))
          have r0 : ((m : Int) == 0) = false := by simp; omega
          gi_wp2
          go_roundw
          case rel => exact ⟨k + m, by go_num, by omega, HX.out _ _ _ HD3.out HN2.out, Q1.out, Q2.out, HF3.out⟩
          case measure => simp [intOf]; omega
      · gi_wp2
        refine bodyPost_ret (results_none rfl _ _ _) rfl ?_
        exact ⟨⟨_, rfl⟩, .inr hx2⟩
set_option maxRecDepth 100000 in
set_option maxHeartbeats 1000000 in
theorem siter_one (s : ByteArray) (hs : s.size ≤ maxLen) (n0 b1 b2 : Nat) (hn0 : 0 < n0) (w : World) (h1 : Boxed w b1 9 (.string s)) (h2 : Boxed w b2 55 (.func (.func 27) #[] #[])) (hF : First w) :
    Gives Tryd.prog 32 #[.pointer (some ⟨b1, 0, none⟩), .pointer (some ⟨b2, 0, none⟩)] (σ := Nat) (X := Nat × Option Addr) (fun x => #[.int .i64 x.1, .pointer x.2]) (nxtK (stepB s.data.toList) s.data.toList)
      (fun k x W => x.1 = k ∧ k ≤ s.size ∧ FrP s.data.toList k x.2 W) (KpB n0 b1 b2) 0 w := by
  intro n l J D Jx W hW hJ hD hY hnx h0
  have hlen : s.data.toList.length = s.size := by simp
  have hb1 := box_onto h1 hW
  have hb2 := box_onto h2 hW
  have hF1 := hF.onto hW
  refine callsIn_of_wp Tryd.func32 rfl trivial ?_ rfl
  simp only [Tryd.ntmps32, List.size_toArray, List.length_cons, List.length_nil, Nat.reduceAdd, Nat.reduceSub, Array.replicate_succ, Array.replicate_zero, List.push_toArray, List.append_toArray, List.nil_append, List.cons_append]
  gi_wp2
  gi_loopw [4] (fun a wr => ∃ k : Nat, a = .int .i64 k ∧ k ≤ s.size ∧ J k wr ∧ Boxed wr b1 9 (.string s) ∧ Boxed wr b2 55 (.func (.func 27) #[] #[]) ∧ First wr) (fun a _ => s.size + 1 - (intOf a).toNat)
  case atStart => exact ⟨0, rfl, Nat.zero_le _, h0, hb1, hb2, hF1⟩
  case round =>
    obtain ⟨k, rfl, hk, hJk, q1, q2, hFk⟩ := hrel
    have c1 := callsIn_wide (n := n - 1) |>.2 (sfirst_any s hs k hk wr hFk)
    have C1 := Lib.hid c1
    have c0 := q1.cell
    have hs' := hs
    unfold maxLen at hs'
    clear c1
    gi_wp2_with fail
    refine ⟨trivial, fun e => (by cases e), C1.out.mono ?_⟩
    rintro e w1 ⟨p, rfl, hp, hb⟩
    have q1' := box_onto q1 hb
    have q2' := box_onto q2 hb
    have hF1' := hFk.onto hb
    obtain ⟨fn, tmps, assign, body, hy, hR⟩ := hY k (k, p) w1 (hJ _ _ _ hJk hb) ⟨rfl, hk, hp⟩
    dsimp only at hy
    have HR := Lib.hid hR
    have HD := Lib.hid hD; have HX := Lib.hid hnx
    clear C1 c0 q1 q2 hFk hJk hb hR hD hnx hJ hY
    by_cases hok : okL s.data.toList k
    · have hp' : ∃ b, p = some ⟨b, 0, none⟩ := by unfold FrP at hp; rw [if_pos hok] at hp; obtain ⟨b, e, _⟩ := hp; exact ⟨b, e⟩
      obtain ⟨b, rfl⟩ := hp'
      obtain ⟨m1, m2, m3⟩ := ok_len hok
      have HN := Lib.hid (show nxtK (stepB s.data.toList) s.data.toList k = some (k + lnL s.data.toList k) from if_pos hok)
      have hl : lenF s.data.toList k = lnL s.data.toList k := if_pos hok
      rw [hl]
      rw [hlen] at m1
      obtain ⟨m, hm⟩ : ∃ m, lnL s.data.toList k = m := ⟨_, rfl⟩
      rw [hm] at m1 m2 m3 HN ⊢
      have r0 : ((m : Int) == 0) = false := by simp; omega
      clear hok hl hm hp
      gi_wp2_with fail
      refine ⟨fun e => (by cases e), HR.out.mono ?_⟩
      rintro e W2 (⟨rfl, hD2, hk2⟩ | ⟨rfl, hx2⟩)
      · have HD2 := Lib.hid hD2; have HK2 := Lib.hid hk2
        clear hD2 hk2
        gi_wp2
        go_roundw
        case rel => exact ⟨k + m, by go_num, by omega, HX.out _ _ _ HD2.out HN.out, HK2.out.2.1.trans q1', HK2.out.2.2.trans q2', kpb_first HK2.out hn0 hF1'⟩
        case measure => simp [intOf]; omega
      · gi_wp2
        refine bodyPost_ret (results_none rfl _ _ _) rfl ?_
        exact ⟨⟨_, rfl⟩, .inr hx2⟩
    · obtain rfl : p = none := by unfold FrP at hp; rwa [if_neg hok] at hp
      have hl : lenF s.data.toList k = 0 := if_neg hok
      rw [hl]
      have hroom := step_roomB (l := s.data.toList) (k := k) (by omega)
      rw [hlen] at hroom
      have c2 := sone_any s hs k hk
      have HN := Lib.hid (show nxtK (stepB s.data.toList) s.data.toList k = (if stepB s.data.toList k = 0 then none else some (k + stepB s.data.toList k)) from if_neg hok)
      obtain ⟨m, hm⟩ : ∃ m, stepB s.data.toList k = m := ⟨_, rfl⟩
      rw [hm] at hroom c2 HN
      have C2 := Lib.hid c2
      clear hok hl hm hp c2
      gi_wp2_with fail
      refine ⟨fun e => (by cases e), HR.out.mono ?_⟩
      rintro e W2 (⟨rfl, hD2, hk2⟩ | ⟨rfl, hx2⟩)
      · have HD2 := Lib.hid hD2; have HF2 := Lib.hid (kpb_first hk2 hn0 hF1')
        have q1 : Boxed W2 b1 9 (.string s) := hk2.2.1.trans q1'
        have q2 : Boxed W2 b2 55 (.func (.func 27) #[] #[]) := hk2.2.2.trans q2'
        have c1 := q1.cell
        have c2 := q2.cell
        clear hD2 hk2 HR
        gi_wp2_with fail
        refine ⟨trivial, fun e => (by cases e), (callsIn_wide.2 (C2.out _)).mono ?_⟩
        rintro e W3 ⟨rfl, hb3⟩
        have HD3 := Lib.hid (HD.out _ _ _ HD2.out hb3); have HF3 := Lib.hid (HF2.out.onto hb3)
        have Q1 := Lib.hid (box_onto q1 hb3); have Q2 := Lib.hid (box_onto q2 hb3)
        clear q1 q2 c1 c2 hb3 HF2 HD2
        by_cases hm0 : m = 0
        · subst hm0
          have HN2 := Lib.hid (HN.out.trans (if_pos rfl))
          gi_wp2
          refine bodyPost_ret (results_none rfl _ _ _) rfl ?_
          exact ⟨⟨_, rfl⟩, .inl ⟨k, HN2.out, HD3.out⟩⟩
        · have HN2 := Lib.hid (HN.out.trans (if_neg hm0))
          have r0 : ((m : Int) == 0) = false := by simp; omega
          gi_wp2
          go_roundw
          case rel => exact ⟨k + m, by go_num, by omega, HX.out _ _ _ HD3.out HN2.out, Q1.out, Q2.out, HF3.out⟩
          case measure => simp [intOf]; omega
      · gi_wp2
        refine bodyPost_ret (results_none rfl _ _ _) rfl ?_
        exact ⟨⟨_, rfl⟩, .inr hx2⟩
end Go.Proofs.YtibbglmhcjnedaaDoor
